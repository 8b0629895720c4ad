import Derived.Test.YtkkcnpokobndcaaDoorFsSz
import Derived.Test.YtkkcnpokobndcaaDoorFsEq
import Derived.Test.YtkkcnpokobndcaaDoorFsTo
namespace Go.Proofs.YtkkcnpokobndcaaDoor
open Go.RowKit

theorem rdB_belowB {B : Nat} {w w' : World} {v : Value} {zs : List Int} (hv : RdB B w v zs) (hb : Below B w w') : RdB B w' v zs := by
  obtain ⟨a, cap, e, hr⟩ := hv
  refine ⟨a, cap, e, fun h0 => ?_⟩
  obtain ⟨b, off, ha, hb2, hc⟩ := hr h0
  exact ⟨b, off, ha, hb2, fun j hj => (hb.cell hb2).trans (hc j hj)⟩

end Go.Proofs.YtkkcnpokobndcaaDoor
