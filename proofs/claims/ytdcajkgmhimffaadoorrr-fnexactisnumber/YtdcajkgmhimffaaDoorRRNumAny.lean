import Derived.Test.YtdcajkgmhimffaaDoorRRNumLaw
import Derived.Test.YtdcajkgmhimffaaDoorRRStrUns
import Derived.Test.YtdcajkgmhimffaaDoorRRScNum
namespace Go.Proofs.YtdcajkgmhimffaaDoorRR
open Go.RowKit

theorem isNumber_law (a : Option Addr) (cap : Nat) (zs : List Int) (w : World) (hv : RdB w.heap.size w (.slice a zs.length cap) zs) (hm : zs.length ≤ 9223372036854775807) (hT : Tab w) (hby : Bys zs) :
    Calls Tryd.prog 3 #[.slice a zs.length cap] w fun e w' => e = .returned (.bool true) ∧ Below w.heap.size w w' := by
  by_cases hl : zs.length ≤ 1048576
  · exact num_short Tab a cap zs (numS zs) w hv hl (fun _ h => hT.keep h)
      (fun v w h => (specIsNumber_any v zs w h hby hl).mono fun e w' h' => ⟨h'.1, by rw [← h'.2]; exact World.grownBy.refl _ _⟩)
      (fun _ v w h ht => by rw [num_eq]; exact implIsNumber_any v zs w h.rd h.sl hby hl ht)
  · exact num_long a cap zs.length w (by omega) hm

end Go.Proofs.YtdcajkgmhimffaaDoorRR
