import Derived.Test.YtdcajkgmhimffabToLaw
import Derived.Test.YtdcajkgmhimffabTuSpec
import Derived.Test.YtdcajkgmhimffabTuImpl
namespace Go.Proofs.Ytdcajkgmhimffab
open Go.RowKit

theorem toUnits_law (a : Option Addr) (cap : Nat) (zs : List Int) (w : World) (hv : RdI w.heap.size w (.slice a zs.length cap) zs) (hm : zs.length ≤ 9223372036854775807) :
    Calls Try.prog 3 #[.slice a zs.length cap] w fun e w' => e = .returned (.bool true) ∧ Below w.heap.size w w' := by
  by_cases hl : zs.length ≤ 1048576
  · have hR := tuR_len zs
    exact to_short (fun _ => True) a cap zs (tuR zs).1 (tuR zs).2 w hv hl (by omega) (fun _ _ => trivial) (fun v w h => specToUnits_any v zs w h (by omega)) (fun _ v w h _ => implToUnits_any v zs w h.rd (by omega))
  · exact to_long a cap zs.length w (by omega) hm

end Go.Proofs.Ytdcajkgmhimffab
