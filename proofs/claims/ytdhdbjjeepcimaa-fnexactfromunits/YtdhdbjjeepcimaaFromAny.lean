import Derived.Test.YtdhdbjjeepcimaaFromLaw
import Derived.Test.YtdhdbjjeepcimaaFuSpec
import Derived.Test.YtdhdbjjeepcimaaFuImpl
namespace Go.Proofs.Ytdhdbjjeepcimaa
open Go.RowKit

theorem fromUnits_law (a : Option Addr) (cap : Nat) (zs : List Int) (w : World) (hv : RdI w.heap.size w (.slice a zs.length cap) zs) (hm : zs.length ≤ 9223372036854775807) :
    Calls Try.prog 4 #[.slice a zs.length cap] w fun e w' => e = .returned (.bool true) ∧ Below w.heap.size w w' := by
  by_cases hl : zs.length ≤ 1048576
  · have hR := fuR_len zs
    exact from_short a cap zs (fuR zs).1 (fuR zs).2 w hv hl (by omega) (fun v w h => specFromUnits_any v zs w h (by omega)) (fun v w h => implFromUnits_any v zs w h (by omega))
  · exact from_long a cap zs.length w (by omega) hm

end Go.Proofs.Ytdhdbjjeepcimaa
