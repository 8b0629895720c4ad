import Derived.Test.YtdhdbjjeepcimabDoorEncLaw
import Derived.Test.YtdhdbjjeepcimabDoorEncSpec
import Derived.Test.YtdhdbjjeepcimabDoorEncImpl
namespace Go.Proofs.YtdhdbjjeepcimabDoor
open Go.RowKit

theorem encodeText_law (a : Option Addr) (cap : Nat) (zs : List Int) (w : World) (hv : RdI w.heap.size w (.slice a zs.length cap) zs) (hm : zs.length ≤ 9223372036854775807) (hT : Tab w) :
    Calls Tryd.prog 3 #[.slice a zs.length cap] w fun e w' => e = .returned (.bool true) ∧ Below w.heap.size w w' := by
  by_cases hl : zs.length ≤ 1048576
  · have hR := encR_len zs
    exact enc_short Tab a cap zs (encR zs).1 (encR zs).2 w hv hl (by omega) (fun _ h => hT.keep h) (fun v w h => specEncodeText_any v zs w h (by omega)) (fun v w h hT => implEncodeText_any v zs w h (by omega) hT)
  · exact enc_long a cap zs.length w (by omega) hm

end Go.Proofs.YtdhdbjjeepcimabDoor
