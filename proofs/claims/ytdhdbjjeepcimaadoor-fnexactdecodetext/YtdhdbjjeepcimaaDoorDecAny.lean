import Derived.Test.YtdhdbjjeepcimaaDoorDecLaw
import Derived.Test.YtdhdbjjeepcimaaDoorDecImpl
namespace Go.Proofs.YtdhdbjjeepcimaaDoor
open Go.RowKit

theorem decodeText_law (a : Option Addr) (cap : Nat) (zs : List Int) (w : World) (hv : RdB w.heap.size w (.slice a zs.length cap) zs) (hm : zs.length ≤ 9223372036854775807) (hT : Tab w) (hby : Bys zs) :
    Calls Tryd.prog 4 #[.slice a zs.length cap] w fun e w' => e = .returned (.bool true) ∧ Below w.heap.size w w' := by
  by_cases hl : zs.length ≤ 1048576
  · have hR := decR_len zs
    exact dec_short Tab a cap zs (decR zs).1 (decR zs).2.1 (decR zs).2.2 w hv hl (by omega) (fun _ h => hT.keep h) (fun v w h => specDecodeText_any v zs w h hby (by omega)) (fun _ v w h hT => implDecodeText_any v zs w h.rd hby (by omega) h.sl hT)
  · exact dec_long a cap zs.length w (by omega) hm

end Go.Proofs.YtdhdbjjeepcimaaDoor
