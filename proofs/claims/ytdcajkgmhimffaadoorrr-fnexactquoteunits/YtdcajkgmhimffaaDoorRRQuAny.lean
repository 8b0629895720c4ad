import Derived.Test.YtdcajkgmhimffaaDoorRRQuLaw
import Derived.Test.YtdcajkgmhimffaaDoorRRQuSpec
namespace Go.Proofs.YtdcajkgmhimffaaDoorRR
open Go.RowKit

theorem quR_len (zs : List Int) : (quR zs).1.length ≤ 6 * zs.length + 2 := by
  have h1 := fuR_len zs
  unfold quR
  split
  · have := qAll_len (fuR zs).1
    simp
    omega
  · simp
theorem quoteUnits_law (a : Option Addr) (cap : Nat) (zs : List Int) (w : World) (hv : RdI w.heap.size w (.slice a zs.length cap) zs) (hm : zs.length ≤ 9223372036854775807) (hT : Tab w) :
    Calls Tryd.prog 4 #[.slice a zs.length cap] w fun e w' => e = .returned (.bool true) ∧ Below w.heap.size w w' := by
  by_cases hl : zs.length ≤ 1048576
  · have hR := quR_len zs
    exact qu_short Tab a cap zs (quR zs).1 (quR zs).2 w hv hl (by omega) (fun _ h => hT.keep h) (fun v w h => specQuote_any v zs w h (by omega)) (fun _ v w h hT => implQuote_any v zs w hT h.rd (by omega))
  · exact qu_long a cap zs.length w (by omega) hm

end Go.Proofs.YtdcajkgmhimffaaDoorRR
