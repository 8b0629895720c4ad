import Derived.Test.YtdcajkgmhimffaaNmLaw
import Derived.Test.YtdcajkgmhimffaaNmSpec
import Derived.Test.YtdcajkgmhimffaaNmImpl
namespace Go.Proofs.Ytdcajkgmhimffaa
open Go.RowKit

theorem isName_law (a : Option Addr) (cap : Nat) (zs : List Int) (w : World) (hv : RdI w.heap.size w (.slice a zs.length cap) zs) (hm : zs.length ≤ 9223372036854775807) :
    Calls Try.prog 3 #[.slice a zs.length cap] w fun e w' => e = .returned (.bool true) ∧ Below w.heap.size w w' := by
  by_cases hl : zs.length ≤ 1048576
  · exact nm_short (fun _ => True) a cap zs (nmR zs) w hv hl (fun _ _ => trivial)
      (fun v w h => (specIsName_any v zs w h (by omega)).mono fun e w' h' => ⟨h'.1, by rw [← h'.2]; exact World.grownBy.refl _ _⟩)
      (fun _ v w h _ => (implIsName_any v zs w h.rd (by omega)).mono fun e w' h' => ⟨h'.1, by rw [← h'.2]; exact World.grownBy.refl _ _⟩)
  · exact nm_long a cap zs.length w (by omega) hm

end Go.Proofs.Ytdcajkgmhimffaa
