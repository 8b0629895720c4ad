import Derived.Test.YtdcajkgmhimffaaDoorRRHexI
import Derived.Test.YtdcajkgmhimffaaDoorRRScSt
namespace Go.Proofs.YtdcajkgmhimffaaDoorRR
open Go.RowKit

set_option maxHeartbeats 400000 in
theorem isHexDigit_any (p : Int) (w : World) : Calls Tryd.prog 30 #[.int .i32 p] w fun e w' => e = .returned (.bool (isHex p)) ∧ w = w' := by
  go_enter Tryd.func30, Tryd.ntmps30
  go_wp2_with (go_at_call 43; refine (hexValue_any _ _).mono ?_; rintro e w' ⟨rfl, rfl⟩)
  go_ret
  exact ⟨rfl, rfl⟩
theorem asks_hex : Asks 30 isHex := ⟨fun p W => isHexDigit_any p W, fun args W => by kernel_rfl⟩
theorem asc_hex : Asc isHex := fun p h => by
  have h : 0 ≤ hexV p := of_decide_eq_true h
  unfold hexV at h
  split at h
  · rename_i hd; simp [isDig] at hd; omega
  · split at h
    · omega
    · split at h
      · omega
      · omega

end Go.Proofs.YtdcajkgmhimffaaDoorRR
