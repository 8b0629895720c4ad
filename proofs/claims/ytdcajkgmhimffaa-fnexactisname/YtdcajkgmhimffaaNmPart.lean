import Derived.Test.YtdcajkgmhimffaaLetI
import Derived.Test.YtdcajkgmhimffaaDigI
namespace Go.Proofs.Ytdcajkgmhimffaa
open Go.RowKit

set_option maxHeartbeats 400000 in
theorem isNamePart_any (p : Int) (w : World) : Calls Try.prog 11 #[.int .i32 p] w fun e w' => e = .returned (.bool (isLet p || isDig p)) ∧ w = w' := by
  cases h1 : isLet p
  all_goals
    go_enter Try.func11, Try.ntmps11
    go_wp2_with (first
      | (go_at_call 12; refine (isNameStart_any _ _).mono ?_; rintro e w' ⟨rfl, rfl⟩; rw [h1])
      | (go_at_call 13; refine (isDigit_any _ _).mono ?_; rintro e w' ⟨rfl, rfl⟩))
    go_ret
    exact ⟨by simp, rfl⟩

end Go.Proofs.Ytdcajkgmhimffaa
