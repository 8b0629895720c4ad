import Derived.Test.YtdcajkgmhimffaaNmPure
namespace Go.Proofs.Ytdcajkgmhimffaa
open Go.RowKit

set_option maxHeartbeats 1000000 in
theorem isNameStart_any (p : Int) (w : World) : Calls Try.prog 12 #[.int .i32 p] w fun e w' => e = .returned (.bool (isLet p)) ∧ w = w' := by
  by_cases h : isLet p = true
  · have HI : Hid (isLet p = true) := h
    have h' : (97 ≤ p ∧ p ≤ 122) ∨ (65 ≤ p ∧ p ≤ 90) ∨ p = 95 ∨ p = 36 := by simpa [isLet] using h
    clear h
    rcases h' with ⟨h1, h2⟩ | ⟨h1, h2⟩ | rfl | rfl
    · have h3 : ¬ p ≤ 90 := by omega
      have h4 : 65 ≤ p := by omega
      go_enter Try.func12, Try.ntmps12
      go_wp2
      go_ret
      exact ⟨by rw [HI.out]; rfl, rfl⟩
    · have h3 : ¬ 97 ≤ p := by omega
      go_enter Try.func12, Try.ntmps12
      go_wp2
      go_ret
      exact ⟨by rw [HI.out]; rfl, rfl⟩
    all_goals
      go_enter Try.func12, Try.ntmps12
      go_wp2
      go_ret
      exact ⟨rfl, rfl⟩
  · have HI : Hid (isLet p = false) := by simpa [Hid] using h
    have h' : ¬ ((97 ≤ p ∧ p ≤ 122) ∨ (65 ≤ p ∧ p ≤ 90) ∨ p = 95 ∨ p = 36) := by simpa [isLet] using h
    clear h
    have h95 : (p == 95) = false := by simp; omega
    have h36 : (p == 36) = false := by simp; omega
    by_cases h1 : 65 ≤ p
    · have h2 : ¬ p ≤ 90 := by omega
      by_cases h3 : 97 ≤ p
      · have h4 : ¬ p ≤ 122 := by omega
        clear h'
        go_enter Try.func12, Try.ntmps12
        go_wp2
        go_ret
        exact ⟨by rw [HI.out]; rfl, rfl⟩
      · clear h'
        go_enter Try.func12, Try.ntmps12
        go_wp2
        go_ret
        exact ⟨by rw [HI.out]; rfl, rfl⟩
    · have h3 : ¬ 97 ≤ p := by omega
      clear h'
      go_enter Try.func12, Try.ntmps12
      go_wp2
      go_ret
      exact ⟨by rw [HI.out]; rfl, rfl⟩

end Go.Proofs.Ytdcajkgmhimffaa
