import Derived.Test.YtdcajkgmhimffaaDoorRRNmPure
namespace Go.Proofs.YtdcajkgmhimffaaDoorRR
open Go.RowKit

set_option maxHeartbeats 400000 in
theorem isDigit_any (p : Int) (w : World) : Calls Tryd.prog 44 #[.int .i32 p] w fun e w' => e = .returned (.bool (isDig p)) ∧ w = w' := by
  by_cases h0 : 48 ≤ p
  · by_cases h1 : p ≤ 57
    · have HI : Hid (isDig p = true) := by simp [Hid, isDig, h0, h1]
      go_enter Tryd.func44, Tryd.ntmps44
      go_wp2
      go_ret
      exact ⟨by rw [HI.out]; rfl, rfl⟩
    · have HI : Hid (isDig p = false) := by simp [Hid, isDig]; omega
      go_enter Tryd.func44, Tryd.ntmps44
      go_wp2
      go_ret
      exact ⟨by rw [HI.out]; rfl, rfl⟩
  · have HI : Hid (isDig p = false) := by simp [Hid, isDig]; omega
    go_enter Tryd.func44, Tryd.ntmps44
    go_wp2
    go_ret
    exact ⟨by rw [HI.out]; rfl, rfl⟩

end Go.Proofs.YtdcajkgmhimffaaDoorRR
