import Derived.Test.YtbiiopiaglkicaaDoorBase
namespace Go.Proofs.YtbiiopiaglkicaaDoor
open Go.RowKit

set_option maxHeartbeats 400000 in
theorem isLow_any (p : Int) (w : World) : Calls Tryd.prog 113 #[.int .i64 p] w fun e w' => e = .returned (.bool (isLo p)) ∧ w = w' := by
  by_cases h0 : 56320 ≤ p
  · by_cases h1 : p ≤ 57343
    · have HI : Hid (isLo p = true) := by simp [Hid, isLo, h0, h1]
      go_enter Tryd.func113, Tryd.ntmps113
      go_wp2
      go_ret
      exact ⟨by rw [HI.out]; rfl, rfl⟩
    · have HI : Hid (isLo p = false) := by simp [Hid, isLo]; omega
      go_enter Tryd.func113, Tryd.ntmps113
      go_wp2
      go_ret
      exact ⟨by rw [HI.out]; rfl, rfl⟩
  · have HI : Hid (isLo p = false) := by simp [Hid, isLo]; omega
    go_enter Tryd.func113, Tryd.ntmps113
    go_wp2
    go_ret
    exact ⟨by rw [HI.out]; rfl, rfl⟩

end Go.Proofs.YtbiiopiaglkicaaDoor
