import Derived.Test.YtbiiopiaglkicaaDoorBase
namespace Go.Proofs.YtbiiopiaglkicaaDoor
open Go.RowKit

set_option maxHeartbeats 400000 in
theorem isHigh_any (p : Int) (w : World) : Calls Tryd.prog 112 #[.int .i64 p] w fun e w' => e = .returned (.bool (isHi p)) ∧ w = w' := by
  by_cases h0 : 55296 ≤ p
  · by_cases h1 : p < 56320
    · have HI : Hid (isHi p = true) := by simp [Hid, isHi, h0, h1]
      go_enter Tryd.func112, Tryd.ntmps112
      go_wp2
      go_ret
      exact ⟨by rw [HI.out]; rfl, rfl⟩
    · have HI : Hid (isHi p = false) := by simp [Hid, isHi]; omega
      go_enter Tryd.func112, Tryd.ntmps112
      go_wp2
      go_ret
      exact ⟨by rw [HI.out]; rfl, rfl⟩
  · have HI : Hid (isHi p = false) := by simp [Hid, isHi]; omega
    go_enter Tryd.func112, Tryd.ntmps112
    go_wp2
    go_ret
    exact ⟨by rw [HI.out]; rfl, rfl⟩

end Go.Proofs.YtbiiopiaglkicaaDoor
