import Derived.Test.YtbiiopiaglkicaaDoorBase
namespace Go.Proofs.YtbiiopiaglkicaaDoor
open Go.RowKit

set_option maxHeartbeats 400000 in
theorem isPoint_any (p : Int) (w : World) : Calls Tryd.prog 111 #[.int .i64 p] w fun e w' => e = .returned (.bool (isPt p)) ∧ w = w' := by
  by_cases h0 : 0 ≤ p
  · by_cases h1 : p ≤ 1114111
    · have HI : Hid (isPt p = true) := by simp [Hid, isPt, h0, h1]
      go_enter Tryd.func111, Tryd.ntmps111
      go_wp2
      go_ret
      exact ⟨by rw [HI.out]; rfl, rfl⟩
    · have HI : Hid (isPt p = false) := by simp [Hid, isPt]; omega
      go_enter Tryd.func111, Tryd.ntmps111
      go_wp2
      go_ret
      exact ⟨by rw [HI.out]; rfl, rfl⟩
  · have HI : Hid (isPt p = false) := by simp [Hid, isPt]; omega
    go_enter Tryd.func111, Tryd.ntmps111
    go_wp2
    go_ret
    exact ⟨by rw [HI.out]; rfl, rfl⟩

end Go.Proofs.YtbiiopiaglkicaaDoor
