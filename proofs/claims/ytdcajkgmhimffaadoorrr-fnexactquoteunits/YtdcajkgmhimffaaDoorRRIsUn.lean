import Derived.Test.YtdcajkgmhimffaaDoorRRBase
namespace Go.Proofs.YtdcajkgmhimffaaDoorRR
open Go.RowKit

set_option maxHeartbeats 400000 in
theorem isUnit_any (p : Int) (w : World) : Calls Tryd.prog 32 #[.int .i64 p] w fun e w' => e = .returned (.bool (isUn p)) ∧ w = w' := by
  by_cases h0 : 0 ≤ p
  · by_cases h1 : p < 65536
    · have HI : Hid (isUn p = true) := by simp [Hid, isUn, h0, h1]
      go_enter Tryd.func32, Tryd.ntmps32
      go_wp2
      go_ret
      exact ⟨by rw [HI.out]; rfl, rfl⟩
    · have HI : Hid (isUn p = false) := by simp [Hid, isUn]; omega
      go_enter Tryd.func32, Tryd.ntmps32
      go_wp2
      go_ret
      exact ⟨by rw [HI.out]; rfl, rfl⟩
  · have HI : Hid (isUn p = false) := by simp [Hid, isUn]; omega
    go_enter Tryd.func32, Tryd.ntmps32
    go_wp2
    go_ret
    exact ⟨by rw [HI.out]; rfl, rfl⟩

end Go.Proofs.YtdcajkgmhimffaaDoorRR
