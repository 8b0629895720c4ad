import Derived.Test.YtbiiopiaglkicaaDoorEnc
namespace Go.Proofs.YtbiiopiaglkicaaDoor
open Go.RowKit

set_option maxHeartbeats 800000 in
theorem l1need_any (p : Int) (w : World) : Calls Tryd.prog 96 #[.int .i64 p] w fun e w' => e = .returned (.int .i64 (need p)) ∧ w = w' := by
  by_cases h0 : p < 0
  · have HE : Hid (need p = 0) := by simp [Hid, need, okPt]; omega
    go_enter Tryd.func96, Tryd.ntmps96
    go_wp2
    go_ret
    exact ⟨by rw [HE.out]; rfl, rfl⟩
  · by_cases h1 : 1114111 < p
    · have HE : Hid (need p = 0) := by simp [Hid, need, okPt]; omega
      go_enter Tryd.func96, Tryd.ntmps96
      go_wp2
      go_ret
      exact ⟨by rw [HE.out]; rfl, rfl⟩
    · by_cases h2 : p < 55296
      · have ho : okPt p = true := by simp [okPt]; omega
        by_cases h3 : p < 128
        · have HE : Hid (need p = 1) := by simp [Hid, need, ho, h3]
          clear ho
          go_enter Tryd.func96, Tryd.ntmps96
          go_wp2
          go_ret
          exact ⟨by rw [HE.out]; rfl, rfl⟩
        · by_cases h4 : p < 2048
          · have HE : Hid (need p = 2) := by simp [Hid, need, ho, h3, h4]
            clear ho
            go_enter Tryd.func96, Tryd.ntmps96
            go_wp2
            go_ret
            exact ⟨by rw [HE.out]; rfl, rfl⟩
          · have HE : Hid (need p = 3) := by simp [Hid, need, ho, h3, h4]; omega
            clear ho
            go_enter Tryd.func96, Tryd.ntmps96
            go_wp2
            go_ret
            exact ⟨by rw [HE.out]; rfl, rfl⟩
      · by_cases h3 : p ≤ 57343
        · have HE : Hid (need p = 0) := by simp [Hid, need, okPt]; omega
          go_enter Tryd.func96, Tryd.ntmps96
          go_wp2
          go_ret
          exact ⟨by rw [HE.out]; rfl, rfl⟩
        · have ho : okPt p = true := by simp [okPt]; omega
          by_cases h4 : p < 65536
          · have HE : Hid (need p = 3) := by simp [Hid, need, ho, h4]; omega
            clear ho
            go_enter Tryd.func96, Tryd.ntmps96
            go_wp2
            go_ret
            exact ⟨by rw [HE.out]; rfl, rfl⟩
          · have HE : Hid (need p = 4) := by simp [Hid, need, ho, h4]; omega
            clear ho
            go_enter Tryd.func96, Tryd.ntmps96
            go_wp2
            go_ret
            exact ⟨by rw [HE.out]; rfl, rfl⟩

end Go.Proofs.YtbiiopiaglkicaaDoor
