import Derived.Test.YtdcajkgmhimffaaDoorRRNumPure
import Derived.Test.YtdcajkgmhimffaaDoorRRDigS
namespace Go.Proofs.YtdcajkgmhimffaaDoorRR
open Go.RowKit

set_option maxHeartbeats 1000000 in
theorem l4hex_any (p : Int) (w : World) : Calls Tryd.prog 38 #[.int .i64 p] w fun e w' => e = .returned (.int .i64 (hexV p)) ∧ w = w' := by
  cases hd : isDig p
  · by_cases ha : 97 ≤ p
    · by_cases hb : p ≤ 102
      · have HI : Hid (hexV p = p - 97 + 10) := by simp [Hid, hexV, hd, ha, hb]
        go_enter Tryd.func38, Tryd.ntmps38
        go_wp2_with (go_at_call 39; refine (l4digit_any _ _).mono ?_; rintro e w' ⟨rfl, rfl⟩; rw [hd])
        go_ret
        exact ⟨by rw [HI.out]; first | rfl | (congr 2; go_num), rfl⟩
      · have hc : ¬ p ≤ 70 := by omega
        have HI : Hid (hexV p = -1) := by simp [Hid, hexV, hd, ha, hb]; omega
        have he : 65 ≤ p := by omega
        go_enter Tryd.func38, Tryd.ntmps38
        go_wp2_with (go_at_call 39; refine (l4digit_any _ _).mono ?_; rintro e w' ⟨rfl, rfl⟩; rw [hd])
        go_ret
        exact ⟨by rw [HI.out]; rfl, rfl⟩
    · by_cases hc : 65 ≤ p
      · by_cases he : p ≤ 70
        · have HI : Hid (hexV p = p - 65 + 10) := by simp [Hid, hexV, hd, ha, hc, he]
          go_enter Tryd.func38, Tryd.ntmps38
          go_wp2_with (go_at_call 39; refine (l4digit_any _ _).mono ?_; rintro e w' ⟨rfl, rfl⟩; rw [hd])
          go_ret
          exact ⟨by rw [HI.out]; first | rfl | (congr 2; go_num), rfl⟩
        · have HI : Hid (hexV p = -1) := by simp [Hid, hexV, hd, ha, hc, he]
          go_enter Tryd.func38, Tryd.ntmps38
          go_wp2_with (go_at_call 39; refine (l4digit_any _ _).mono ?_; rintro e w' ⟨rfl, rfl⟩; rw [hd])
          go_ret
          exact ⟨by rw [HI.out]; rfl, rfl⟩
      · have HI : Hid (hexV p = -1) := by simp [Hid, hexV, hd, ha, hc]
        go_enter Tryd.func38, Tryd.ntmps38
        go_wp2_with (go_at_call 39; refine (l4digit_any _ _).mono ?_; rintro e w' ⟨rfl, rfl⟩; rw [hd])
        go_ret
        exact ⟨by rw [HI.out]; rfl, rfl⟩
  · have HI : Hid (hexV p = p - 48) := by simp [Hid, hexV, hd]
    have hd' : 48 ≤ p ∧ p ≤ 57 := by simpa [isDig] using hd
    obtain ⟨hd0, hd1⟩ := hd'
    go_enter Tryd.func38, Tryd.ntmps38
    go_wp2_with (go_at_call 39; refine (l4digit_any _ _).mono ?_; rintro e w' ⟨rfl, rfl⟩; rw [hd])
    go_ret
    exact ⟨by rw [HI.out]; first | rfl | (congr 2; go_num), rfl⟩

end Go.Proofs.YtdcajkgmhimffaaDoorRR
