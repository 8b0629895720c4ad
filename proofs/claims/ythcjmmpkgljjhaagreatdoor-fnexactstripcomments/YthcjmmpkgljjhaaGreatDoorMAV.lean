import Derived.Test.YthcjmmpkgljjhaaGreatDoorMAM
import Derived.Test.YthcjmmpkgljjhaaGreatDoorMAQ
namespace Go.Proofs.YthcjmmpkgljjhaaGreatDoor
open Go.RowKit

set_option maxHeartbeats 1000000 in
theorem hexValue_any (p : Int) (w : World) : Calls Tryz.prog 97 #[.int .i32 p] w fun e w' => e = .returned (.int .i64 (hexV p)) ∧ w = w' := by
  cases hd : isDig p
  · by_cases ha : 97 ≤ p
    · by_cases hb : p ≤ 102
      · have HI : Hid (hexV p = p - 97 + 10) := by simp [Hid, hexV, hd, ha, hb]
        go_enter Tryz.func97, Tryz.ntmps97
        go_wp2_with (go_at_call 98; refine (isDigit_any _ _).mono ?_; rintro e w' ⟨rfl, rfl⟩; rw [hd])
        go_ret
        exact ⟨by rw [HI.out]; first | rfl | (congr 2; go_num), rfl⟩
      · have hc : ¬ p ≤ 70 := by omega
        have HI : Hid (hexV p = -1) := by simp [Hid, hexV, hd, ha, hb]; omega
        have he : 65 ≤ p := by omega
        go_enter Tryz.func97, Tryz.ntmps97
        go_wp2_with (go_at_call 98; refine (isDigit_any _ _).mono ?_; rintro e w' ⟨rfl, rfl⟩; rw [hd])
        go_ret
        exact ⟨by rw [HI.out]; rfl, rfl⟩
    · by_cases hc : 65 ≤ p
      · by_cases he : p ≤ 70
        · have HI : Hid (hexV p = p - 65 + 10) := by simp [Hid, hexV, hd, ha, hc, he]
          go_enter Tryz.func97, Tryz.ntmps97
          go_wp2_with (go_at_call 98; refine (isDigit_any _ _).mono ?_; rintro e w' ⟨rfl, rfl⟩; rw [hd])
          go_ret
          exact ⟨by rw [HI.out]; first | rfl | (congr 2; go_num), rfl⟩
        · have HI : Hid (hexV p = -1) := by simp [Hid, hexV, hd, ha, hc, he]
          go_enter Tryz.func97, Tryz.ntmps97
          go_wp2_with (go_at_call 98; refine (isDigit_any _ _).mono ?_; rintro e w' ⟨rfl, rfl⟩; rw [hd])
          go_ret
          exact ⟨by rw [HI.out]; rfl, rfl⟩
      · have HI : Hid (hexV p = -1) := by simp [Hid, hexV, hd, ha, hc]
        go_enter Tryz.func97, Tryz.ntmps97
        go_wp2_with (go_at_call 98; refine (isDigit_any _ _).mono ?_; rintro e w' ⟨rfl, rfl⟩; rw [hd])
        go_ret
        exact ⟨by rw [HI.out]; rfl, rfl⟩
  · have HI : Hid (hexV p = p - 48) := by simp [Hid, hexV, hd]
    have hd' : 48 ≤ p ∧ p ≤ 57 := by simpa [isDig] using hd
    obtain ⟨hd0, hd1⟩ := hd'
    go_enter Tryz.func97, Tryz.ntmps97
    go_wp2_with (go_at_call 98; refine (isDigit_any _ _).mono ?_; rintro e w' ⟨rfl, rfl⟩; rw [hd])
    go_ret
    exact ⟨by rw [HI.out]; first | rfl | (congr 2; go_num), rfl⟩

end Go.Proofs.YthcjmmpkgljjhaaGreatDoor

namespace Go.Proofs.YthcjmmpkgljjhaaGreatDoor
open Go.RowKit

set_option maxHeartbeats 400000 in
theorem isHexDigit_any (p : Int) (w : World) : Calls Tryz.prog 85 #[.int .i32 p] w fun e w' => e = .returned (.bool (isHex p)) ∧ w = w' := by
  go_enter Tryz.func85, Tryz.ntmps85
  go_wp2_with (go_at_call 97; refine (hexValue_any _ _).mono ?_; rintro e w' ⟨rfl, rfl⟩)
  go_ret
  exact ⟨rfl, rfl⟩
theorem asks_hex : Asks 85 isHex := ⟨fun p W => isHexDigit_any p W, fun args W => by kernel_rfl⟩
theorem asc_hex : Asc isHex := fun p h => by
  have h : 0 ≤ hexV p := of_decide_eq_true h
  unfold hexV at h
  split at h
  · rename_i hd; simp [isDig] at hd; omega
  · split at h
    · omega
    · split at h
      · omega
      · omega

end Go.Proofs.YthcjmmpkgljjhaaGreatDoor

