import Derived.Test.YtgmjpdejfdldlaaDoorMAA
namespace Go.Proofs.YtgmjpdejfdldlaaDoor
open Go.RowKit

theorem lead_one (c : Int) (h : c < 128) : lead 1 c = c := by simp [lead, h]
theorem lead_two (c : Int) (h : c / 32 = 6) : lead 2 c = c % 32 := by simp [lead, h]
theorem lead_three (c : Int) (h : c / 16 = 14) : lead 3 c = c % 16 := by simp [lead, h]
theorem lead_four (c : Int) (h : c / 8 = 30) : lead 4 c = c % 8 := by simp [lead, h]
theorem lead_no (n : Nat) (c : Int) (h : ¬ (n = 1 ∧ c < 128)) (h2 : ¬ (n = 2 ∧ c / 32 = 6)) (h3 : ¬ (n = 3 ∧ c / 16 = 14)) (h4 : ¬ (n = 4 ∧ c / 8 = 30)) : lead n c = -1 := by
  simp only [lead, if_neg h, if_neg h2, if_neg h3, if_neg h4]

set_option maxHeartbeats 400000 in
set_option maxRecDepth 100000 in
theorem l1value_short (a : Option Addr) (len cap k n : Nat) (w : World) (hm : len ≤ 4194304) (hk : k < len) (h4 : n ≤ 4) (hs : len < k + n) :
    Calls Tryd.prog 69 #[.slice a len cap, .int .i64 k, .int .i64 n] w fun e w' => e = .returned (.int .i64 (-1)) ∧ w = w' := by
  go_enter Tryd.func69, Tryd.ntmps69
  go_wp2
  go_ret
  exact ⟨rfl, rfl⟩

set_option maxHeartbeats 400000 in
set_option maxRecDepth 100000 in
theorem l1value_one (b off len cap k n : Nat) (c : Int) (w : World) (hm : len ≤ 4194304) (hc0 : 0 ≤ c) (hc1 : c < 128) (hcx : w.cell? ⟨b, off + k, none⟩ = some (.int .u8 c)) (hs : k + n ≤ len) (hn : ((n : Int) == 1) = true) :
    Calls Tryd.prog 69 #[.slice (some ⟨b, off, none⟩) len cap, .int .i64 k, .int .i64 n] w fun e w' => e = .returned (.int .i64 c) ∧ w = w' := by
  have hn1 : n = 1 := by simp at hn; omega
  have hlt : k < len := by omega
  clear hn1
  go_enter Tryd.func69, Tryd.ntmps69
  go_wp2
  go_ret
  exact ⟨rfl, rfl⟩

set_option maxHeartbeats 1000000 in
set_option maxRecDepth 100000 in
theorem l1value_no (b off len cap k n : Nat) (c : Int) (w : World) (hm : len ≤ 4194304) (hc0 : 0 ≤ c) (hc1 : c ≤ 255) (hcx : w.cell? ⟨b, off + k, none⟩ = some (.int .u8 c)) (hs : k + n ≤ len) (h1 : 1 ≤ n) (h4 : n ≤ 4)
    (g1 : ¬ (n = 1 ∧ c < 128)) (g2 : ¬ (n = 2 ∧ c / 32 = 6)) (g3 : ¬ (n = 3 ∧ c / 16 = 14)) (g4 : ¬ (n = 4 ∧ c / 8 = 30)) :
    Calls Tryd.prog 69 #[.slice (some ⟨b, off, none⟩) len cap, .int .i64 k, .int .i64 n] w fun e w' => e = .returned (.int .i64 (-1)) ∧ w = w' := by
  have hlt : k < len := by omega
  by_cases n1 : n = 1
  · have t1 : ((n : Int) == 1) = true := by simp; omega
    have t2 : ((n : Int) == 2) = false := by simp; omega
    have t3 : ((n : Int) == 3) = false := by simp; omega
    have t4 : ((n : Int) == 4) = false := by simp; omega
    have hc : 128 ≤ c := by omega
    clear g1 g2 g3 g4 n1
    go_enter Tryd.func69, Tryd.ntmps69
    go_wp2
    go_ret
    exact ⟨rfl, rfl⟩
  · by_cases n2 : n = 2
    · have t1 : ((n : Int) == 1) = false := by simp; omega
      have t2 : ((n : Int) == 2) = true := by simp; omega
      have t3 : ((n : Int) == 3) = false := by simp; omega
      have t4 : ((n : Int) == 4) = false := by simp; omega
      have hc : (c / 32 == 6) = false := by simp; omega
      clear g1 g2 g3 g4 n1 n2
      go_enter Tryd.func69, Tryd.ntmps69
      go_wp2
      go_ret
      exact ⟨rfl, rfl⟩
    · by_cases n3 : n = 3
      · have t1 : ((n : Int) == 1) = false := by simp; omega
        have t2 : ((n : Int) == 2) = false := by simp; omega
        have t3 : ((n : Int) == 3) = true := by simp; omega
        have t4 : ((n : Int) == 4) = false := by simp; omega
        have hc : (c / 16 == 14) = false := by simp; omega
        clear g1 g2 g3 g4 n1 n2 n3
        go_enter Tryd.func69, Tryd.ntmps69
        go_wp2
        go_ret
        exact ⟨rfl, rfl⟩
      · have t1 : ((n : Int) == 1) = false := by simp; omega
        have t2 : ((n : Int) == 2) = false := by simp; omega
        have t3 : ((n : Int) == 3) = false := by simp; omega
        have t4 : ((n : Int) == 4) = true := by simp; omega
        have hc : (c / 8 == 30) = false := by simp; omega
        clear g1 g2 g3 g4 n1 n2 n3
        go_enter Tryd.func69, Tryd.ntmps69
        go_wp2
        go_ret
        exact ⟨rfl, rfl⟩

set_option maxHeartbeats 2000000 in
set_option maxRecDepth 100000 in
theorem l1value_yes (b off cap k n : Nat) (zs : List Int) (c : Int) (w : World) (hm : zs.length ≤ 4194304) (hby : Bys zs) (hcz : c = zs[k]?.getD 0) (hs : k + n ≤ zs.length) (h2 : 2 ≤ n) (h4 : n ≤ 4)
    (hc : ∀ j, j < zs.length → w.cell? ⟨b, off + j, none⟩ = some (.int .u8 (zs[j]?.getD 0)))
    (hcls : (n = 2 ∧ c / 32 = 6) ∨ (n = 3 ∧ c / 16 = 14) ∨ (n = 4 ∧ c / 8 = 30)) :
    Calls Tryd.prog 69 #[.slice (some ⟨b, off, none⟩) zs.length cap, .int .i64 k, .int .i64 n] w fun e w' => e = .returned (.int .i64 (foldc (lead n c) (((zs.drop k).drop 1).take (n - 1)))) ∧ w = w' := by
  have hlt : k < zs.length := by omega
  have hcx := hc k hlt
  have hcb := hby.get k
  rw [← hcz] at hcx hcb
  clear hcz
  obtain ⟨hc0, hc1⟩ := hcb
  have HC : Hid (∀ j, j < zs.length → w.cell? ⟨b, off + j, none⟩ = some (.int .u8 (zs[j]?.getD 0))) := hc
  clear hc
  have t1 : ((n : Int) == 1) = false := by simp; omega
  obtain ⟨x0, hx0⟩ : ∃ x0, x0 = lead n c := ⟨_, rfl⟩
  rw [← hx0]
  obtain ⟨R, hR⟩ : ∃ R, R = foldc x0 (((zs.drop k).drop 1).take (n - 1)) := ⟨_, rfl⟩
  rw [← hR]
  have HR : Hid (R = foldc x0 (((zs.drop k).drop 1).take (n - 1))) := hR
  clear hR
  rcases hcls with ⟨hnn, hd⟩ | ⟨hnn, hd⟩ | ⟨hnn, hd⟩
  · have hxv : x0 = c % 32 := by rw [hx0, hnn]; exact lead_two c hd
    have t2 : ((n : Int) == 2) = true := by simp; omega
    have t3 : ((n : Int) == 3) = false := by simp; omega
    have t4 : ((n : Int) == 4) = false := by simp; omega
    have hd' : (c / 32 == 6) = true := by simp [hd]
    clear hd hx0 hnn
    subst hxv
    go_enter Tryd.func69, Tryd.ntmps69
    go_wp2
    go_loop [8, 9] (fun v i => ∃ (j : Nat) (x : Int), 1 ≤ j ∧ j ≤ n ∧ i = .int .i64 j ∧ v = .int .i64 x ∧ 0 ≤ x ∧ (j = 1 → x < 32) ∧ (j = 2 → x < 2048) ∧ (j = 3 → x < 131072) ∧ (j = 4 → x < 8388608) ∧ Hid (R = foldc x (((zs.drop k).drop j).take (n - j))))
      (fun _ i => n - (intOf i).toNat)
    case atStart => exact ⟨1, _, by omega, by omega, rfl, rfl, by omega, fun _ => by omega, fun _ => by omega, fun _ => by omega, fun _ => by omega, HR⟩
    case round =>
      obtain ⟨j, x, hj1, hjn, rfl, rfl, hx0, b1, b2, b3, b4, HF⟩ := hrel
      have hxb : x < 8388608 := by omega
      by_cases hlj : j < n
      · have hst := foldc_step (s := zs.drop k) (x := x) hlj (by rw [List.length_drop]; omega)
        rw [drop_at] at hst
        have hcy := HC.out (k + j) (by omega)
        have hyb := hby.get (k + j)
        have b1' : j = 1 → x < 32 := b1
        have b2' : j = 2 → x < 2048 := b2
        have b3' : j = 3 → x < 131072 := b3
        generalize zs[k + j]?.getD 0 = d at hst hcy hyb
        obtain ⟨hy0, hy1⟩ := hyb
        have hlk : k + j < zs.length := by omega
        by_cases hdd : d / 64 = 2
        · rw [if_pos hdd] at hst
          have HS : Hid (R = foldc (x * 64 + d % 64) (((zs.drop k).drop (j + 1)).take (n - (j + 1)))) := by unfold Hid; rw [HF.out]; exact hst
          have hdt : (d / 64 != 2) = false := by simp [hdd]
          have q1 : j + 1 = 1 → x * 64 + d % 64 < 32 := by omega
          have q2 : j + 1 = 2 → x * 64 + d % 64 < 2048 := by omega
          have q3 : j + 1 = 3 → x * 64 + d % 64 < 131072 := by omega
          have q4 : j + 1 = 4 → x * 64 + d % 64 < 8388608 := by omega
          clear hst hdd b1 b2 b3 b4 b1' b2' b3'
          go_wp2
          go_round
          case rel => exact ⟨j + 1, _, by omega, by omega, by go_num, rfl, by omega, q1, q2, q3, q4, HS.out⟩
          case measure => simp [intOf]; omega
        · rw [if_neg hdd] at hst
          have HS : Hid (R = -1) := by unfold Hid; rw [HF.out]; exact hst
          have hdt : (d / 64 != 2) = true := by simp [hdd]
          clear hst hdd b1 b2 b3 b4 b1' b2' b3'
          go_wp2
          go_ret
          exact ⟨by rw [HS.out]; rfl, rfl⟩
      · have HS : Hid (R = x) := by
          unfold Hid; rw [HF.out, show n - j = 0 by omega]; simp [foldc]
        clear b1 b2 b3 b4 HF
        go_wp2
        go_ret
        exact ⟨by rw [HS.out]; rfl, rfl⟩
  · have hxv : x0 = c % 16 := by rw [hx0, hnn]; exact lead_three c hd
    have t2 : ((n : Int) == 2) = false := by simp; omega
    have t3 : ((n : Int) == 3) = true := by simp; omega
    have t4 : ((n : Int) == 4) = false := by simp; omega
    have hd' : (c / 16 == 14) = true := by simp [hd]
    clear hd hx0 hnn
    subst hxv
    go_enter Tryd.func69, Tryd.ntmps69
    go_wp2
    go_loop [8, 9] (fun v i => ∃ (j : Nat) (x : Int), 1 ≤ j ∧ j ≤ n ∧ i = .int .i64 j ∧ v = .int .i64 x ∧ 0 ≤ x ∧ (j = 1 → x < 32) ∧ (j = 2 → x < 2048) ∧ (j = 3 → x < 131072) ∧ (j = 4 → x < 8388608) ∧ Hid (R = foldc x (((zs.drop k).drop j).take (n - j))))
      (fun _ i => n - (intOf i).toNat)
    case atStart => exact ⟨1, _, by omega, by omega, rfl, rfl, by omega, fun _ => by omega, fun _ => by omega, fun _ => by omega, fun _ => by omega, HR⟩
    case round =>
      obtain ⟨j, x, hj1, hjn, rfl, rfl, hx0, b1, b2, b3, b4, HF⟩ := hrel
      have hxb : x < 8388608 := by omega
      by_cases hlj : j < n
      · have hst := foldc_step (s := zs.drop k) (x := x) hlj (by rw [List.length_drop]; omega)
        rw [drop_at] at hst
        have hcy := HC.out (k + j) (by omega)
        have hyb := hby.get (k + j)
        have b1' : j = 1 → x < 32 := b1
        have b2' : j = 2 → x < 2048 := b2
        have b3' : j = 3 → x < 131072 := b3
        generalize zs[k + j]?.getD 0 = d at hst hcy hyb
        obtain ⟨hy0, hy1⟩ := hyb
        have hlk : k + j < zs.length := by omega
        by_cases hdd : d / 64 = 2
        · rw [if_pos hdd] at hst
          have HS : Hid (R = foldc (x * 64 + d % 64) (((zs.drop k).drop (j + 1)).take (n - (j + 1)))) := by unfold Hid; rw [HF.out]; exact hst
          have hdt : (d / 64 != 2) = false := by simp [hdd]
          have q1 : j + 1 = 1 → x * 64 + d % 64 < 32 := by omega
          have q2 : j + 1 = 2 → x * 64 + d % 64 < 2048 := by omega
          have q3 : j + 1 = 3 → x * 64 + d % 64 < 131072 := by omega
          have q4 : j + 1 = 4 → x * 64 + d % 64 < 8388608 := by omega
          clear hst hdd b1 b2 b3 b4 b1' b2' b3'
          go_wp2
          go_round
          case rel => exact ⟨j + 1, _, by omega, by omega, by go_num, rfl, by omega, q1, q2, q3, q4, HS.out⟩
          case measure => simp [intOf]; omega
        · rw [if_neg hdd] at hst
          have HS : Hid (R = -1) := by unfold Hid; rw [HF.out]; exact hst
          have hdt : (d / 64 != 2) = true := by simp [hdd]
          clear hst hdd b1 b2 b3 b4 b1' b2' b3'
          go_wp2
          go_ret
          exact ⟨by rw [HS.out]; rfl, rfl⟩
      · have HS : Hid (R = x) := by
          unfold Hid; rw [HF.out, show n - j = 0 by omega]; simp [foldc]
        clear b1 b2 b3 b4 HF
        go_wp2
        go_ret
        exact ⟨by rw [HS.out]; rfl, rfl⟩
  · have hxv : x0 = c % 8 := by rw [hx0, hnn]; exact lead_four c hd
    have t2 : ((n : Int) == 2) = false := by simp; omega
    have t3 : ((n : Int) == 3) = false := by simp; omega
    have t4 : ((n : Int) == 4) = true := by simp; omega
    have hd' : (c / 8 == 30) = true := by simp [hd]
    clear hd hx0 hnn
    subst hxv
    go_enter Tryd.func69, Tryd.ntmps69
    go_wp2
    go_loop [8, 9] (fun v i => ∃ (j : Nat) (x : Int), 1 ≤ j ∧ j ≤ n ∧ i = .int .i64 j ∧ v = .int .i64 x ∧ 0 ≤ x ∧ (j = 1 → x < 32) ∧ (j = 2 → x < 2048) ∧ (j = 3 → x < 131072) ∧ (j = 4 → x < 8388608) ∧ Hid (R = foldc x (((zs.drop k).drop j).take (n - j))))
      (fun _ i => n - (intOf i).toNat)
    case atStart => exact ⟨1, _, by omega, by omega, rfl, rfl, by omega, fun _ => by omega, fun _ => by omega, fun _ => by omega, fun _ => by omega, HR⟩
    case round =>
      obtain ⟨j, x, hj1, hjn, rfl, rfl, hx0, b1, b2, b3, b4, HF⟩ := hrel
      have hxb : x < 8388608 := by omega
      by_cases hlj : j < n
      · have hst := foldc_step (s := zs.drop k) (x := x) hlj (by rw [List.length_drop]; omega)
        rw [drop_at] at hst
        have hcy := HC.out (k + j) (by omega)
        have hyb := hby.get (k + j)
        have b1' : j = 1 → x < 32 := b1
        have b2' : j = 2 → x < 2048 := b2
        have b3' : j = 3 → x < 131072 := b3
        generalize zs[k + j]?.getD 0 = d at hst hcy hyb
        obtain ⟨hy0, hy1⟩ := hyb
        have hlk : k + j < zs.length := by omega
        by_cases hdd : d / 64 = 2
        · rw [if_pos hdd] at hst
          have HS : Hid (R = foldc (x * 64 + d % 64) (((zs.drop k).drop (j + 1)).take (n - (j + 1)))) := by unfold Hid; rw [HF.out]; exact hst
          have hdt : (d / 64 != 2) = false := by simp [hdd]
          have q1 : j + 1 = 1 → x * 64 + d % 64 < 32 := by omega
          have q2 : j + 1 = 2 → x * 64 + d % 64 < 2048 := by omega
          have q3 : j + 1 = 3 → x * 64 + d % 64 < 131072 := by omega
          have q4 : j + 1 = 4 → x * 64 + d % 64 < 8388608 := by omega
          clear hst hdd b1 b2 b3 b4 b1' b2' b3'
          go_wp2
          go_round
          case rel => exact ⟨j + 1, _, by omega, by omega, by go_num, rfl, by omega, q1, q2, q3, q4, HS.out⟩
          case measure => simp [intOf]; omega
        · rw [if_neg hdd] at hst
          have HS : Hid (R = -1) := by unfold Hid; rw [HF.out]; exact hst
          have hdt : (d / 64 != 2) = true := by simp [hdd]
          clear hst hdd b1 b2 b3 b4 b1' b2' b3'
          go_wp2
          go_ret
          exact ⟨by rw [HS.out]; rfl, rfl⟩
      · have HS : Hid (R = x) := by
          unfold Hid; rw [HF.out, show n - j = 0 by omega]; simp [foldc]
        clear b1 b2 b3 b4 HF
        go_wp2
        go_ret
        exact ⟨by rw [HS.out]; rfl, rfl⟩

theorem l1value_any (v : Value) (zs : List Int) (k n : Nat) (w : World) (hv : RdB w.heap.size w v zs) (hby : Bys zs) (hm : zs.length ≤ 4194304) (hk : k < zs.length) (h1 : 1 ≤ n) (h4 : n ≤ 4) :
    Calls Tryd.prog 69 #[v, .int .i64 k, .int .i64 n] w fun e w' => e = .returned (.int .i64 (lv (zs.drop k) n)) ∧ w = w' := by
  obtain ⟨a, cap, rfl, hr⟩ := hv
  have hlen : (zs.drop k).length = zs.length - k := List.length_drop
  by_cases hs : zs.length < k + n
  · rw [lv_short (by omega)]
    exact l1value_short a zs.length cap k n w hm hk h4 hs
  · obtain ⟨b, off, rfl, hb, hc⟩ := hr (fun h => by simp [h] at hk)
    have hhd : (zs.drop k)[0]?.getD 0 = zs[k]?.getD 0 := by rw [drop_at]; rfl
    have hcb := hby.get k
    have hcx := hc k hk
    by_cases c1 : n = 1 ∧ zs[k]?.getD 0 < 128
    · obtain ⟨rfl, hc1⟩ := c1
      rw [lv_fold (by omega) (by rw [hhd, lead_one _ hc1]; exact hcb.1), hhd, lead_one _ hc1]
      exact l1value_one b off zs.length cap k 1 _ w hm hcb.1 hc1 hcx (by omega) rfl
    · by_cases c2 : n = 2 ∧ zs[k]?.getD 0 / 32 = 6
      · have hl : lead n (zs[k]?.getD 0) = zs[k]?.getD 0 % 32 := by rw [c2.1]; exact lead_two _ c2.2
        rw [lv_fold (by omega) (by rw [hhd, hl]; omega), hhd]
        exact l1value_yes b off cap k n zs _ w hm hby rfl (by omega) (by omega) h4 hc (.inl c2)
      · by_cases c3 : n = 3 ∧ zs[k]?.getD 0 / 16 = 14
        · have hl : lead n (zs[k]?.getD 0) = zs[k]?.getD 0 % 16 := by rw [c3.1]; exact lead_three _ c3.2
          rw [lv_fold (by omega) (by rw [hhd, hl]; omega), hhd]
          exact l1value_yes b off cap k n zs _ w hm hby rfl (by omega) (by omega) h4 hc (.inr (.inl c3))
        · by_cases c4 : n = 4 ∧ zs[k]?.getD 0 / 8 = 30
          · have hl : lead n (zs[k]?.getD 0) = zs[k]?.getD 0 % 8 := by rw [c4.1]; exact lead_four _ c4.2
            rw [lv_fold (by omega) (by rw [hhd, hl]; omega), hhd]
            exact l1value_yes b off cap k n zs _ w hm hby rfl (by omega) (by omega) h4 hc (.inr (.inr c4))
          · rw [lv_lead (by omega) (by rw [hhd, lead_no _ _ c1 c2 c3 c4]; omega)]
            exact l1value_no b off zs.length cap k n _ w hm hcb.1 hcb.2 hcx (by omega) h1 h4 c1 c2 c3 c4

end Go.Proofs.YtgmjpdejfdldlaaDoor

namespace Go.Proofs.YtgmjpdejfdldlaaDoor
open Go.RowKit

theorem or_u8 (c : Nat) (n : Nat) (hc : c < 256) (hn : n < 256) (h : c ||| n = c + n) : bits .or .u8 (c : Int) (n : Int) = (c : Int) + n := by
  rw [u8_or_nat c n hc hn, h]; omega
theorem or128 (x : Int) (h0 : 0 ≤ x) (h1 : x < 64) : bits .or .u8 128 x = 128 + x := by
  obtain ⟨n, rfl⟩ := Int.eq_ofNat_of_zero_le h0
  have hd : ∀ m : Nat, m < 64 → 128 ||| m = 128 + m := by decide
  exact or_u8 128 n (by omega) (by omega) (hd n (by omega))
theorem or192 (x : Int) (h0 : 0 ≤ x) (h1 : x < 32) : bits .or .u8 192 x = 192 + x := by
  obtain ⟨n, rfl⟩ := Int.eq_ofNat_of_zero_le h0
  have hd : ∀ m : Nat, m < 32 → 192 ||| m = 192 + m := by decide
  exact or_u8 192 n (by omega) (by omega) (hd n (by omega))
theorem or224 (x : Int) (h0 : 0 ≤ x) (h1 : x < 16) : bits .or .u8 224 x = 224 + x := by
  obtain ⟨n, rfl⟩ := Int.eq_ofNat_of_zero_le h0
  have hd : ∀ m : Nat, m < 16 → 224 ||| m = 224 + m := by decide
  exact or_u8 224 n (by omega) (by omega) (hd n (by omega))
theorem or240 (x : Int) (h0 : 0 ≤ x) (h1 : x < 8) : bits .or .u8 240 x = 240 + x := by
  obtain ⟨n, rfl⟩ := Int.eq_ofNat_of_zero_le h0
  have hd : ∀ m : Nat, m < 8 → 240 ||| m = 240 + m := by decide
  exact or_u8 240 n (by omega) (by omega) (hd n (by omega))

theorem ofInt_i32 (a : Nat) (ha : a < 4294967296) : (BitVec.ofInt 32 (a : Int)).toNat = a := by
  rw [BitVec.ofInt_natCast, BitVec.toNat_ofNat]; exact Nat.mod_eq_of_lt (by omega)
theorem wrap_i32_small (n : Int) (h0 : 0 ≤ n) (h1 : n < 2147483648) : IntKind.i32.wrap n = n := by
  simp [IntKind.wrap, IntKind.bits, IntKind.signed]; omega
theorem i32_and_nat (a b : Nat) (ha : a < 2147483648) (hb : b < 2147483648) : bits .and .i32 (a : Int) (b : Int) = ((a &&& b : Nat) : Int) := by
  have hx : a &&& b < 2 ^ 31 := Nat.and_lt_two_pow _ (by omega)
  show IntKind.i32.wrap ((BitVec.ofInt 32 (a : Int) &&& BitVec.ofInt 32 (b : Int)).toNat : Int) = _
  rw [BitVec.toNat_and, ofInt_i32 a (by omega), ofInt_i32 b (by omega), wrap_i32_small _ (by omega) (by omega)]
theorem i32_or_nat (a b : Nat) (ha : a < 2147483648) (hb : b < 2147483648) : bits .or .i32 (a : Int) (b : Int) = ((a ||| b : Nat) : Int) := by
  have hx : a ||| b < 2 ^ 31 := Nat.or_lt_two_pow (by omega) (by omega)
  show IntKind.i32.wrap ((BitVec.ofInt 32 (a : Int) ||| BitVec.ofInt 32 (b : Int)).toNat : Int) = _
  rw [BitVec.toNat_or, ofInt_i32 a (by omega), ofInt_i32 b (by omega), wrap_i32_small _ (by omega) (by omega)]
theorem mask_i32 (k : Nat) (hk : k < 31) (p : Int) (h0 : 0 ≤ p) (h1 : p < 2147483648) : bits .and .i32 p (((2 ^ k - 1 : Nat) : Int)) = p % ((2 ^ k : Nat) : Int) := by
  obtain ⟨n, rfl⟩ := Int.eq_ofNat_of_zero_le h0
  have hp : 2 ^ k ≤ 2 ^ 30 := Nat.pow_le_pow_right (by omega) (by omega)
  rw [i32_and_nat n _ (by omega) (by omega), Nat.and_two_pow_sub_one_eq_mod]
  omega
theorem and63 (p : Int) (h0 : 0 ≤ p) (h1 : p < 2147483648) : bits .and .i32 p 63 = p % 64 := by
  simpa using mask_i32 6 (by omega) p h0 h1

end Go.Proofs.YtgmjpdejfdldlaaDoor

namespace Go.Proofs.YtgmjpdejfdldlaaDoor
open Go.RowKit

/-- The box of a form that is being read. -/
def Frm (F : Nat) (w : World) (p n : Int) (c : Bool) : Prop := w.heap[F]? = some (.cells #[.int .i32 p, .int .i64 n, .bool c] 169 (0, 0))
theorem Frm.c0 {F : Nat} {w : World} {p n : Int} {c : Bool} (h : Frm F w p n c) : w.cell? ⟨F, 0, none⟩ = some (.int .i32 p) := by rw [cell_of_row w F 0 _ _ _ h]; rfl
theorem Frm.c1 {F : Nat} {w : World} {p n : Int} {c : Bool} (h : Frm F w p n c) : w.cell? ⟨F, 1, none⟩ = some (.int .i64 n) := by rw [cell_of_row w F 1 _ _ _ h]; rfl
theorem Frm.c2 {F : Nat} {w : World} {p n : Int} {c : Bool} (h : Frm F w p n c) : w.cell? ⟨F, 2, none⟩ = some (.bool c) := by rw [cell_of_row w F 2 _ _ _ h]; rfl
theorem Frm.fr {F : Nat} {w : World} {p n : Int} {c : Bool} (h : Frm F w p n c) (j : Nat) : w.frozen? ⟨F, j, none⟩ = false := frozen_of_row w F j _ _ h
theorem Frm.set0 {F : Nat} {w : World} {p n q : Int} {c : Bool} (h : Frm F w p n c) : Frm F (w.setCell ⟨F, 0, none⟩ (.int .i32 q)) q n c := heap_setCell_same w F 0 _ _ _ h
theorem Frm.set1 {F : Nat} {w : World} {p n q : Int} {c : Bool} (h : Frm F w p n c) : Frm F (w.setCell ⟨F, 1, none⟩ (.int .i64 q)) p q c := heap_setCell_same w F 1 _ _ _ h
theorem Frm.set2 {F : Nat} {w : World} {p n : Int} {c b : Bool} (h : Frm F w p n c) : Frm F (w.setCell ⟨F, 2, none⟩ (.bool b)) p n b := heap_setCell_same w F 2 _ _ _ h

set_option maxRecDepth 10000 in
theorem byte_on (z : Int) (h0 : 0 ≤ z) (h1 : z ≤ 255) : (bits .and .u8 z 192 != 128) = !decide (z / 64 = 2) := by
  obtain ⟨n, rfl⟩ := Int.eq_ofNat_of_zero_le h0
  have hd : ∀ m : Nat, m < 256 → (m &&& 192 = 128 ↔ m / 64 = 2) := by decide
  have h := hd n (by omega)
  have e : bits .and .u8 (n : Int) 192 = ((n &&& 192 : Nat) : Int) := u8_and_nat n 192 (by omega) (by omega)
  rw [e]
  by_cases hh : n / 64 = 2
  · rw [h.2 hh]; simp; omega
  · have : ¬ n &&& 192 = 128 := fun x => hh (h.1 x)
    have h2 : ¬ (n : Int) / 64 = 2 := by omega
    have h3 : ¬ ((n &&& 192 : Nat) : Int) = 128 := by omega
    simp [h2, h3]
theorem byte_low (z : Int) (h0 : 0 ≤ z) (h1 : z ≤ 255) : bits .and .u8 z 63 = z % 64 := by
  obtain ⟨n, rfl⟩ := Int.eq_ofNat_of_zero_le h0
  have e : bits .and .u8 (n : Int) 63 = ((n &&& 63 : Nat) : Int) := u8_and_nat n 63 (by omega) (by omega)
  have e2 : n &&& 63 = n % 64 := by simpa using Nat.and_two_pow_sub_one_eq_mod n 6
  rw [e, e2]; omega
theorem or_low (p z : Int) (h0 : 0 ≤ p) (h1 : p < 16777216) (hz0 : 0 ≤ z) (hz1 : z < 64) : bits .or .i32 (p * 64) z = p * 64 + z := by
  obtain ⟨n, rfl⟩ := Int.eq_ofNat_of_zero_le h0
  obtain ⟨m, rfl⟩ := Int.eq_ofNat_of_zero_le hz0
  have e : bits .or .i32 ((n * 64 : Nat) : Int) (m : Int) = ((n * 64 ||| m : Nat) : Int) := i32_or_nat (n * 64) m (by omega) (by omega)
  have e2 : n * 64 ||| m = n * 64 + m := by
    have := Nat.shiftLeft_add_eq_or_of_lt (i := 6) (b := m) (by omega) n
    rw [Nat.shiftLeft_eq] at this
    exact this.symm
  rw [e2] at e
  rw [show ((n : Int) * 64) = ((n * 64 : Nat) : Int) by omega, e]
  omega

set_option maxHeartbeats 1000000 in
set_option maxRecDepth 100000 in
theorem readOn_cut (F : Nat) (v : Value) (zs : List Int) (p : Int) (n : Nat) (c : Bool) (w : World) (hF : Frm F w p n c) (hv : RdB F w v zs) (hby : Bys zs) (_hm : zs.length ≤ 4194304) (_hn : n ≤ 4)
    (hc : zs.length ≤ n ∨ ¬ zs[n]?.getD 0 / 64 = 2) :
    Calls Tryd.prog 83 #[.pointer (some ⟨F, 0, none⟩), v] w fun e w' => e = .returned (.tuple #[]) ∧ Frm F w' p n true ∧ Below F w w' := by
  obtain ⟨a, cap, rfl, hr⟩ := hv
  have q0 := hF.c0
  have q1 := hF.c1
  have q2 := hF.c2
  have r2 := hF.fr 2
  have HF : Hid (Frm F w p n c) := hF
  clear hF
  by_cases hl : zs.length ≤ n
  · clear hc hr
    go_enter Tryd.func83, Tryd.ntmps83
    go_wp2
    first | go_end0 | refine bodyPost_ret (results_none rfl _ _ _) rfl ?_
    exact ⟨rfl, HF.out.set2, (Below.refl _ _).setCell (p := ⟨F, 2, none⟩) (Nat.le_refl _) _⟩
  · obtain ⟨b, off, rfl, hb, hcl⟩ := hr (fun h => by simp [h] at hl)
    have hcx := hcl n (by omega)
    have hcb := hby.get n
    have hne : ¬ zs[n]?.getD 0 / 64 = 2 := by omega
    generalize zs[n]?.getD 0 = z at hcx hcb hne
    have hbit : (bits .and .u8 z 192 != 128) = true := by rw [byte_on z hcb.1 hcb.2]; simp [hne]
    have hln : n < zs.length := by omega
    clear hc hr hcl hne hl
    go_enter Tryd.func83, Tryd.ntmps83
    go_wp2
    first | go_end0 | refine bodyPost_ret (results_none rfl _ _ _) rfl ?_
    exact ⟨rfl, HF.out.set2, (Below.refl _ _).setCell (p := ⟨F, 2, none⟩) (Nat.le_refl _) _⟩

set_option maxHeartbeats 1000000 in
set_option maxRecDepth 100000 in
theorem readOn_go (F : Nat) (v : Value) (zs : List Int) (p : Int) (n : Nat) (c : Bool) (w : World) (hF : Frm F w p n c) (hv : RdB F w v zs) (hby : Bys zs) (_hm : zs.length ≤ 4194304) (hn : n ≤ 4)
    (hln : n < zs.length) (hd : zs[n]?.getD 0 / 64 = 2) (hp0 : 0 ≤ p) (hp1 : p < 16777216) :
    Calls Tryd.prog 83 #[.pointer (some ⟨F, 0, none⟩), v] w fun e w' => e = .returned (.tuple #[]) ∧ Frm F w' (p * 64 + zs[n]?.getD 0 % 64) ((n : Int) + 1) c ∧ Below F w w' := by
  obtain ⟨a, cap, rfl, hr⟩ := hv
  have q0 := hF.c0
  have q1 := hF.c1
  have q2 := hF.c2
  have r0 := hF.fr 0
  have r1 := hF.fr 1
  have HF : Hid (Frm F w p n c) := hF
  clear hF
  obtain ⟨b, off, rfl, hb, hcl⟩ := hr (fun h => by simp [h] at hln)
  have hcx := hcl n hln
  have hcb := hby.get n
  generalize zs[n]?.getD 0 = z at hcx hcb hd
  have hbit : (bits .and .u8 z 192 != 128) = false := by rw [byte_on z hcb.1 hcb.2]; simp [hd]
  have hb2 : bits .and .u8 z 63 = z % 64 := byte_low z hcb.1 hcb.2
  have hb3 : bits .or .i32 (p * 64) (z % 64) = p * 64 + z % 64 := or_low p (z % 64) hp0 hp1 (by omega) (by omega)
  have hlt : (n : Int) < (zs.length : Int) := by omega
  have hbF : ¬ b = F := by omega
  obtain ⟨hz0, hz1⟩ := hcb
  clear hr hcl hd
  go_enter Tryd.func83, Tryd.ntmps83
  go_wp2
  go_region
  go_wp2
  go_end0
  exact ⟨rfl, HF.out.set0.set1, (((Below.refl F w).setCell (p := ⟨F, 0, none⟩) (Nat.le_refl _) _).setCell (p := ⟨F, 1, none⟩) (Nat.le_refl _) _).drew⟩

end Go.Proofs.YtgmjpdejfdldlaaDoor

namespace Go.Proofs.YtgmjpdejfdldlaaDoor
open Go.RowKit

theorem hit_lead {s : List Int} {m : Nat} (h : lead m (s[0]?.getD 0) < 0) : hit s m = false := by
  have : lv s m = -1 := by
    by_cases hl : s.length < m
    · exact lv_short hl
    · exact lv_lead (by omega) h
  simp [hit, this]
theorem hit_neg {s : List Int} {m : Nat} (h : lv s m = -1) : hit s m = false := by simp [hit, h]
theorem fsize_only {s : List Int} {n : Nat} (h1 : 1 ≤ n) (h4 : n ≤ 4) (h : ∀ m, 1 ≤ m → m ≤ 4 → m ≠ n → hit s m = false) : fsize s = if hit s n then n else 0 := by
  unfold fsize
  by_cases e1 : n = 1
  · subst e1
    rw [h 2 (by omega) (by omega) (by omega), h 3 (by omega) (by omega) (by omega), h 4 (by omega) (by omega) (by omega)]; simp
  · rw [h 1 (by omega) (by omega) (by omega)]
    by_cases e2 : n = 2
    · subst e2
      rw [h 3 (by omega) (by omega) (by omega), h 4 (by omega) (by omega) (by omega)]; simp
    · rw [h 2 (by omega) (by omega) (by omega)]
      by_cases e3 : n = 3
      · subst e3
        rw [h 4 (by omega) (by omega) (by omega)]; simp
      · rw [h 3 (by omega) (by omega) (by omega)]
        have e4 : n = 4 := by omega
        subst e4; simp
theorem fsize_zero {s : List Int} (h : ∀ m, 1 ≤ m → m ≤ 4 → hit s m = false) : fsize s = 0 := by
  unfold fsize
  rw [h 1 (by omega) (by omega), h 2 (by omega) (by omega), h 3 (by omega) (by omega), h 4 (by omega) (by omega)]; simp

/-- The classes of a first byte. -/
theorem lead_cls1 {c : Int} (h0 : 0 ≤ c) (h : c < 128) : ∀ m, 1 ≤ m → m ≤ 4 → m ≠ 1 → lead m c < 0 := by
  intro m h1 h4 hne
  rw [lead_no m c (by omega) (by omega) (by omega) (by omega)]; omega
theorem lead_cls2 {c : Int} (h : c / 32 = 6) : ∀ m, 1 ≤ m → m ≤ 4 → m ≠ 2 → lead m c < 0 := by
  intro m h1 h4 hne
  rw [lead_no m c (by omega) (by omega) (by omega) (by omega)]; omega
theorem lead_cls3 {c : Int} (h : c / 16 = 14) : ∀ m, 1 ≤ m → m ≤ 4 → m ≠ 3 → lead m c < 0 := by
  intro m h1 h4 hne
  rw [lead_no m c (by omega) (by omega) (by omega) (by omega)]; omega
theorem lead_cls4 {c : Int} (h : c / 8 = 30) : ∀ m, 1 ≤ m → m ≤ 4 → m ≠ 4 → lead m c < 0 := by
  intro m h1 h4 hne
  rw [lead_no m c (by omega) (by omega) (by omega) (by omega)]; omega
theorem lead_cls0 {c : Int} (h : 128 ≤ c) (h2 : ¬ c / 32 = 6) (h3 : ¬ c / 16 = 14) (h4' : ¬ c / 8 = 30) : ∀ m, 1 ≤ m → m ≤ 4 → lead m c < 0 := by
  intro m h1 h4
  rw [lead_no m c (by omega) (by omega) (by omega) (by omega)]; omega

def goesOn (s : List Int) (k : Nat) : Prop := k < s.length ∧ s[k]?.getD 0 / 64 = 2
theorem fold_none (x : Int) (s : List Int) (n : Nat) : foldc x ((s.drop n).take (n - n)) = x := by simp [foldc]
theorem lv2 {s : List Int} (hc : s[0]?.getD 0 / 32 = 6) (g1 : goesOn s 1) : lv s 2 = s[0]?.getD 0 % 32 * 64 + s[1]?.getD 0 % 64 := by
  obtain ⟨l1, d1⟩ := g1
  have hl : lead 2 (s[0]?.getD 0) = s[0]?.getD 0 % 32 := lead_two _ hc
  rw [lv_fold (by omega) (by rw [hl]; omega), hl, foldc_step (by omega) (by omega), if_pos d1, fold_none]
theorem lv3 {s : List Int} (hc : s[0]?.getD 0 / 16 = 14) (g1 : goesOn s 1) (g2 : goesOn s 2) : lv s 3 = (s[0]?.getD 0 % 16 * 64 + s[1]?.getD 0 % 64) * 64 + s[2]?.getD 0 % 64 := by
  obtain ⟨l1, d1⟩ := g1
  obtain ⟨l2, d2⟩ := g2
  have hl : lead 3 (s[0]?.getD 0) = s[0]?.getD 0 % 16 := lead_three _ hc
  rw [lv_fold (by omega) (by rw [hl]; omega), hl, foldc_step (by omega) (by omega), if_pos d1, foldc_step (by omega) (by omega), if_pos d2, fold_none]
theorem lv4 {s : List Int} (hc : s[0]?.getD 0 / 8 = 30) (g1 : goesOn s 1) (g2 : goesOn s 2) (g3 : goesOn s 3) :
    lv s 4 = ((s[0]?.getD 0 % 8 * 64 + s[1]?.getD 0 % 64) * 64 + s[2]?.getD 0 % 64) * 64 + s[3]?.getD 0 % 64 := by
  obtain ⟨l1, d1⟩ := g1
  obtain ⟨l2, d2⟩ := g2
  obtain ⟨l3, d3⟩ := g3
  have hl : lead 4 (s[0]?.getD 0) = s[0]?.getD 0 % 8 := lead_four _ hc
  rw [lv_fold (by omega) (by rw [hl]; omega), hl, foldc_step (by omega) (by omega), if_pos d1, foldc_step (by omega) (by omega), if_pos d2, foldc_step (by omega) (by omega), if_pos d3, fold_none]

/-- A form that is cut: no value. -/
theorem cut_at {s : List Int} {n : Nat} (x : Int) (k : Nat) (hk : k < n) (hn : n ≤ s.length) (h : ¬ s[k]?.getD 0 / 64 = 2) : foldc x ((s.drop k).take (n - k)) = -1 := by
  rw [foldc_step hk hn, if_neg h]
theorem lv_cut {s : List Int} {n : Nat} (k : Nat) (hk1 : 1 ≤ k) (hk : k < n) (hlo : ∀ j, 1 ≤ j → j < k → goesOn s j) (h : ¬ goesOn s k) : lv s n = -1 := by
  by_cases hl : s.length < n
  · exact lv_short hl
  · have hd : ¬ s[k]?.getD 0 / 64 = 2 := fun e => h ⟨by omega, e⟩
    by_cases hle : lead n (s[0]?.getD 0) < 0
    · exact lv_lead (by omega) hle
    · rw [lv_fold (by omega) (by omega)]
      generalize lead n (s[0]?.getD 0) = x
      have all : ∀ j, 1 ≤ j → j ≤ k → ∀ x, foldc x ((s.drop j).take (n - j)) = -1 := by
        intro j
        induction hj : k - j generalizing j with
        | zero =>
          intro h1 h2 x
          have : j = k := by omega
          subst this
          exact cut_at x j hk (by omega) hd
        | succ d ih =>
          intro h1 h2 x
          have hg := hlo j h1 (by omega)
          rw [foldc_step (by omega) (by omega), if_pos hg.2]
          exact ih (j + 1) (by omega) (by omega) (by omega) _
      exact all 1 (Nat.le_refl _) hk1 x

/-- Which numbers want n bytes. -/
theorem need_iff2 {y : Int} (h1 : y < 2048) : need y = 2 ↔ (¬ y < 128 ∧ okPt y = true) := by
  unfold need
  cases ho : okPt y <;> simp <;> split <;> (try split) <;> (try split) <;> omega
theorem need_iff3 {y : Int} (h1 : y < 65536) : need y = 3 ↔ (¬ y < 2048 ∧ okPt y = true) := by
  unfold need
  cases ho : okPt y <;> simp <;> split <;> (try split) <;> (try split) <;> omega
theorem need_iff4 {y : Int} : need y = 4 ↔ (¬ y < 65536 ∧ okPt y = true) := by
  unfold need
  cases ho : okPt y <;> simp <;> split <;> (try split) <;> (try split) <;> omega
theorem hit_val {s : List Int} {n : Nat} {y : Int} (hv : lv s n = y) (h0 : 0 ≤ y) : hit s n = true ↔ need y = n := by
  simp [hit, hv, h0]

/-- What firstPoint answers at s. -/
def fpP (s : List Int) : Int := if fsize s = 0 then -1 else lv s (fsize s)
theorem fp_none {s : List Int} (h : fsize s = 0) : fpP s = -1 := by simp [fpP, h]
theorem fp_some {s : List Int} {n : Nat} {y : Int} (hn : n ≠ 0) (h : fsize s = n) (hv : lv s n = y) : fpP s = y := by simp [fpP, h, hn, hv]

end Go.Proofs.YtgmjpdejfdldlaaDoor

namespace Go.Proofs.YtgmjpdejfdldlaaDoor
open Go.RowKit

set_option maxHeartbeats 400000 in
theorem isPoint_any (p : Int) (w : World) : Calls Tryd.prog 85 #[.int .i64 p] w fun e w' => e = .returned (.bool (isPt p)) ∧ w = w' := by
  by_cases h0 : 0 ≤ p
  · by_cases h1 : p ≤ 1114111
    · have HI : Hid (isPt p = true) := by simp [Hid, isPt, h0, h1]
      go_enter Tryd.func85, Tryd.ntmps85
      go_wp2
      go_ret
      exact ⟨by rw [HI.out]; rfl, rfl⟩
    · have HI : Hid (isPt p = false) := by simp [Hid, isPt]; omega
      go_enter Tryd.func85, Tryd.ntmps85
      go_wp2
      go_ret
      exact ⟨by rw [HI.out]; rfl, rfl⟩
  · have HI : Hid (isPt p = false) := by simp [Hid, isPt]; omega
    go_enter Tryd.func85, Tryd.ntmps85
    go_wp2
    go_ret
    exact ⟨by rw [HI.out]; rfl, rfl⟩

end Go.Proofs.YtgmjpdejfdldlaaDoor

namespace Go.Proofs.YtgmjpdejfdldlaaDoor
open Go.RowKit

set_option maxHeartbeats 400000 in
theorem isHigh_any (p : Int) (w : World) : Calls Tryd.prog 86 #[.int .i64 p] w fun e w' => e = .returned (.bool (isHi p)) ∧ w = w' := by
  by_cases h0 : 55296 ≤ p
  · by_cases h1 : p < 56320
    · have HI : Hid (isHi p = true) := by simp [Hid, isHi, h0, h1]
      go_enter Tryd.func86, Tryd.ntmps86
      go_wp2
      go_ret
      exact ⟨by rw [HI.out]; rfl, rfl⟩
    · have HI : Hid (isHi p = false) := by simp [Hid, isHi]; omega
      go_enter Tryd.func86, Tryd.ntmps86
      go_wp2
      go_ret
      exact ⟨by rw [HI.out]; rfl, rfl⟩
  · have HI : Hid (isHi p = false) := by simp [Hid, isHi]; omega
    go_enter Tryd.func86, Tryd.ntmps86
    go_wp2
    go_ret
    exact ⟨by rw [HI.out]; rfl, rfl⟩

end Go.Proofs.YtgmjpdejfdldlaaDoor

