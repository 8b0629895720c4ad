import Derived.Test.YtakkdniikhgpdaaGreatDoorMAB
namespace Go.Proofs.YtakkdniikhgpdaaGreatDoor
open Go.RowKit

theorem lead_one (c : Int) (h : c < 128) : lead 1 c = c := by simp [lead, h]
theorem lead_two (c : Int) (h : c / 32 = 6) : lead 2 c = c % 32 := by simp [lead, h]
theorem lead_three (c : Int) (h : c / 16 = 14) : lead 3 c = c % 16 := by simp [lead, h]
theorem lead_four (c : Int) (h : c / 8 = 30) : lead 4 c = c % 8 := by simp [lead, h]
theorem lead_no (n : Nat) (c : Int) (h : ¬ (n = 1 ∧ c < 128)) (h2 : ¬ (n = 2 ∧ c / 32 = 6)) (h3 : ¬ (n = 3 ∧ c / 16 = 14)) (h4 : ¬ (n = 4 ∧ c / 8 = 30)) : lead n c = -1 := by
  simp only [lead, if_neg h, if_neg h2, if_neg h3, if_neg h4]

set_option maxHeartbeats 400000 in
set_option maxRecDepth 100000 in
theorem l1value_short (a : Option Addr) (len cap k n : Nat) (w : World) (hm : len ≤ 4194304) (hk : k < len) (h4 : n ≤ 4) (hs : len < k + n) :
    Calls Tryz.prog 92 #[.slice a len cap, .int .i64 k, .int .i64 n] w fun e w' => e = .returned (.int .i64 (-1)) ∧ w = w' := by
  go_enter Tryz.func92, Tryz.ntmps92
  go_wp2
  go_ret
  exact ⟨rfl, rfl⟩

set_option maxHeartbeats 400000 in
set_option maxRecDepth 100000 in
theorem l1value_one (b off len cap k n : Nat) (c : Int) (w : World) (hm : len ≤ 4194304) (hc0 : 0 ≤ c) (hc1 : c < 128) (hcx : w.cell? ⟨b, off + k, none⟩ = some (.int .u8 c)) (hs : k + n ≤ len) (hn : ((n : Int) == 1) = true) :
    Calls Tryz.prog 92 #[.slice (some ⟨b, off, none⟩) len cap, .int .i64 k, .int .i64 n] w fun e w' => e = .returned (.int .i64 c) ∧ w = w' := by
  have hn1 : n = 1 := by simp at hn; omega
  have hlt : k < len := by omega
  clear hn1
  go_enter Tryz.func92, Tryz.ntmps92
  go_wp2
  go_ret
  exact ⟨rfl, rfl⟩

set_option maxHeartbeats 1000000 in
set_option maxRecDepth 100000 in
theorem l1value_no (b off len cap k n : Nat) (c : Int) (w : World) (hm : len ≤ 4194304) (hc0 : 0 ≤ c) (hc1 : c ≤ 255) (hcx : w.cell? ⟨b, off + k, none⟩ = some (.int .u8 c)) (hs : k + n ≤ len) (h1 : 1 ≤ n) (h4 : n ≤ 4)
    (g1 : ¬ (n = 1 ∧ c < 128)) (g2 : ¬ (n = 2 ∧ c / 32 = 6)) (g3 : ¬ (n = 3 ∧ c / 16 = 14)) (g4 : ¬ (n = 4 ∧ c / 8 = 30)) :
    Calls Tryz.prog 92 #[.slice (some ⟨b, off, none⟩) len cap, .int .i64 k, .int .i64 n] w fun e w' => e = .returned (.int .i64 (-1)) ∧ w = w' := by
  have hlt : k < len := by omega
  by_cases n1 : n = 1
  · have t1 : ((n : Int) == 1) = true := by simp; omega
    have t2 : ((n : Int) == 2) = false := by simp; omega
    have t3 : ((n : Int) == 3) = false := by simp; omega
    have t4 : ((n : Int) == 4) = false := by simp; omega
    have hc : 128 ≤ c := by omega
    clear g1 g2 g3 g4 n1
    go_enter Tryz.func92, Tryz.ntmps92
    go_wp2
    go_ret
    exact ⟨rfl, rfl⟩
  · by_cases n2 : n = 2
    · have t1 : ((n : Int) == 1) = false := by simp; omega
      have t2 : ((n : Int) == 2) = true := by simp; omega
      have t3 : ((n : Int) == 3) = false := by simp; omega
      have t4 : ((n : Int) == 4) = false := by simp; omega
      have hc : (c / 32 == 6) = false := by simp; omega
      clear g1 g2 g3 g4 n1 n2
      go_enter Tryz.func92, Tryz.ntmps92
      go_wp2
      go_ret
      exact ⟨rfl, rfl⟩
    · by_cases n3 : n = 3
      · have t1 : ((n : Int) == 1) = false := by simp; omega
        have t2 : ((n : Int) == 2) = false := by simp; omega
        have t3 : ((n : Int) == 3) = true := by simp; omega
        have t4 : ((n : Int) == 4) = false := by simp; omega
        have hc : (c / 16 == 14) = false := by simp; omega
        clear g1 g2 g3 g4 n1 n2 n3
        go_enter Tryz.func92, Tryz.ntmps92
        go_wp2
        go_ret
        exact ⟨rfl, rfl⟩
      · have t1 : ((n : Int) == 1) = false := by simp; omega
        have t2 : ((n : Int) == 2) = false := by simp; omega
        have t3 : ((n : Int) == 3) = false := by simp; omega
        have t4 : ((n : Int) == 4) = true := by simp; omega
        have hc : (c / 8 == 30) = false := by simp; omega
        clear g1 g2 g3 g4 n1 n2 n3
        go_enter Tryz.func92, Tryz.ntmps92
        go_wp2
        go_ret
        exact ⟨rfl, rfl⟩

set_option maxHeartbeats 2000000 in
set_option maxRecDepth 100000 in
theorem l1value_yes (b off cap k n : Nat) (zs : List Int) (c : Int) (w : World) (hm : zs.length ≤ 4194304) (hby : Bys zs) (hcz : c = zs[k]?.getD 0) (hs : k + n ≤ zs.length) (h2 : 2 ≤ n) (h4 : n ≤ 4)
    (hc : ∀ j, j < zs.length → w.cell? ⟨b, off + j, none⟩ = some (.int .u8 (zs[j]?.getD 0)))
    (hcls : (n = 2 ∧ c / 32 = 6) ∨ (n = 3 ∧ c / 16 = 14) ∨ (n = 4 ∧ c / 8 = 30)) :
    Calls Tryz.prog 92 #[.slice (some ⟨b, off, none⟩) zs.length cap, .int .i64 k, .int .i64 n] w fun e w' => e = .returned (.int .i64 (foldc (lead n c) (((zs.drop k).drop 1).take (n - 1)))) ∧ w = w' := by
  have hlt : k < zs.length := by omega
  have hcx := hc k hlt
  have hcb := hby.get k
  rw [← hcz] at hcx hcb
  clear hcz
  obtain ⟨hc0, hc1⟩ := hcb
  have HC : Hid (∀ j, j < zs.length → w.cell? ⟨b, off + j, none⟩ = some (.int .u8 (zs[j]?.getD 0))) := hc
  clear hc
  have t1 : ((n : Int) == 1) = false := by simp; omega
  obtain ⟨x0, hx0⟩ : ∃ x0, x0 = lead n c := ⟨_, rfl⟩
  rw [← hx0]
  obtain ⟨R, hR⟩ : ∃ R, R = foldc x0 (((zs.drop k).drop 1).take (n - 1)) := ⟨_, rfl⟩
  rw [← hR]
  have HR : Hid (R = foldc x0 (((zs.drop k).drop 1).take (n - 1))) := hR
  clear hR
  rcases hcls with ⟨hnn, hd⟩ | ⟨hnn, hd⟩ | ⟨hnn, hd⟩
  · have hxv : x0 = c % 32 := by rw [hx0, hnn]; exact lead_two c hd
    have t2 : ((n : Int) == 2) = true := by simp; omega
    have t3 : ((n : Int) == 3) = false := by simp; omega
    have t4 : ((n : Int) == 4) = false := by simp; omega
    have hd' : (c / 32 == 6) = true := by simp [hd]
    clear hd hx0 hnn
    subst hxv
    go_enter Tryz.func92, Tryz.ntmps92
    go_wp2
    go_loop [8, 9] (fun v i => ∃ (j : Nat) (x : Int), 1 ≤ j ∧ j ≤ n ∧ i = .int .i64 j ∧ v = .int .i64 x ∧ 0 ≤ x ∧ (j = 1 → x < 32) ∧ (j = 2 → x < 2048) ∧ (j = 3 → x < 131072) ∧ (j = 4 → x < 8388608) ∧ Hid (R = foldc x (((zs.drop k).drop j).take (n - j))))
      (fun _ i => n - (intOf i).toNat)
    case atStart => exact ⟨1, _, by omega, by omega, rfl, rfl, by omega, fun _ => by omega, fun _ => by omega, fun _ => by omega, fun _ => by omega, HR⟩
    case round =>
      obtain ⟨j, x, hj1, hjn, rfl, rfl, hx0, b1, b2, b3, b4, HF⟩ := hrel
      have hxb : x < 8388608 := by omega
      by_cases hlj : j < n
      · have hst := foldc_step (s := zs.drop k) (x := x) hlj (by rw [List.length_drop]; omega)
        rw [drop_at] at hst
        have hcy := HC.out (k + j) (by omega)
        have hyb := hby.get (k + j)
        have b1' : j = 1 → x < 32 := b1
        have b2' : j = 2 → x < 2048 := b2
        have b3' : j = 3 → x < 131072 := b3
        generalize zs[k + j]?.getD 0 = d at hst hcy hyb
        obtain ⟨hy0, hy1⟩ := hyb
        have hlk : k + j < zs.length := by omega
        by_cases hdd : d / 64 = 2
        · rw [if_pos hdd] at hst
          have HS : Hid (R = foldc (x * 64 + d % 64) (((zs.drop k).drop (j + 1)).take (n - (j + 1)))) := by unfold Hid; rw [HF.out]; exact hst
          have hdt : (d / 64 != 2) = false := by simp [hdd]
          have q1 : j + 1 = 1 → x * 64 + d % 64 < 32 := by omega
          have q2 : j + 1 = 2 → x * 64 + d % 64 < 2048 := by omega
          have q3 : j + 1 = 3 → x * 64 + d % 64 < 131072 := by omega
          have q4 : j + 1 = 4 → x * 64 + d % 64 < 8388608 := by omega
          clear hst hdd b1 b2 b3 b4 b1' b2' b3'
          go_wp2
          go_round
          case rel => exact ⟨j + 1, _, by omega, by omega, by go_num, rfl, by omega, q1, q2, q3, q4, HS.out⟩
          case measure => simp [intOf]; omega
        · rw [if_neg hdd] at hst
          have HS : Hid (R = -1) := by unfold Hid; rw [HF.out]; exact hst
          have hdt : (d / 64 != 2) = true := by simp [hdd]
          clear hst hdd b1 b2 b3 b4 b1' b2' b3'
          go_wp2
          go_ret
          exact ⟨by rw [HS.out]; rfl, rfl⟩
      · have HS : Hid (R = x) := by
          unfold Hid; rw [HF.out, show n - j = 0 by omega]; simp [foldc]
        clear b1 b2 b3 b4 HF
        go_wp2
        go_ret
        exact ⟨by rw [HS.out]; rfl, rfl⟩
  · have hxv : x0 = c % 16 := by rw [hx0, hnn]; exact lead_three c hd
    have t2 : ((n : Int) == 2) = false := by simp; omega
    have t3 : ((n : Int) == 3) = true := by simp; omega
    have t4 : ((n : Int) == 4) = false := by simp; omega
    have hd' : (c / 16 == 14) = true := by simp [hd]
    clear hd hx0 hnn
    subst hxv
    go_enter Tryz.func92, Tryz.ntmps92
    go_wp2
    go_loop [8, 9] (fun v i => ∃ (j : Nat) (x : Int), 1 ≤ j ∧ j ≤ n ∧ i = .int .i64 j ∧ v = .int .i64 x ∧ 0 ≤ x ∧ (j = 1 → x < 32) ∧ (j = 2 → x < 2048) ∧ (j = 3 → x < 131072) ∧ (j = 4 → x < 8388608) ∧ Hid (R = foldc x (((zs.drop k).drop j).take (n - j))))
      (fun _ i => n - (intOf i).toNat)
    case atStart => exact ⟨1, _, by omega, by omega, rfl, rfl, by omega, fun _ => by omega, fun _ => by omega, fun _ => by omega, fun _ => by omega, HR⟩
    case round =>
      obtain ⟨j, x, hj1, hjn, rfl, rfl, hx0, b1, b2, b3, b4, HF⟩ := hrel
      have hxb : x < 8388608 := by omega
      by_cases hlj : j < n
      · have hst := foldc_step (s := zs.drop k) (x := x) hlj (by rw [List.length_drop]; omega)
        rw [drop_at] at hst
        have hcy := HC.out (k + j) (by omega)
        have hyb := hby.get (k + j)
        have b1' : j = 1 → x < 32 := b1
        have b2' : j = 2 → x < 2048 := b2
        have b3' : j = 3 → x < 131072 := b3
        generalize zs[k + j]?.getD 0 = d at hst hcy hyb
        obtain ⟨hy0, hy1⟩ := hyb
        have hlk : k + j < zs.length := by omega
        by_cases hdd : d / 64 = 2
        · rw [if_pos hdd] at hst
          have HS : Hid (R = foldc (x * 64 + d % 64) (((zs.drop k).drop (j + 1)).take (n - (j + 1)))) := by unfold Hid; rw [HF.out]; exact hst
          have hdt : (d / 64 != 2) = false := by simp [hdd]
          have q1 : j + 1 = 1 → x * 64 + d % 64 < 32 := by omega
          have q2 : j + 1 = 2 → x * 64 + d % 64 < 2048 := by omega
          have q3 : j + 1 = 3 → x * 64 + d % 64 < 131072 := by omega
          have q4 : j + 1 = 4 → x * 64 + d % 64 < 8388608 := by omega
          clear hst hdd b1 b2 b3 b4 b1' b2' b3'
          go_wp2
          go_round
          case rel => exact ⟨j + 1, _, by omega, by omega, by go_num, rfl, by omega, q1, q2, q3, q4, HS.out⟩
          case measure => simp [intOf]; omega
        · rw [if_neg hdd] at hst
          have HS : Hid (R = -1) := by unfold Hid; rw [HF.out]; exact hst
          have hdt : (d / 64 != 2) = true := by simp [hdd]
          clear hst hdd b1 b2 b3 b4 b1' b2' b3'
          go_wp2
          go_ret
          exact ⟨by rw [HS.out]; rfl, rfl⟩
      · have HS : Hid (R = x) := by
          unfold Hid; rw [HF.out, show n - j = 0 by omega]; simp [foldc]
        clear b1 b2 b3 b4 HF
        go_wp2
        go_ret
        exact ⟨by rw [HS.out]; rfl, rfl⟩
  · have hxv : x0 = c % 8 := by rw [hx0, hnn]; exact lead_four c hd
    have t2 : ((n : Int) == 2) = false := by simp; omega
    have t3 : ((n : Int) == 3) = false := by simp; omega
    have t4 : ((n : Int) == 4) = true := by simp; omega
    have hd' : (c / 8 == 30) = true := by simp [hd]
    clear hd hx0 hnn
    subst hxv
    go_enter Tryz.func92, Tryz.ntmps92
    go_wp2
    go_loop [8, 9] (fun v i => ∃ (j : Nat) (x : Int), 1 ≤ j ∧ j ≤ n ∧ i = .int .i64 j ∧ v = .int .i64 x ∧ 0 ≤ x ∧ (j = 1 → x < 32) ∧ (j = 2 → x < 2048) ∧ (j = 3 → x < 131072) ∧ (j = 4 → x < 8388608) ∧ Hid (R = foldc x (((zs.drop k).drop j).take (n - j))))
      (fun _ i => n - (intOf i).toNat)
    case atStart => exact ⟨1, _, by omega, by omega, rfl, rfl, by omega, fun _ => by omega, fun _ => by omega, fun _ => by omega, fun _ => by omega, HR⟩
    case round =>
      obtain ⟨j, x, hj1, hjn, rfl, rfl, hx0, b1, b2, b3, b4, HF⟩ := hrel
      have hxb : x < 8388608 := by omega
      by_cases hlj : j < n
      · have hst := foldc_step (s := zs.drop k) (x := x) hlj (by rw [List.length_drop]; omega)
        rw [drop_at] at hst
        have hcy := HC.out (k + j) (by omega)
        have hyb := hby.get (k + j)
        have b1' : j = 1 → x < 32 := b1
        have b2' : j = 2 → x < 2048 := b2
        have b3' : j = 3 → x < 131072 := b3
        generalize zs[k + j]?.getD 0 = d at hst hcy hyb
        obtain ⟨hy0, hy1⟩ := hyb
        have hlk : k + j < zs.length := by omega
        by_cases hdd : d / 64 = 2
        · rw [if_pos hdd] at hst
          have HS : Hid (R = foldc (x * 64 + d % 64) (((zs.drop k).drop (j + 1)).take (n - (j + 1)))) := by unfold Hid; rw [HF.out]; exact hst
          have hdt : (d / 64 != 2) = false := by simp [hdd]
          have q1 : j + 1 = 1 → x * 64 + d % 64 < 32 := by omega
          have q2 : j + 1 = 2 → x * 64 + d % 64 < 2048 := by omega
          have q3 : j + 1 = 3 → x * 64 + d % 64 < 131072 := by omega
          have q4 : j + 1 = 4 → x * 64 + d % 64 < 8388608 := by omega
          clear hst hdd b1 b2 b3 b4 b1' b2' b3'
          go_wp2
          go_round
          case rel => exact ⟨j + 1, _, by omega, by omega, by go_num, rfl, by omega, q1, q2, q3, q4, HS.out⟩
          case measure => simp [intOf]; omega
        · rw [if_neg hdd] at hst
          have HS : Hid (R = -1) := by unfold Hid; rw [HF.out]; exact hst
          have hdt : (d / 64 != 2) = true := by simp [hdd]
          clear hst hdd b1 b2 b3 b4 b1' b2' b3'
          go_wp2
          go_ret
          exact ⟨by rw [HS.out]; rfl, rfl⟩
      · have HS : Hid (R = x) := by
          unfold Hid; rw [HF.out, show n - j = 0 by omega]; simp [foldc]
        clear b1 b2 b3 b4 HF
        go_wp2
        go_ret
        exact ⟨by rw [HS.out]; rfl, rfl⟩

theorem l1value_any (v : Value) (zs : List Int) (k n : Nat) (w : World) (hv : RdB w.heap.size w v zs) (hby : Bys zs) (hm : zs.length ≤ 4194304) (hk : k < zs.length) (h1 : 1 ≤ n) (h4 : n ≤ 4) :
    Calls Tryz.prog 92 #[v, .int .i64 k, .int .i64 n] w fun e w' => e = .returned (.int .i64 (lv (zs.drop k) n)) ∧ w = w' := by
  obtain ⟨a, cap, rfl, hr⟩ := hv
  have hlen : (zs.drop k).length = zs.length - k := List.length_drop
  by_cases hs : zs.length < k + n
  · rw [lv_short (by omega)]
    exact l1value_short a zs.length cap k n w hm hk h4 hs
  · obtain ⟨b, off, rfl, hb, hc⟩ := hr (fun h => by simp [h] at hk)
    have hhd : (zs.drop k)[0]?.getD 0 = zs[k]?.getD 0 := by rw [drop_at]; rfl
    have hcb := hby.get k
    have hcx := hc k hk
    by_cases c1 : n = 1 ∧ zs[k]?.getD 0 < 128
    · obtain ⟨rfl, hc1⟩ := c1
      rw [lv_fold (by omega) (by rw [hhd, lead_one _ hc1]; exact hcb.1), hhd, lead_one _ hc1]
      exact l1value_one b off zs.length cap k 1 _ w hm hcb.1 hc1 hcx (by omega) rfl
    · by_cases c2 : n = 2 ∧ zs[k]?.getD 0 / 32 = 6
      · have hl : lead n (zs[k]?.getD 0) = zs[k]?.getD 0 % 32 := by rw [c2.1]; exact lead_two _ c2.2
        rw [lv_fold (by omega) (by rw [hhd, hl]; omega), hhd]
        exact l1value_yes b off cap k n zs _ w hm hby rfl (by omega) (by omega) h4 hc (.inl c2)
      · by_cases c3 : n = 3 ∧ zs[k]?.getD 0 / 16 = 14
        · have hl : lead n (zs[k]?.getD 0) = zs[k]?.getD 0 % 16 := by rw [c3.1]; exact lead_three _ c3.2
          rw [lv_fold (by omega) (by rw [hhd, hl]; omega), hhd]
          exact l1value_yes b off cap k n zs _ w hm hby rfl (by omega) (by omega) h4 hc (.inr (.inl c3))
        · by_cases c4 : n = 4 ∧ zs[k]?.getD 0 / 8 = 30
          · have hl : lead n (zs[k]?.getD 0) = zs[k]?.getD 0 % 8 := by rw [c4.1]; exact lead_four _ c4.2
            rw [lv_fold (by omega) (by rw [hhd, hl]; omega), hhd]
            exact l1value_yes b off cap k n zs _ w hm hby rfl (by omega) (by omega) h4 hc (.inr (.inr c4))
          · rw [lv_lead (by omega) (by rw [hhd, lead_no _ _ c1 c2 c3 c4]; omega)]
            exact l1value_no b off zs.length cap k n _ w hm hcb.1 hcb.2 hcx (by omega) h1 h4 c1 c2 c3 c4

end Go.Proofs.YtakkdniikhgpdaaGreatDoor

namespace Go.Proofs.YtakkdniikhgpdaaGreatDoor
open Go.RowKit

set_option maxHeartbeats 800000 in
theorem l1need_any (p : Int) (w : World) : Calls Tryz.prog 52 #[.int .i64 p] w fun e w' => e = .returned (.int .i64 (need p)) ∧ w = w' := by
  by_cases h0 : p < 0
  · have HE : Hid (need p = 0) := by simp [Hid, need, okPt]; omega
    go_enter Tryz.func52, Tryz.ntmps52
    go_wp2
    go_ret
    exact ⟨by rw [HE.out]; rfl, rfl⟩
  · by_cases h1 : 1114111 < p
    · have HE : Hid (need p = 0) := by simp [Hid, need, okPt]; omega
      go_enter Tryz.func52, Tryz.ntmps52
      go_wp2
      go_ret
      exact ⟨by rw [HE.out]; rfl, rfl⟩
    · by_cases h2 : p < 55296
      · have ho : okPt p = true := by simp [okPt]; omega
        by_cases h3 : p < 128
        · have HE : Hid (need p = 1) := by simp [Hid, need, ho, h3]
          clear ho
          go_enter Tryz.func52, Tryz.ntmps52
          go_wp2
          go_ret
          exact ⟨by rw [HE.out]; rfl, rfl⟩
        · by_cases h4 : p < 2048
          · have HE : Hid (need p = 2) := by simp [Hid, need, ho, h3, h4]
            clear ho
            go_enter Tryz.func52, Tryz.ntmps52
            go_wp2
            go_ret
            exact ⟨by rw [HE.out]; rfl, rfl⟩
          · have HE : Hid (need p = 3) := by simp [Hid, need, ho, h3, h4]; omega
            clear ho
            go_enter Tryz.func52, Tryz.ntmps52
            go_wp2
            go_ret
            exact ⟨by rw [HE.out]; rfl, rfl⟩
      · by_cases h3 : p ≤ 57343
        · have HE : Hid (need p = 0) := by simp [Hid, need, okPt]; omega
          go_enter Tryz.func52, Tryz.ntmps52
          go_wp2
          go_ret
          exact ⟨by rw [HE.out]; rfl, rfl⟩
        · have ho : okPt p = true := by simp [okPt]; omega
          by_cases h4 : p < 65536
          · have HE : Hid (need p = 3) := by simp [Hid, need, ho, h4]; omega
            clear ho
            go_enter Tryz.func52, Tryz.ntmps52
            go_wp2
            go_ret
            exact ⟨by rw [HE.out]; rfl, rfl⟩
          · have HE : Hid (need p = 4) := by simp [Hid, need, ho, h4]; omega
            clear ho
            go_enter Tryz.func52, Tryz.ntmps52
            go_wp2
            go_ret
            exact ⟨by rw [HE.out]; rfl, rfl⟩

end Go.Proofs.YtakkdniikhgpdaaGreatDoor

