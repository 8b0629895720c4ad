import Derived.Test.YtgmjpdejfdldlaaDoorMAG
namespace Go.Proofs.YtgmjpdejfdldlaaDoor
open Go.RowKit


set_option maxHeartbeats 400000 in
set_option maxRecDepth 100000 in
theorem l1valueB_short (a : Option Addr) (len cap k n : Nat) (w : World) (hm : len ≤ 400000000) (hk : k < len) (h4 : n ≤ 4) (hs : len < k + n) :
    Calls Tryd.prog 69 #[.slice a len cap, .int .i64 k, .int .i64 n] w fun e w' => e = .returned (.int .i64 (-1)) ∧ w = w' := by
  go_enter Tryd.func69, Tryd.ntmps69
  go_wp2
  go_ret
  exact ⟨rfl, rfl⟩

set_option maxHeartbeats 400000 in
set_option maxRecDepth 100000 in
theorem l1valueB_one (b off len cap k n : Nat) (c : Int) (w : World) (hm : len ≤ 400000000) (hc0 : 0 ≤ c) (hc1 : c < 128) (hcx : w.cell? ⟨b, off + k, none⟩ = some (.int .u8 c)) (hs : k + n ≤ len) (hn : ((n : Int) == 1) = true) :
    Calls Tryd.prog 69 #[.slice (some ⟨b, off, none⟩) len cap, .int .i64 k, .int .i64 n] w fun e w' => e = .returned (.int .i64 c) ∧ w = w' := by
  have hn1 : n = 1 := by simp at hn; omega
  have hlt : k < len := by omega
  clear hn1
  go_enter Tryd.func69, Tryd.ntmps69
  go_wp2
  go_ret
  exact ⟨rfl, rfl⟩

set_option maxHeartbeats 1000000 in
set_option maxRecDepth 100000 in
theorem l1valueB_no (b off len cap k n : Nat) (c : Int) (w : World) (hm : len ≤ 400000000) (hc0 : 0 ≤ c) (hc1 : c ≤ 255) (hcx : w.cell? ⟨b, off + k, none⟩ = some (.int .u8 c)) (hs : k + n ≤ len) (h1 : 1 ≤ n) (h4 : n ≤ 4)
    (g1 : ¬ (n = 1 ∧ c < 128)) (g2 : ¬ (n = 2 ∧ c / 32 = 6)) (g3 : ¬ (n = 3 ∧ c / 16 = 14)) (g4 : ¬ (n = 4 ∧ c / 8 = 30)) :
    Calls Tryd.prog 69 #[.slice (some ⟨b, off, none⟩) len cap, .int .i64 k, .int .i64 n] w fun e w' => e = .returned (.int .i64 (-1)) ∧ w = w' := by
  have hlt : k < len := by omega
  by_cases n1 : n = 1
  · have t1 : ((n : Int) == 1) = true := by simp; omega
    have t2 : ((n : Int) == 2) = false := by simp; omega
    have t3 : ((n : Int) == 3) = false := by simp; omega
    have t4 : ((n : Int) == 4) = false := by simp; omega
    have hc : 128 ≤ c := by omega
    clear g1 g2 g3 g4 n1
    go_enter Tryd.func69, Tryd.ntmps69
    go_wp2
    go_ret
    exact ⟨rfl, rfl⟩
  · by_cases n2 : n = 2
    · have t1 : ((n : Int) == 1) = false := by simp; omega
      have t2 : ((n : Int) == 2) = true := by simp; omega
      have t3 : ((n : Int) == 3) = false := by simp; omega
      have t4 : ((n : Int) == 4) = false := by simp; omega
      have hc : (c / 32 == 6) = false := by simp; omega
      clear g1 g2 g3 g4 n1 n2
      go_enter Tryd.func69, Tryd.ntmps69
      go_wp2
      go_ret
      exact ⟨rfl, rfl⟩
    · by_cases n3 : n = 3
      · have t1 : ((n : Int) == 1) = false := by simp; omega
        have t2 : ((n : Int) == 2) = false := by simp; omega
        have t3 : ((n : Int) == 3) = true := by simp; omega
        have t4 : ((n : Int) == 4) = false := by simp; omega
        have hc : (c / 16 == 14) = false := by simp; omega
        clear g1 g2 g3 g4 n1 n2 n3
        go_enter Tryd.func69, Tryd.ntmps69
        go_wp2
        go_ret
        exact ⟨rfl, rfl⟩
      · have t1 : ((n : Int) == 1) = false := by simp; omega
        have t2 : ((n : Int) == 2) = false := by simp; omega
        have t3 : ((n : Int) == 3) = false := by simp; omega
        have t4 : ((n : Int) == 4) = true := by simp; omega
        have hc : (c / 8 == 30) = false := by simp; omega
        clear g1 g2 g3 g4 n1 n2 n3
        go_enter Tryd.func69, Tryd.ntmps69
        go_wp2
        go_ret
        exact ⟨rfl, rfl⟩

set_option maxHeartbeats 2000000 in
set_option maxRecDepth 100000 in
theorem l1valueB_yes (b off cap k n : Nat) (zs : List Int) (c : Int) (w : World) (hm : zs.length ≤ 400000000) (hby : Bys zs) (hcz : c = zs[k]?.getD 0) (hs : k + n ≤ zs.length) (h2 : 2 ≤ n) (h4 : n ≤ 4)
    (hc : ∀ j, j < zs.length → w.cell? ⟨b, off + j, none⟩ = some (.int .u8 (zs[j]?.getD 0)))
    (hcls : (n = 2 ∧ c / 32 = 6) ∨ (n = 3 ∧ c / 16 = 14) ∨ (n = 4 ∧ c / 8 = 30)) :
    Calls Tryd.prog 69 #[.slice (some ⟨b, off, none⟩) zs.length cap, .int .i64 k, .int .i64 n] w fun e w' => e = .returned (.int .i64 (foldc (lead n c) (((zs.drop k).drop 1).take (n - 1)))) ∧ w = w' := by
  have hlt : k < zs.length := by omega
  have hcx := hc k hlt
  have hcb := hby.get k
  rw [← hcz] at hcx hcb
  clear hcz
  obtain ⟨hc0, hc1⟩ := hcb
  have HC : Hid (∀ j, j < zs.length → w.cell? ⟨b, off + j, none⟩ = some (.int .u8 (zs[j]?.getD 0))) := hc
  clear hc
  have t1 : ((n : Int) == 1) = false := by simp; omega
  obtain ⟨x0, hx0⟩ : ∃ x0, x0 = lead n c := ⟨_, rfl⟩
  rw [← hx0]
  obtain ⟨R, hR⟩ : ∃ R, R = foldc x0 (((zs.drop k).drop 1).take (n - 1)) := ⟨_, rfl⟩
  rw [← hR]
  have HR : Hid (R = foldc x0 (((zs.drop k).drop 1).take (n - 1))) := hR
  clear hR
  rcases hcls with ⟨hnn, hd⟩ | ⟨hnn, hd⟩ | ⟨hnn, hd⟩
  · have hxv : x0 = c % 32 := by rw [hx0, hnn]; exact lead_two c hd
    have t2 : ((n : Int) == 2) = true := by simp; omega
    have t3 : ((n : Int) == 3) = false := by simp; omega
    have t4 : ((n : Int) == 4) = false := by simp; omega
    have hd' : (c / 32 == 6) = true := by simp [hd]
    clear hd hx0 hnn
    subst hxv
    go_enter Tryd.func69, Tryd.ntmps69
    go_wp2
    go_loop [8, 9] (fun v i => ∃ (j : Nat) (x : Int), 1 ≤ j ∧ j ≤ n ∧ i = .int .i64 j ∧ v = .int .i64 x ∧ 0 ≤ x ∧ (j = 1 → x < 32) ∧ (j = 2 → x < 2048) ∧ (j = 3 → x < 131072) ∧ (j = 4 → x < 8388608) ∧ Hid (R = foldc x (((zs.drop k).drop j).take (n - j))))
      (fun _ i => n - (intOf i).toNat)
    case atStart => exact ⟨1, _, by omega, by omega, rfl, rfl, by omega, fun _ => by omega, fun _ => by omega, fun _ => by omega, fun _ => by omega, HR⟩
    case round =>
      obtain ⟨j, x, hj1, hjn, rfl, rfl, hx0, b1, b2, b3, b4, HF⟩ := hrel
      have hxb : x < 8388608 := by omega
      by_cases hlj : j < n
      · have hst := foldc_step (s := zs.drop k) (x := x) hlj (by rw [List.length_drop]; omega)
        rw [drop_at] at hst
        have hcy := HC.out (k + j) (by omega)
        have hyb := hby.get (k + j)
        have b1' : j = 1 → x < 32 := b1
        have b2' : j = 2 → x < 2048 := b2
        have b3' : j = 3 → x < 131072 := b3
        generalize zs[k + j]?.getD 0 = d at hst hcy hyb
        obtain ⟨hy0, hy1⟩ := hyb
        have hlk : k + j < zs.length := by omega
        by_cases hdd : d / 64 = 2
        · rw [if_pos hdd] at hst
          have HS : Hid (R = foldc (x * 64 + d % 64) (((zs.drop k).drop (j + 1)).take (n - (j + 1)))) := by unfold Hid; rw [HF.out]; exact hst
          have hdt : (d / 64 != 2) = false := by simp [hdd]
          have q1 : j + 1 = 1 → x * 64 + d % 64 < 32 := by omega
          have q2 : j + 1 = 2 → x * 64 + d % 64 < 2048 := by omega
          have q3 : j + 1 = 3 → x * 64 + d % 64 < 131072 := by omega
          have q4 : j + 1 = 4 → x * 64 + d % 64 < 8388608 := by omega
          clear hst hdd b1 b2 b3 b4 b1' b2' b3'
          go_wp2
          go_round
          case rel => exact ⟨j + 1, _, by omega, by omega, by go_num, rfl, by omega, q1, q2, q3, q4, HS.out⟩
          case measure => simp [intOf]; omega
        · rw [if_neg hdd] at hst
          have HS : Hid (R = -1) := by unfold Hid; rw [HF.out]; exact hst
          have hdt : (d / 64 != 2) = true := by simp [hdd]
          clear hst hdd b1 b2 b3 b4 b1' b2' b3'
          go_wp2
          go_ret
          exact ⟨by rw [HS.out]; rfl, rfl⟩
      · have HS : Hid (R = x) := by
          unfold Hid; rw [HF.out, show n - j = 0 by omega]; simp [foldc]
        clear b1 b2 b3 b4 HF
        go_wp2
        go_ret
        exact ⟨by rw [HS.out]; rfl, rfl⟩
  · have hxv : x0 = c % 16 := by rw [hx0, hnn]; exact lead_three c hd
    have t2 : ((n : Int) == 2) = false := by simp; omega
    have t3 : ((n : Int) == 3) = true := by simp; omega
    have t4 : ((n : Int) == 4) = false := by simp; omega
    have hd' : (c / 16 == 14) = true := by simp [hd]
    clear hd hx0 hnn
    subst hxv
    go_enter Tryd.func69, Tryd.ntmps69
    go_wp2
    go_loop [8, 9] (fun v i => ∃ (j : Nat) (x : Int), 1 ≤ j ∧ j ≤ n ∧ i = .int .i64 j ∧ v = .int .i64 x ∧ 0 ≤ x ∧ (j = 1 → x < 32) ∧ (j = 2 → x < 2048) ∧ (j = 3 → x < 131072) ∧ (j = 4 → x < 8388608) ∧ Hid (R = foldc x (((zs.drop k).drop j).take (n - j))))
      (fun _ i => n - (intOf i).toNat)
    case atStart => exact ⟨1, _, by omega, by omega, rfl, rfl, by omega, fun _ => by omega, fun _ => by omega, fun _ => by omega, fun _ => by omega, HR⟩
    case round =>
      obtain ⟨j, x, hj1, hjn, rfl, rfl, hx0, b1, b2, b3, b4, HF⟩ := hrel
      have hxb : x < 8388608 := by omega
      by_cases hlj : j < n
      · have hst := foldc_step (s := zs.drop k) (x := x) hlj (by rw [List.length_drop]; omega)
        rw [drop_at] at hst
        have hcy := HC.out (k + j) (by omega)
        have hyb := hby.get (k + j)
        have b1' : j = 1 → x < 32 := b1
        have b2' : j = 2 → x < 2048 := b2
        have b3' : j = 3 → x < 131072 := b3
        generalize zs[k + j]?.getD 0 = d at hst hcy hyb
        obtain ⟨hy0, hy1⟩ := hyb
        have hlk : k + j < zs.length := by omega
        by_cases hdd : d / 64 = 2
        · rw [if_pos hdd] at hst
          have HS : Hid (R = foldc (x * 64 + d % 64) (((zs.drop k).drop (j + 1)).take (n - (j + 1)))) := by unfold Hid; rw [HF.out]; exact hst
          have hdt : (d / 64 != 2) = false := by simp [hdd]
          have q1 : j + 1 = 1 → x * 64 + d % 64 < 32 := by omega
          have q2 : j + 1 = 2 → x * 64 + d % 64 < 2048 := by omega
          have q3 : j + 1 = 3 → x * 64 + d % 64 < 131072 := by omega
          have q4 : j + 1 = 4 → x * 64 + d % 64 < 8388608 := by omega
          clear hst hdd b1 b2 b3 b4 b1' b2' b3'
          go_wp2
          go_round
          case rel => exact ⟨j + 1, _, by omega, by omega, by go_num, rfl, by omega, q1, q2, q3, q4, HS.out⟩
          case measure => simp [intOf]; omega
        · rw [if_neg hdd] at hst
          have HS : Hid (R = -1) := by unfold Hid; rw [HF.out]; exact hst
          have hdt : (d / 64 != 2) = true := by simp [hdd]
          clear hst hdd b1 b2 b3 b4 b1' b2' b3'
          go_wp2
          go_ret
          exact ⟨by rw [HS.out]; rfl, rfl⟩
      · have HS : Hid (R = x) := by
          unfold Hid; rw [HF.out, show n - j = 0 by omega]; simp [foldc]
        clear b1 b2 b3 b4 HF
        go_wp2
        go_ret
        exact ⟨by rw [HS.out]; rfl, rfl⟩
  · have hxv : x0 = c % 8 := by rw [hx0, hnn]; exact lead_four c hd
    have t2 : ((n : Int) == 2) = false := by simp; omega
    have t3 : ((n : Int) == 3) = false := by simp; omega
    have t4 : ((n : Int) == 4) = true := by simp; omega
    have hd' : (c / 8 == 30) = true := by simp [hd]
    clear hd hx0 hnn
    subst hxv
    go_enter Tryd.func69, Tryd.ntmps69
    go_wp2
    go_loop [8, 9] (fun v i => ∃ (j : Nat) (x : Int), 1 ≤ j ∧ j ≤ n ∧ i = .int .i64 j ∧ v = .int .i64 x ∧ 0 ≤ x ∧ (j = 1 → x < 32) ∧ (j = 2 → x < 2048) ∧ (j = 3 → x < 131072) ∧ (j = 4 → x < 8388608) ∧ Hid (R = foldc x (((zs.drop k).drop j).take (n - j))))
      (fun _ i => n - (intOf i).toNat)
    case atStart => exact ⟨1, _, by omega, by omega, rfl, rfl, by omega, fun _ => by omega, fun _ => by omega, fun _ => by omega, fun _ => by omega, HR⟩
    case round =>
      obtain ⟨j, x, hj1, hjn, rfl, rfl, hx0, b1, b2, b3, b4, HF⟩ := hrel
      have hxb : x < 8388608 := by omega
      by_cases hlj : j < n
      · have hst := foldc_step (s := zs.drop k) (x := x) hlj (by rw [List.length_drop]; omega)
        rw [drop_at] at hst
        have hcy := HC.out (k + j) (by omega)
        have hyb := hby.get (k + j)
        have b1' : j = 1 → x < 32 := b1
        have b2' : j = 2 → x < 2048 := b2
        have b3' : j = 3 → x < 131072 := b3
        generalize zs[k + j]?.getD 0 = d at hst hcy hyb
        obtain ⟨hy0, hy1⟩ := hyb
        have hlk : k + j < zs.length := by omega
        by_cases hdd : d / 64 = 2
        · rw [if_pos hdd] at hst
          have HS : Hid (R = foldc (x * 64 + d % 64) (((zs.drop k).drop (j + 1)).take (n - (j + 1)))) := by unfold Hid; rw [HF.out]; exact hst
          have hdt : (d / 64 != 2) = false := by simp [hdd]
          have q1 : j + 1 = 1 → x * 64 + d % 64 < 32 := by omega
          have q2 : j + 1 = 2 → x * 64 + d % 64 < 2048 := by omega
          have q3 : j + 1 = 3 → x * 64 + d % 64 < 131072 := by omega
          have q4 : j + 1 = 4 → x * 64 + d % 64 < 8388608 := by omega
          clear hst hdd b1 b2 b3 b4 b1' b2' b3'
          go_wp2
          go_round
          case rel => exact ⟨j + 1, _, by omega, by omega, by go_num, rfl, by omega, q1, q2, q3, q4, HS.out⟩
          case measure => simp [intOf]; omega
        · rw [if_neg hdd] at hst
          have HS : Hid (R = -1) := by unfold Hid; rw [HF.out]; exact hst
          have hdt : (d / 64 != 2) = true := by simp [hdd]
          clear hst hdd b1 b2 b3 b4 b1' b2' b3'
          go_wp2
          go_ret
          exact ⟨by rw [HS.out]; rfl, rfl⟩
      · have HS : Hid (R = x) := by
          unfold Hid; rw [HF.out, show n - j = 0 by omega]; simp [foldc]
        clear b1 b2 b3 b4 HF
        go_wp2
        go_ret
        exact ⟨by rw [HS.out]; rfl, rfl⟩

theorem l1valueB_any (v : Value) (zs : List Int) (k n : Nat) (w : World) (hv : RdB w.heap.size w v zs) (hby : Bys zs) (hm : zs.length ≤ 400000000) (hk : k < zs.length) (h1 : 1 ≤ n) (h4 : n ≤ 4) :
    Calls Tryd.prog 69 #[v, .int .i64 k, .int .i64 n] w fun e w' => e = .returned (.int .i64 (lv (zs.drop k) n)) ∧ w = w' := by
  obtain ⟨a, cap, rfl, hr⟩ := hv
  have hlen : (zs.drop k).length = zs.length - k := List.length_drop
  by_cases hs : zs.length < k + n
  · rw [lv_short (by omega)]
    exact l1valueB_short a zs.length cap k n w hm hk h4 hs
  · obtain ⟨b, off, rfl, hb, hc⟩ := hr (fun h => by simp [h] at hk)
    have hhd : (zs.drop k)[0]?.getD 0 = zs[k]?.getD 0 := by rw [drop_at]; rfl
    have hcb := hby.get k
    have hcx := hc k hk
    by_cases c1 : n = 1 ∧ zs[k]?.getD 0 < 128
    · obtain ⟨rfl, hc1⟩ := c1
      rw [lv_fold (by omega) (by rw [hhd, lead_one _ hc1]; exact hcb.1), hhd, lead_one _ hc1]
      exact l1valueB_one b off zs.length cap k 1 _ w hm hcb.1 hc1 hcx (by omega) rfl
    · by_cases c2 : n = 2 ∧ zs[k]?.getD 0 / 32 = 6
      · have hl : lead n (zs[k]?.getD 0) = zs[k]?.getD 0 % 32 := by rw [c2.1]; exact lead_two _ c2.2
        rw [lv_fold (by omega) (by rw [hhd, hl]; omega), hhd]
        exact l1valueB_yes b off cap k n zs _ w hm hby rfl (by omega) (by omega) h4 hc (.inl c2)
      · by_cases c3 : n = 3 ∧ zs[k]?.getD 0 / 16 = 14
        · have hl : lead n (zs[k]?.getD 0) = zs[k]?.getD 0 % 16 := by rw [c3.1]; exact lead_three _ c3.2
          rw [lv_fold (by omega) (by rw [hhd, hl]; omega), hhd]
          exact l1valueB_yes b off cap k n zs _ w hm hby rfl (by omega) (by omega) h4 hc (.inr (.inl c3))
        · by_cases c4 : n = 4 ∧ zs[k]?.getD 0 / 8 = 30
          · have hl : lead n (zs[k]?.getD 0) = zs[k]?.getD 0 % 8 := by rw [c4.1]; exact lead_four _ c4.2
            rw [lv_fold (by omega) (by rw [hhd, hl]; omega), hhd]
            exact l1valueB_yes b off cap k n zs _ w hm hby rfl (by omega) (by omega) h4 hc (.inr (.inr c4))
          · rw [lv_lead (by omega) (by rw [hhd, lead_no _ _ c1 c2 c3 c4]; omega)]
            exact l1valueB_no b off zs.length cap k n _ w hm hcb.1 hcb.2 hcx (by omega) h1 h4 c1 c2 c3 c4


set_option maxHeartbeats 2000000 in
set_option maxRecDepth 100000 in
theorem specDecodeText_big (v : Value) (zs : List Int) (w : World) (hv : RdB w.heap.size w v zs) (hby : Bys zs) (hn : zs.length ≤ 100000000) :
    Calls Tryd.prog 53 #[v] w fun e w' => ∃ v', e = .returned (.tuple #[v', .int .i64 (decR zs).2.1, .int .i64 (decR zs).2.2]) ∧ OwI w.heap.size w' v' (decR zs).1 ∧ w.grownBy w' none := by
  obtain ⟨i0, hi, hz0, hz1, hz2⟩ := info_parts info3
  obtain ⟨a, cap, rfl, hr⟩ := hv
  have HV : Hid (RdB w.heap.size w (.slice a zs.length cap) zs) := ⟨a, cap, rfl, hr⟩
  clear hr
  go_enter Tryd.func53, Tryd.ntmps53
  go_wp2
  go_loopw [5, 6] (fun v i wr => ∃ (k : Nat) (acc : List Int), i = .int .i64 k ∧ OwI w.heap.size wr v acc ∧ Mid zs acc k ∧ Below w.heap.size w wr)
    (fun _ i _ => zs.length - (intOf i).toNat)
  case atStart => exact ⟨0, [], rfl, World.ownsRow_nil _ _ _ _, Mid.start zs, Below.refl _ _⟩
  case round =>
    obtain ⟨k, acc, rfl, hown, hmid, hnx⟩ := hrel
    have hkl := hmid.1
    have hal := hmid.2.1
    have HM : Hid (Mid zs acc k) := hmid
    clear hmid
    by_cases hlt : k < zs.length
    · obtain ⟨s, hs⟩ : ∃ s, s = zs.drop k := ⟨_, rfl⟩
      have HS : Hid (s = zs.drop k) := hs
      clear hs
      have HR : Hid (RdB wr.heap.size wr (.slice a zs.length cap) zs) := HV.out.later (grown_of_below hnx)
      go_wp2
      go_loop [5, 7, 8] (fun o st i => o = u5 ∧ st = .int .i64 0 ∧ ∃ m : Nat, 1 ≤ m ∧ m ≤ 5 ∧ i = .int .i64 m ∧ Hid (∀ j, 1 ≤ j → j < m → hit s j = false))
        (fun _ _ i => 5 - (intOf i).toNat)
      case atStart => exact ⟨rfl, rfl, 1, by omega, by omega, rfl, fun j h1 h2 => by omega⟩
      case round =>
        obtain ⟨rfl, rfl, m, hm1, hm5, rfl, HLO⟩ := hrel
        by_cases hm4 : m ≤ 4
        · have hval := l1valueB_any _ zs k m wr HR.out hby (by omega) hlt hm1 hm4
          rw [← HS.out] at hval
          have HVAL := hval
          clear hval
          by_cases hx0 : 0 ≤ lv s m
          · cases hh : (need (lv s m) == (m : Int))
            · have HLO' : Hid (∀ j, 1 ≤ j → j < m + 1 → hit s j = false) := hlo_step HLO.out (by simp [hit, hh])
              generalize lv s m = x at HVAL hx0 hh
              go_wp2_with (first
                | (go_at_call 69; refine HVAL.mono ?_; rintro e w' ⟨rfl, rfl⟩)
                | (go_at_call 70; refine (l1need_any _ _).mono ?_; rintro e w' ⟨rfl, rfl⟩))
              go_round
              case rel => exact ⟨rfl, rfl, m + 1, by omega, by omega, by go_num, HLO'⟩
              case measure => simp [intOf]; omega
            · have HSZ : Hid (fsize s = m) := fsize_of hm1 hm4 HLO.out (by simp [hit, hh, hx0])
              have hne : ((m : Int) == 0) = false := by simp; omega
              have HMID : Hid (Mid zs (acc ++ [lv s m]) (k + m)) := by
                have h := HM.out.step hlt (by rw [← HS.out, HSZ.out]; omega)
                rw [← HS.out, HSZ.out] at h
                exact h
              have hkm : k + m ≤ zs.length := HMID.out.1
              generalize lv s m = x at HVAL hx0 hh HMID
              go_wp2_with (first
                | (go_at_call 69; refine HVAL.mono ?_; rintro e w' ⟨rfl, rfl⟩)
                | (go_at_call 70; refine (l1need_any _ _).mono ?_; rintro e w' ⟨rfl, rfl⟩)
                | (at_builtin; refine wpList_append_own _ rfl _ _ 26 rfl w.heap.size 3 i0 (.int .i64 0) 1 8 Tryd.underlying26 hi hz0 hz1 hz2 rfl (by decide) _ _ _ rfl (World.ownsRow.alloc hown _) ⟨wr.heap.size, 0, none⟩ 1 1 [.int .i64 x] rfl rfl (cell_one_new _ _ _) (by intro u hu; simp at hu; subst hu; rfl) (by unfold maxLen; omega) (by omega) (by have := hnx.size; simp; omega) ?_; intro v' w1 hown' hgrow _))
              have R := own_app (xs := [x]) _ hnx.size hown hown' (by simp) hgrow
              clear hown' hgrow hown HVAL
              go_wp2
              go_roundw
              case rel => exact ⟨k + m, acc ++ [x], by go_num, R.1, HMID.out, hnx.trans R.2⟩
              case measure => simp [intOf]; omega
          · have HLO' : Hid (∀ j, 1 ≤ j → j < m + 1 → hit s j = false) := hlo_step HLO.out (by simp [hit]; omega)
            generalize lv s m = x at HVAL hx0
            have hx1 : x < 0 := by omega
            go_wp2_with (go_at_call 69; refine HVAL.mono ?_; rintro e w' ⟨rfl, rfl⟩)
            go_round
            case rel => exact ⟨rfl, rfl, m + 1, by omega, by omega, by go_num, HLO'⟩
            case measure => simp [intOf]; omega
        · have HSZ : Hid (fsize s = 0) := fsize_none (by omega) HLO.out
          have HD : Hid (decR zs = ([], 2, (k : Int))) := by
            refine HM.out.bad hlt ?_
            rw [← HS.out]; exact HSZ.out
          go_wp2
          go_ret3
          exact ⟨_, by rw [HD.out]; rfl, by rw [HD.out]; exact World.ownsRow_nil _ _ _ _, grown_of_below hnx⟩
    · have HD : Hid (decR zs = (acc, 0, 0)) := HM.out.done hlt
      go_wp2
      go_ret3
      exact ⟨_, by rw [HD.out]; rfl, by rw [HD.out]; exact hown, grown_of_below hnx⟩

set_option maxHeartbeats 400000 in
set_option maxRecDepth 100000 in
theorem specTextWidth_big (v : Value) (zs : List Int) (w : World) (hv : RdB w.heap.size w v zs) (hby : Bys zs) (hn : zs.length ≤ 100000000) :
    Calls Tryd.prog 30 #[v] w fun e w' => e = .returned (.int .i64 (widthR zs)) ∧ w.grownBy w' none := by
  have hl := decR_len zs
  by_cases h0 : (decR zs).2.1 = 0
  · have HW : Hid (widthR zs = ((decR zs).1.length : Int)) := by unfold Hid widthR; rw [if_pos h0]
    go_enter Tryd.func30, Tryd.ntmps30
    go_wp2_with fail
    refine (specDecodeText_big v zs w hv hby hn).mono ?_
    rintro e w1 ⟨v1, rfl, o1, g1⟩
    obtain ⟨a1, cap1, hv1, _⟩ := o1.rd
    rw [hv1]
    clear hv1 o1 hv
    go_wp2
    go_ret
    exact ⟨by rw [HW.out]; rfl, g1⟩
  · have HW : Hid (widthR zs = -1) := by unfold Hid widthR; rw [if_neg h0]
    have hne : ((decR zs).2.1 != 0) = true := by simp [h0]
    go_enter Tryd.func30, Tryd.ntmps30
    go_wp2_with fail
    refine (specDecodeText_big v zs w hv hby hn).mono ?_
    rintro e w1 ⟨v1, rfl, o1, g1⟩
    clear o1 hv h0
    go_wp2
    go_ret
    exact ⟨by rw [HW.out]; rfl, g1⟩
end Go.Proofs.YtgmjpdejfdldlaaDoor

namespace Go.Proofs.YtgmjpdejfdldlaaDoor
open Go.RowKit

/-- Where the line begins in which place i lies. -/
def lfTo (t : List Int) : Nat → Nat
  | 0 => 0
  | i + 1 => if t[i]?.getD 0 = 10 then i + 1 else lfTo t i
theorem lfTo_le (t : List Int) : ∀ i, lfTo t i ≤ i
  | 0 => Nat.le_refl _
  | i + 1 => by have := lfTo_le t i; unfold lfTo; split <;> omega
theorem lfTo_line {l1 l2 r : List Int} (h1 : l1 = [] ∨ ∃ a, l1 = a ++ [10]) (h2 : (10 : Int) ∉ l2) : ∀ j, j ≤ l2.length → lfTo (l1 ++ l2 ++ r) (l1.length + j) = l1.length
  | 0, _ => by
    rcases h1 with rfl | ⟨a, rfl⟩
    · rfl
    · rw [List.length_append]
      show (if (a ++ [10] ++ l2 ++ r)[a.length]?.getD 0 = 10 then a.length + 1 else _) = _
      rw [if_pos (by simp)]
      rfl
  | j + 1, hj => by
    show (if (l1 ++ l2 ++ r)[l1.length + j]?.getD 0 = 10 then _ else _) = _
    have : (l1 ++ l2 ++ r)[l1.length + j]?.getD 0 = l2[j] := by
      rw [List.append_assoc, List.getElem?_append_right (by omega), Nat.add_sub_cancel_left, List.getElem?_append_left (by omega), List.getElem?_eq_getElem (by omega)]
      rfl
    rw [this, if_neg (fun e => h2 (by rw [← e]; exact List.getElem_mem _))]
    exact lfTo_line h1 h2 j (by omega)

theorem rd_part {B b off n cap : Nat} {w : World} {zs : List Int} (h : RdB B w (.slice (some ⟨b, off, none⟩) zs.length cap) zs) (c' i j : Nat) (hij : i ≤ j) (hj : j ≤ zs.length) (hn : n = j - i) (hb : b < B) :
    RdB B w (.slice (some ⟨b, off + i, none⟩) n c') ((zs.drop i).take n) := by
  obtain ⟨a, c, e, hr⟩ := h
  cases e
  have hl : ((zs.drop i).take n).length = n := by simp; omega
  refine ⟨_, _, by rw [hl], fun h0 => ⟨b, off + i, rfl, hb, fun k hk => ?_⟩⟩
  rw [hl] at hk
  obtain ⟨b', off', ha, _, hc⟩ := hr (fun e => h0 (by rw [e]; simp))
  cases ha
  rw [Nat.add_assoc, hc (i + k) (by omega), List.getElem?_take, if_pos hk, List.getElem?_drop]

set_option maxHeartbeats 2000000 in
set_option maxRecDepth 100000 in
theorem lineAt_any (v : Value) (l1 l2 l3 l4 : List Int) (w : World) (hv : RdB w.heap.size w v (l1 ++ l2 ++ l3 ++ l4)) (hs : Sl v (l1 ++ l2 ++ l3 ++ l4).length) (hby : Bys (l2 ++ l3)) (hn : (l1 ++ l2 ++ l3 ++ l4).length ≤ 100000000)
    (h1 : l1 = [] ∨ ∃ a, l1 = a ++ [10]) (h2 : (10 : Int) ∉ l2) (h3 : (10 : Int) ∉ l3) (h4 : l4 = [] ∨ ∃ b, l4 = 10 :: b) :
    Calls Tryd.prog 14 #[v, .int .i64 ((l1 ++ l2).length : Int)] w fun e w' => e = .returned (.int .i64 (widthR (l2 ++ l3))) ∧ w.grownBy w' none := by
  have HF := hide (lfTo_line (r := l3 ++ l4) h1 h2 l2.length (Nat.le_refl _))
  have hlt : (l1 ++ l2 ++ l3 ++ l4).length = l1.length + l2.length + l3.length + l4.length := by simp; omega
  have hm3 : ∀ k, l1.length + l2.length ≤ k → k < l1.length + l2.length + l3.length → (l1 ++ l2 ++ l3 ++ l4)[k]?.getD 0 ≠ 10 := fun k ha hb e => by
    rw [List.getElem?_append_left (by simp; omega), List.getElem?_append_right (by simp; omega), List.getElem?_eq_getElem (by simp; omega)] at e
    exact h3 (by rw [← e]; exact List.getElem_mem _)
  have hm4 : l4 ≠ [] → (l1 ++ l2 ++ l3 ++ l4)[l1.length + l2.length + l3.length]?.getD 0 = 10 := fun h => by
    rcases h4 with h' | ⟨b, rfl⟩
    · exact absurd h' h
    · rw [List.getElem?_append_right (by simp; omega)]
      simp [show l1.length + l2.length + l3.length - (l1.length + (l2.length + l3.length)) = 0 by omega]
  have HP : Hid (((l1 ++ l2 ++ l3 ++ l4).drop l1.length).take (l2.length + l3.length) = l2 ++ l3) := by
    unfold Hid
    rw [show l1 ++ l2 ++ l3 ++ l4 = l1 ++ ((l2 ++ l3) ++ l4) by simp, List.drop_left, ← List.length_append, List.take_left]
  have HB : Hid (Bys (l2 ++ l3)) := hby
  rw [show (l1 ++ l2).length = l1.length + l2.length by simp]
  rw [show l1 ++ l2 ++ (l3 ++ l4) = l1 ++ l2 ++ l3 ++ l4 by simp] at HF
  have hl4 : l4.length = 0 → l4 = [] := List.eq_nil_of_length_eq_zero
  have hl4' : l4 = [] → l4.length = 0 := fun h => by rw [h]; rfl
  have HN : Hid (widthR (l2 ++ l3) = widthR (l2 ++ l3)) := rfl
  obtain ⟨a, cap, e, hr⟩ := id hv
  obtain ⟨a', cap', e', hlc, hcm⟩ := hs
  rw [e] at e'
  simp only [Value.slice.injEq] at e'
  obtain ⟨ea, _, ec⟩ := e'
  subst e
  rw [← ec] at hlc hcm
  clear ec ea
  generalize hzs : l1 ++ l2 ++ l3 ++ l4 = zs at *
  have HV := hide hv
  have hn1 : l1.length + l2.length ≤ zs.length := by omega
  clear hv h1 h2 h3 h4 hby
  generalize hat : l1.length + l2.length = at' at *
  have HR : Hid (∀ k, k < zs.length → ∃ b off, a = some ⟨b, off, none⟩ ∧ b < w.heap.size ∧ w.cell? ⟨b, off + k, none⟩ = some (.int .u8 (zs[k]?.getD 0))) := fun k hk => by
    obtain ⟨b, off, h1, h2, h3⟩ := hr (fun e => by rw [e] at hk; simp at hk)
    exact ⟨b, off, h1, h2, h3 k hk⟩
  clear hr
  have HLT := hide hlt
  clear hlt
  go_enter Tryd.func14, Tryd.ntmps14
  go_wp2
  go_loopw [5, 6] (fun fr i wr => ∃ k : Nat, k ≤ at' ∧ i = .int .i64 k ∧ fr = .int .i64 (lfTo zs k : Int) ∧ w = wr)
    (fun _ i _ => at' - (intOf i).toNat)
  case atStart => exact ⟨0, Nat.zero_le _, rfl, rfl, rfl⟩
  case round =>
    obtain ⟨k, hk, rfl, rfl, hw⟩ := hrel
    subst hw
    have hle := lfTo_le zs k
    by_cases hlt2 : k < at'
    · obtain ⟨b, off, rfl, hb, hx⟩ := HR.out k (by have := HLT.out; omega)
      have q1 : (k : Int) < (at' : Int) := by omega
      have q2 : (k : Int) < (zs.length : Int) := by have := HLT.out; omega
      by_cases hz : zs[k]?.getD 0 = 10
      · have HL := hide (show lfTo zs (k + 1) = k + 1 by rw [lfTo, if_pos hz])
        have q3 : (zs[k]?.getD 0 == 10) = true := by simpa using hz
        clear hz
        generalize zs[k]?.getD 0 = z at *
        go_wp2
        go_roundw
        case rel => exact ⟨k + 1, by omega, by go_num, by rw [HL.out]; go_num, trivial⟩
        case measure => simp [intOf]; omega
      · have HL := hide (show lfTo zs (k + 1) = lfTo zs k by rw [lfTo, if_neg hz])
        have q3 : (zs[k]?.getD 0 == 10) = false := by simpa using hz
        clear hz
        generalize zs[k]?.getD 0 = z at *
        go_wp2
        go_roundw
        case rel => exact ⟨k + 1, by omega, by go_num, by rw [HL.out], trivial⟩
        case measure => simp [intOf]; omega
    · have hkn : k = at' := by omega
      subst hkn
      have HL := HF.out
      rw [HL]
      clear hle HF HL
      go_wp2
      go_loopw [7] (fun t wr => ∃ m : Nat, k ≤ m ∧ m ≤ k + l3.length ∧ t = .int .i64 m ∧ w = wr)
        (fun t _ => k + l3.length - (intOf t).toNat)
      case atStart => exact ⟨k, Nat.le_refl _, by omega, rfl, rfl⟩
      case round =>
        obtain ⟨m, hm1, hm2, rfl, hw⟩ := hrel
        subst hw
        by_cases hlt3 : m < k + l3.length
        · obtain ⟨b, off, rfl, hb, hx⟩ := HR.out m (by have := HLT.out; omega)
          have q2 : (m : Int) < (zs.length : Int) := by have := HLT.out; omega
          have q3 : (zs[m]?.getD 0 != 10) = true := by simpa using hm3 m hm1 hlt3
          generalize zs[m]?.getD 0 = z at *
          go_wp2
          go_roundw
          case rel => exact ⟨m + 1, by omega, by omega, by go_num, trivial⟩
          case measure => simp [intOf]; omega
        · have hme : m = k + l3.length := by omega
          have hlt := HLT.out
          have hT : Hid (∀ (x : Option Addr) (c : Nat), (m - l1.length = 0 ∨ ∃ b off, x = some ⟨b, off + l1.length, none⟩ ∧ a = some ⟨b, off, none⟩ ∧ b < w.heap.size) → Calls Tryd.prog 30 #[.slice x (m - l1.length) c] w fun e w' => e = .returned (.int .i64 (widthR (l2 ++ l3))) ∧ w.grownBy w' none) := fun x c h => by
            have hnn : m - l1.length = l2.length + l3.length := by omega
            have hbd : (l2 ++ l3).length ≤ 100000000 := by rw [List.length_append]; omega
            rcases h with h | ⟨b, off, rfl, ha, hb⟩
            · have e0 : l2 ++ l3 = [] := List.eq_nil_of_length_eq_zero (by rw [List.length_append]; omega)
              rw [h, e0]
              exact specTextWidth_big _ [] w ⟨x, c, rfl, fun h => absurd rfl h⟩ (fun z hz => by simp at hz) (by simp)
            · rw [ha] at HV
              have h := rd_part (n := m - l1.length) HV.out c l1.length m (by omega) (by omega) rfl hb
              rw [hnn] at h ⊢
              rw [HP.out] at h
              exact specTextWidth_big _ _ w h HB.out hbd
          have hq : ¬ (m : Int) < (l1.length : Int) := by omega
          have hx4 : (zs.length = m ∧ ¬ (m : Int) < (zs.length : Int)) ∨ (m < zs.length ∧ (m : Int) < (zs.length : Int) ∧ (zs[m]?.getD 0 != 10) = false) := by
            by_cases hend : m < zs.length
            · refine .inr ⟨hend, by omega, ?_⟩
              have := hm4 (fun e => by have := hl4' e; omega)
              rw [← hme] at this
              simpa using this
            · exact .inl ⟨by omega, by omega⟩
          have hb1 : l1.length ≤ m := by omega
          have hb2 : m ≤ cap := by omega
          have hb3 : m ≤ 100000000 := by omega
          have hb4 : l1.length ≤ 100000000 := by omega
          have hb5 : m ≤ zs.length := by omega
          have HLL : Hid (zs.length = 0 → m - l1.length = 0) := fun h => by omega
          have HCC : Hid (cap - l1.length = 0 → m - l1.length = 0) := fun h => by omega
          have HPos : Hid (¬ zs.length = 0 → 0 < zs.length) := fun h => by omega
          clear hm3 hm4 HV HP HB hme hm1 hm2 hlt3 hlt2 hk hl4 hl4' hlt hn1 hat hzs
          rcases hx4 with ⟨hend, q2⟩ | ⟨hend, q2, q3⟩
          · have q2n : ¬ m < zs.length := by omega
            clear hend
            by_cases h0 : zs.length = 0
            · have hn0 := hide (HLL.out h0)
              clear h0
              cases a with
              | none =>
                go_wp2_with fail
                all_goals
                  refine (hT.out _ _ (.inl hn0.out)).mono ?_
                  rintro e w1 ⟨rfl, g1⟩
                  go_wp2
                  go_ret
                  exact ⟨rfl, g1⟩
              | some ad =>
                go_wp2_with fail
                all_goals
                  refine (hT.out _ _ (.inl hn0.out)).mono ?_
                  rintro e w1 ⟨rfl, g1⟩
                  go_wp2
                  go_ret
                  exact ⟨rfl, g1⟩
            · obtain ⟨b, off, rfl, hb, _⟩ := HR.out 0 (HPos.out h0)
              clear HR
              go_wp2_with fail
              all_goals
                refine (hT.out _ _ ?h).mono ?_
                case h => first | exact .inr ⟨_, _, rfl, rfl, hb⟩ | exact .inl (HCC.out (by assumption)) | exact .inl (HCC.out (by omega))
                rintro e w1 ⟨rfl, g1⟩
                go_wp2
                go_ret
                exact ⟨rfl, g1⟩
          · obtain ⟨b, off, rfl, hb, hx⟩ := HR.out _ hend
            clear HR
            generalize zs[m]?.getD 0 = z at *
            go_wp2_with fail
            all_goals
              refine (hT.out _ _ ?h).mono ?_
              case h => first | exact .inr ⟨_, _, rfl, rfl, hb⟩ | exact .inl (HCC.out (by assumption)) | exact .inl (HCC.out (by omega))
              rintro e w1 ⟨rfl, g1⟩
              go_wp2
              go_ret
              exact ⟨rfl, g1⟩
end Go.Proofs.YtgmjpdejfdldlaaDoor

