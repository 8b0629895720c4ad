import Derived.Laws.AppendOwnNone
import Derived.Test.YtakkdniikhgpdaaGreatDoorMAE
import Derived.Test.YtakkdniikhgpdaaGreatDoorNAA
namespace Go.Proofs.YtakkdniikhgpdaaGreatDoor
open Go.RowKit

set_option maxHeartbeats 2000000 in
set_option maxRecDepth 100000 in
theorem specFromUnits_any (v : Value) (zs : List Int) (w : World) (hv : RdI w.heap.size w v zs) (hn : zs.length ≤ 2097152) :
    Calls Tryz.prog 93 #[v] w fun e w' => ∃ v', e = .returned (.tuple #[v', .int .i64 (fuR zs).2]) ∧ OwI w.heap.size w' v' (fuR zs).1 ∧ w.grownBy w' none := by
  obtain ⟨i0, hi, hz0, hz1, hz2⟩ := info_parts info3
  obtain ⟨a, cap, rfl, hr⟩ := hv
  go_enter Tryz.func93, Tryz.ntmps93
  go_wp2
  go_loop [4] (fun i => ∃ k : Nat, k ≤ zs.length ∧ i = .int .i64 k ∧ (zs.take k).all isUn = true) (fun i => zs.length - (intOf i).toNat)
  case atStart => exact ⟨0, Nat.zero_le _, rfl, rfl⟩
  case round =>
    obtain ⟨k, hk, rfl, hall⟩ := hrel
    by_cases hlt : k < zs.length
    · obtain ⟨b, off, rfl, hb, hc⟩ := hr (fun h => by simp [h] at hlt)
      have hcx := hc k hlt
      have hal := all_snoc zs isUn k hlt hall
      have han := all_not zs isUn k hlt
      generalize zs[k]?.getD 0 = p at hcx hal han
      by_cases hp0 : p < 0
      · have HF : Hid (zs.all isUn = false) := han (by simp [isUn]; omega)
        clear hal han hc hr
        go_wp2
        go_ret2
        exact ⟨_, by rw [fuR_bad _ HF.out]; rfl, by rw [fuR_bad _ HF.out]; exact World.ownsRow_nil _ _ _ _, World.grownBy.refl _ _⟩
      · by_cases hp1 : 65535 < p
        · have HF : Hid (zs.all isUn = false) := han (by simp [isUn]; omega)
          clear hal han hc hr
          go_wp2
          go_ret2
          exact ⟨_, by rw [fuR_bad _ HF.out]; rfl, by rw [fuR_bad _ HF.out]; exact World.ownsRow_nil _ _ _ _, World.grownBy.refl _ _⟩
        · have hal' := hal (by simp [isUn]; omega)
          clear hal han hc hr
          go_wp2
          go_round
          case rel => exact ⟨k + 1, by omega, by go_num, hal'⟩
          case measure => simp [intOf]; omega
    · have HF : Hid (zs.all isUn = true) := by
        unfold Hid
        rw [List.take_of_length_le (by omega)] at hall
        exact hall
      clear hall
      go_wp2
      go_loopw [5, 6] (fun v i wr => ∃ (k : Nat) (acc : List Int), k ≤ zs.length ∧ i = .int .i64 k ∧ OwI w.heap.size wr v acc ∧ acc.length ≤ k ∧ acc ++ fu (zs.drop k) = fu zs ∧ Below w.heap.size w wr)
        (fun _ i _ => zs.length - (intOf i).toNat)
      case atStart => exact ⟨0, [], Nat.zero_le _, rfl, World.ownsRow_nil _ _ _ _, Nat.le_refl _, by simp, Below.refl _ _⟩
      case round =>
        rename_i hk0 hlt0
        obtain ⟨k, acc, hk, rfl, hown, hacc, hx, hnx⟩ := hrel
        by_cases hlt : k < zs.length
        · obtain ⟨b, off, rfl, hb, hc⟩ := hr (fun h => by simp [h] at hlt)
          have hcx : wr.cell? ⟨b, off + k, none⟩ = some (.int .i64 (zs[k]?.getD 0)) := (hnx.cell (by exact hb)).trans (hc k hlt)
          have hcy : k + 1 < zs.length → wr.cell? ⟨b, off + (k + 1), none⟩ = some (.int .i64 (zs[k + 1]?.getD 0)) := fun h => (hnx.cell (by exact hb)).trans (hc (k + 1) h)
          have h1 := fu_one zs k hlt
          have h2 := fu_two zs k
          generalize zs[k]?.getD 0 = p at hcx h1 h2
          generalize zs[k + 1]?.getD 0 = x at hcy h1 h2
          clear hc hr
          by_cases hpair : isHi p = true ∧ k + 1 < zs.length ∧ isLo x = true
          · obtain ⟨hp, hlt1, hx2⟩ := hpair
            have HE := fu_step2 hx (h2 hlt1 hp hx2)
            have HE' : Hid (acc ++ [pairOf p x] ++ fu (zs.drop (k + 2)) = fu zs) := HE
            have hcy' := hcy hlt1
            simp [isHi] at hp
            simp [isLo] at hx2
            obtain ⟨hp1, hp2⟩ := hp
            obtain ⟨hx3, hx4⟩ := hx2
            clear h1 h2 HE hcy hx
            have hpv : pairOf p x = 65536 + (p - 55296) * 1024 + x - 56320 := by unfold pairOf; omega
            have HP : Hid (pairOf p x = 65536 + (p - 55296) * 1024 + x - 56320) := hpv
            clear hpv
            go_wp2_with (at_builtin; refine wpList_append_own _ rfl _ _ 71 rfl w.heap.size 3 i0 (.int .i64 0) 1 8 Tryz.underlying71 hi hz0 hz1 hz2 rfl (by decide) _ _ _ rfl (World.ownsRow.alloc hown _) ⟨wr.heap.size, 0, none⟩ 1 1 [.int .i64 (65536 + (p - 55296) * 1024 + x - 56320)] rfl rfl (cell_one_new _ _ _) (by intro u hu; simp at hu; subst hu; rfl) (by unfold maxLen; omega) (by omega) (by have := hnx.size; simp; omega) ?_; intro v' w1 hown' hgrow _)
            have R := own_app (xs := [65536 + (p - 55296) * 1024 + x - 56320]) _ hnx.size hown hown' (by simp) hgrow
            clear hown' hgrow hown
            go_wp2
            go_roundw
            case rel => exact ⟨k + 2, acc ++ [65536 + (p - 55296) * 1024 + x - 56320], by omega, by go_num, R.1, by simp; omega, by rw [← HP.out]; exact HE'.out, hnx.trans R.2⟩
            case measure => simp [intOf]; omega
          · have HE : Hid (acc ++ [p] ++ fu (zs.drop (k + 1)) = fu zs) := fu_step1 hx (h1 hpair)
            have hway : p < 55296 ∨ 56319 < p ∨ (55296 ≤ p ∧ p ≤ 56319 ∧ zs.length ≤ k + 1) ∨ (55296 ≤ p ∧ p ≤ 56319 ∧ k + 1 < zs.length ∧ x < 56320) ∨ (55296 ≤ p ∧ p ≤ 56319 ∧ k + 1 < zs.length ∧ 56320 ≤ x ∧ 57343 < x) := by
              simp only [isHi, isLo, decide_eq_true_eq] at hpair; omega
            clear h1 h2 hpair hx
            rcases hway with hw | hw | ⟨hw1, hw2, hw3⟩ | ⟨hw1, hw2, hw3, hw4⟩ | ⟨hw1, hw2, hw3, hw4, hw5⟩
            all_goals
              first
                | (have hcy' := hcy hw3; clear hcy)
                | clear hcy
              go_wp2_with (at_builtin; refine wpList_append_own _ rfl _ _ 71 rfl w.heap.size 3 i0 (.int .i64 0) 1 8 Tryz.underlying71 hi hz0 hz1 hz2 rfl (by decide) _ _ _ rfl (World.ownsRow.alloc hown _) ⟨wr.heap.size, 0, none⟩ 1 1 [.int .i64 p] rfl rfl (cell_one_new _ _ _) (by intro u hu; simp at hu; subst hu; rfl) (by unfold maxLen; omega) (by omega) (by have := hnx.size; simp; omega) ?_; intro v' w1 hown' hgrow _)
              have R := own_app (xs := [p]) _ hnx.size hown hown' (by simp) hgrow
              clear hown' hgrow hown
              go_wp2
              go_roundw
              case rel => exact ⟨k + 1, acc ++ [p], by omega, by go_num, R.1, by simp; omega, HE.out, hnx.trans R.2⟩
              case measure => simp [intOf]; omega
        · have hE := fu_end (by omega) hx
          rw [hE] at hown
          clear hx hr hE
          go_wp2
          go_ret2
          exact ⟨_, by rw [fuR_ok _ HF.out]; rfl, by rw [fuR_ok _ HF.out]; exact hown, grown_of_below hnx⟩

end Go.Proofs.YtakkdniikhgpdaaGreatDoor

namespace Go.Proofs.YtakkdniikhgpdaaGreatDoor
open Go.RowKit

theorem need_ge (p : Int) (h : okPt p = true) : 1 ≤ need p ∧ need p ≤ 4 := by
  unfold need; rw [if_pos h]; split <;> (try split) <;> (try split) <;> omega
theorem need_one {p : Int} (h : okPt p = true) (h1 : need p = 1) : p < 128 := by
  unfold need at h1; rw [if_pos h] at h1; split at h1
  · assumption
  · split at h1 <;> (try split at h1) <;> omega
theorem need_two {p : Int} (h : okPt p = true) (h1 : need p = 2) : ¬ p < 128 ∧ p < 2048 := by
  unfold need at h1; rw [if_pos h] at h1; split at h1
  · omega
  · split at h1 <;> (try split at h1) <;> omega
theorem need_three {p : Int} (h : okPt p = true) (h1 : need p = 3) : ¬ p < 2048 ∧ p < 65536 := by
  unfold need at h1; rw [if_pos h] at h1; split at h1
  · omega
  · split at h1 <;> (try split at h1) <;> omega
theorem need_four {p : Int} (h : okPt p = true) (h1 : need p = 4) : ¬ p < 65536 := by
  unfold need at h1; rw [if_pos h] at h1; split at h1
  · omega
  · split at h1 <;> (try split at h1) <;> omega

/-- 'append([]byte{x}, tail...)', tail a row of one's own. -/
theorem cons_row {B : Nat} {w w1 : World} {v' : Value} {xs : List Int} {x : Int} (hB : B ≤ w.heap.size) (n : Nat)
    (hown' : w1.ownsRow B 5 1 v' n ([.int .u8 x] ++ xs.map (Value.int .u8))) (hn : n = xs.length + 1) (hgrow : (w.alloc (.cells #[.int .u8 x] 5)).grownBy w1 (Value.slice (some ⟨w.heap.size, 0, none⟩) 1 1).ownBlock) :
    OwB B w1 v' (x :: xs) ∧ Below B w w1 := by
  subst hn
  exact ⟨by simpa [Ow] using hown', ((Below.refl B w).alloc hB _).grown hgrow (by simp; omega) (fun k hk => by cases hk; exact hB)⟩

set_option maxHeartbeats 1000000 in
set_option maxRecDepth 100000 in
theorem l1encode_many (p : Int) (n : Nat) (f : Int) (w : World) (h0 : 0 ≤ p) (h1 : p ≤ 1114111) (hn : need p = n) (hn2 : 2 ≤ n) (hn4 : n ≤ 4) (hf : f = if n = 2 then 192 else if n = 3 then 224 else 240) (hx : 0 ≤ f + (st (n - 1) p).1 ∧ f + (st (n - 1) p).1 < 256) :
    Calls Tryz.prog 53 #[.int .i64 p] w fun e w' => ∃ v', e = .returned v' ∧ OwB w.heap.size w' v' ((f + (st (n - 1) p).1) :: (st (n - 1) p).2) ∧ Below w.heap.size w w' := by
  obtain ⟨i0, hi, hz0, hz1, hz2⟩ := info_parts info5
  have hne1 : ((n : Int) == 1) = false := by simp; omega
  have HN : Hid (need p = n) := hn
  clear hn
  go_enter Tryz.func53, Tryz.ntmps53
  go_wp2_with (go_at_call 52; refine (l1need_any _ _).mono ?_; rintro e w' ⟨rfl, rfl⟩; rw [HN.out])
  go_loopw [0, 4, 5] (fun x t i wr => ∃ k : Nat, k + 1 ≤ n ∧ i = .int .i64 ((k : Int) + 1) ∧ x = .int .i64 (st k p).1 ∧ OwB w.heap.size wr t (st k p).2 ∧ (k = 0 → t = .slice none 0 0) ∧ Below w.heap.size w wr)
    (fun _ _ i _ => n - (intOf i).toNat)
  case atStart => exact ⟨0, by omega, rfl, rfl, World.ownsRow_nil _ _ _ _, fun _ => rfl, Below.refl _ _⟩
  case round =>
    obtain ⟨k, hk, rfl, rfl, hown, hnil, hnx⟩ := hrel
    have hbd := st_bd k p h0 h1
    have hlen := st_len k p
    by_cases hlt : k + 1 < n
    · have HS : Hid (st (k + 1) p = ((st k p).1 / 64, (128 + (st k p).1 % 64) :: (st k p).2)) := rfl
      have hlit := World.ownsRow_lit (base := w.heap.size) (e := 5) (size := 1) wr #[.int .u8 (128 + (st k p).1 % 64)] 1 hnx.size (by unfold maxLen; omega) rfl
      generalize (st k p).1 = x at hbd HS hlit
      generalize (st k p).2 = ts at hlen hown HS
      obtain ⟨hb1, hb2⟩ := hbd
      have hm : (128 + x % 64) % 256 = 128 + x % 64 := by omega
      by_cases hk0 : k = 0
      · have hts : ts = [] := List.eq_nil_of_length_eq_zero (by omega)
        subst hts
        rw [hnil hk0]
        clear hnil hlen
        go_wp2_with (at_builtin; refine wpList_append_own_none rfl _ _ 22 rfl w.heap.size 5 i0 1 Tryz.underlying22 hi _ _ _ rfl hlit rfl ?_)
        go_roundw
        case rel => exact ⟨1, by omega, rfl, by subst hk0; rw [HS.out], by subst hk0; rw [HS.out]; exact hlit, fun h => by omega, hnx.alloc hnx.size _⟩
        case measure => simp [intOf]; omega
      · have hex : ∃ g cap, ∃ t', t' = Value.slice (some ⟨g, 0, none⟩) ts.length cap ∧ t' = u4 := by
          rcases hown.2 with ⟨_, h⟩ | ⟨g, cap, cur, h, _⟩
          · omega
          · exact ⟨g, cap, _, rfl, h.symm⟩
        obtain ⟨g, cap, t', ht', hu4⟩ := hex
        rw [← hu4] at hown
        rw [← hu4, ht']
        rw [ht'] at hown
        clear hu4 ht' hnil
        have hcs := World.ownsRow.cells (World.ownsRow.alloc hown (.cells #[.int .u8 (128 + x % 64)] 5)) (g := g) rfl
        go_wp2_with (at_builtin; refine wpList_append_own _ rfl _ _ 22 rfl w.heap.size 5 i0 (.int .u8 0) 1 1 Tryz.underlying22 hi hz0 hz1 hz2 rfl (by decide) _ _ _ rfl hlit ⟨g, 0, none⟩ ts.length cap (ts.map (Value.int .u8)) rfl (by simp) hcs (ints_oneCell _ _) (by unfold maxLen; omega) (by omega) (by have := hnx.size; simp; omega) ?_; intro v' w1 hown' hgrow _)
        have R := cons_row hnx.size _ hown' (by omega) hgrow
        clear hown' hgrow hown hcs hlit
        go_wp2
        go_roundw
        case rel => exact ⟨k + 1, by omega, by go_num, by rw [HS.out], by rw [HS.out]; exact R.1, fun h => by omega, hnx.trans R.2⟩
        case measure => simp [intOf]; omega
    · have hkn : k = n - 1 := by omega
      rw [← hkn] at hx
      generalize hgx : (st k p).1 = x at hbd hx
      generalize hgt : (st k p).2 = ts at hlen hown
      have HGX : Hid ((st (n - 1) p).1 = x) := by unfold Hid; rw [← hkn]; exact hgx
      have HGT : Hid ((st (n - 1) p).2 = ts) := by unfold Hid; rw [← hkn]; exact hgt
      have hex : ∃ g cap, ∃ t', t' = Value.slice (some ⟨g, 0, none⟩) ts.length cap ∧ t' = u4 := by
        rcases hown.2 with ⟨_, h⟩ | ⟨g, cap, cur, h, _⟩
        · omega
        · exact ⟨g, cap, _, rfl, h.symm⟩
      obtain ⟨g, cap, t', ht', hu4⟩ := hex
      rw [← hu4] at hown
      rw [← hu4, ht']
      rw [ht'] at hown
      have hcs := fun X => World.ownsRow.cells (World.ownsRow.alloc hown (.cells #[.int .u8 X] 5)) (g := g) rfl
      have hlit := fun X => World.ownsRow_lit (base := w.heap.size) (e := 5) (size := 1) wr #[.int .u8 X] 1 hnx.size (by unfold maxLen; omega) rfl
      clear hu4 ht' hnil hgx hgt hkn
      obtain ⟨hb1, hb2⟩ := hbd
      obtain ⟨hx1, hx2⟩ := hx
      by_cases h3 : n = 3
      · have hf2 : f = 224 := by rw [hf, if_neg (by omega), if_pos h3]
        have t3 : ((n : Int) == 3) = true := by simp; omega
        have t4 : ((n : Int) == 4) = false := by simp; omega
        subst hf2
        clear h3 hf
        have hm : (224 + x) % 256 = 224 + x := by omega
        go_wp2_with (at_builtin; refine wpList_append_own _ rfl _ _ 22 rfl w.heap.size 5 i0 (.int .u8 0) 1 1 Tryz.underlying22 hi hz0 hz1 hz2 rfl (by decide) _ _ _ rfl (hlit (224 + x)) ⟨g, 0, none⟩ ts.length cap (ts.map (Value.int .u8)) rfl (by simp) (hcs (224 + x)) (ints_oneCell _ _) (by unfold maxLen; omega) (by omega) (by have := hnx.size; simp; omega) ?_; intro v' w1 hown' hgrow _)
        have R := cons_row hnx.size _ hown' (by omega) hgrow
        clear hown' hgrow hown hcs hlit
        go_wp2
        go_ret
        exact ⟨_, rfl, by rw [HGX.out, HGT.out]; exact R.1, hnx.trans R.2⟩
      · by_cases h4 : n = 4
        · have hf2 : f = 240 := by rw [hf, if_neg (by omega), if_neg h3]
          have t3 : ((n : Int) == 3) = false := by simp; omega
          have t4 : ((n : Int) == 4) = true := by simp; omega
          subst hf2
          clear h3 hf h4
          have hm : (240 + x) % 256 = 240 + x := by omega
          go_wp2_with (at_builtin; refine wpList_append_own _ rfl _ _ 22 rfl w.heap.size 5 i0 (.int .u8 0) 1 1 Tryz.underlying22 hi hz0 hz1 hz2 rfl (by decide) _ _ _ rfl (hlit (240 + x)) ⟨g, 0, none⟩ ts.length cap (ts.map (Value.int .u8)) rfl (by simp) (hcs (240 + x)) (ints_oneCell _ _) (by unfold maxLen; omega) (by omega) (by have := hnx.size; simp; omega) ?_; intro v' w1 hown' hgrow _)
          have R := cons_row hnx.size _ hown' (by omega) hgrow
          clear hown' hgrow hown hcs hlit
          go_wp2
          go_ret
          exact ⟨_, rfl, by rw [HGX.out, HGT.out]; exact R.1, hnx.trans R.2⟩
        · have hf2 : f = 192 := by rw [hf, if_pos (by omega)]
          have t3 : ((n : Int) == 3) = false := by simp; omega
          have t4 : ((n : Int) == 4) = false := by simp; omega
          subst hf2
          clear h3 hf h4
          have hm : (192 + x) % 256 = 192 + x := by omega
          go_wp2_with (at_builtin; refine wpList_append_own _ rfl _ _ 22 rfl w.heap.size 5 i0 (.int .u8 0) 1 1 Tryz.underlying22 hi hz0 hz1 hz2 rfl (by decide) _ _ _ rfl (hlit (192 + x)) ⟨g, 0, none⟩ ts.length cap (ts.map (Value.int .u8)) rfl (by simp) (hcs (192 + x)) (ints_oneCell _ _) (by unfold maxLen; omega) (by omega) (by have := hnx.size; simp; omega) ?_; intro v' w1 hown' hgrow _)
          have R := cons_row hnx.size _ hown' (by omega) hgrow
          clear hown' hgrow hown hcs hlit
          go_wp2
          go_ret
          exact ⟨_, rfl, by rw [HGX.out, HGT.out]; exact R.1, hnx.trans R.2⟩

set_option maxHeartbeats 400000 in
set_option maxRecDepth 100000 in
theorem l1encode_one (p : Int) (w : World) (h0 : 0 ≤ p) (h1 : p < 128) (hn : need p = 1) :
    Calls Tryz.prog 53 #[.int .i64 p] w fun e w' => ∃ v', e = .returned v' ∧ OwB w.heap.size w' v' [p] ∧ Below w.heap.size w w' := by
  have HN : Hid (need p = 1) := hn
  clear hn
  have hm : p % 256 = p := by omega
  have hlit := World.ownsRow_lit (base := w.heap.size) (e := 5) (size := 1) w #[.int .u8 p] 1 (Nat.le_refl _) (by unfold maxLen; omega) rfl
  go_enter Tryz.func53, Tryz.ntmps53
  go_wp2_with (go_at_call 52; refine (l1need_any _ _).mono ?_; rintro e w' ⟨rfl, rfl⟩; rw [HN.out])
  go_ret
  exact ⟨_, rfl, hlit, (Below.refl _ _).alloc (Nat.le_refl _) _⟩

theorem l1encode_any (p : Int) (w : World) (h : okPt p = true) :
    Calls Tryz.prog 53 #[.int .i64 p] w fun e w' => ∃ v', e = .returned v' ∧ OwB w.heap.size w' v' (enc p) ∧ Below w.heap.size w w' := by
  obtain ⟨⟨h0, h1⟩, h2⟩ := ok_bd h
  have hg := need_ge p h
  by_cases e1 : need p = 1
  · have hp := need_one h e1
    rw [enc1 p hp]
    exact l1encode_one p w h0 hp e1
  · by_cases e2 : need p = 2
    · have hp := need_two h e2
      rw [← st2 p hp.1 hp.2]
      exact l1encode_many p 2 192 w h0 h1 e2 (by omega) (by omega) rfl (by simp only [st]; omega)
    · by_cases e3 : need p = 3
      · have hp := need_three h e3
        rw [← st3 p hp.1 hp.2]
        exact l1encode_many p 3 224 w h0 h1 e3 (by omega) (by omega) rfl (by simp only [st]; omega)
      · have e4 : need p = 4 := by omega
        have hp := need_four h e4
        rw [← st4 p hp]
        exact l1encode_many p 4 240 w h0 h1 e4 (by omega) (by omega) rfl (by simp only [st]; omega)

end Go.Proofs.YtakkdniikhgpdaaGreatDoor

