import Derived.Test.YtdcajkgmhimffabDoorDraw2
namespace Go.Proofs.YtdcajkgmhimffabDoor
open Go.RowKit

/-- m drawn points. -/
def dpsN (zs : List Int) (sur : Bool) : Nat → Nat → List Int × Nat
  | 0, i => ([], i)
  | m + 1, i => ((dpsN zs sur m i).1 ++ [(dp zs sur (dpsN zs sur m i).2).1], (dp zs sur (dpsN zs sur m i).2).2)
def dps (zs : List Int) (sur : Bool) (most : Int) (i : Nat) : List Int × Nat := dpsN zs sur ((nx zs i).1 % most).toNat (nx zs i).2
/-- A drawn unit. -/
def duOne (zs : List Int) (i : Nat) : Int × Nat :=
  if (nx zs i).1 % 5 = 0 then (55296 + (nx zs i).1 * 4, (nx zs i).2) else if (nx zs i).1 % 5 = 1 then (56320 + (nx zs i).1 * 4, (nx zs i).2)
  else ((dp zs true (nx zs i).2).1 % 65536, (dp zs true (nx zs i).2).2)
def dusN (zs : List Int) : Nat → Nat → List Int × Nat
  | 0, i => ([], i)
  | m + 1, i => ((dusN zs m i).1 ++ [(duOne zs (dusN zs m i).2).1], (duOne zs (dusN zs m i).2).2)
def dus (zs : List Int) (most : Int) (i : Nat) : List Int × Nat := dusN zs ((nx zs i).1 % most).toNat (nx zs i).2

theorem dp_le {zs : List Int} {sur : Bool} {i : Nat} (h : i ≤ zs.length) : (dp zs sur i).2 ≤ zs.length := nx_le h
theorem dpsN_le {zs : List Int} {sur : Bool} {i : Nat} (h : i ≤ zs.length) (m : Nat) : (dpsN zs sur m i).2 ≤ zs.length ∧ (dpsN zs sur m i).1.length = m := by
  induction m with
  | zero => exact ⟨h, rfl⟩
  | succ m ih => exact ⟨dp_le (sur := sur) ih.1, by simp [dpsN, ih.2]⟩
theorem duOne_le {zs : List Int} {i : Nat} (h : i ≤ zs.length) : (duOne zs i).2 ≤ zs.length := by
  unfold duOne; split
  · exact nx_le h
  · split
    · exact nx_le h
    · exact dp_le (sur := true) (nx_le h)
theorem dusN_le {zs : List Int} {i : Nat} (h : i ≤ zs.length) (m : Nat) : (dusN zs m i).2 ≤ zs.length ∧ (dusN zs m i).1.length = m := by
  induction m with
  | zero => exact ⟨h, rfl⟩
  | succ m ih => exact ⟨duOne_le ih.1, by simp [dusN, ih.2]⟩

/-- A row of one's own and a reader, over an append. -/
theorem own_app2 {q : IntKind} {t : TypeId} {B : Nat} {w w1 : World} {v v' : Value} {ys xs : List Int} {o : Obj} (n : Nat)
    (hv : Ow q t B w v ys) (hown' : w1.ownsRow B t 1 v' n (ys.map (Value.int q) ++ xs.map (Value.int q))) (hn : n = (ys ++ xs).length) (hgrow : (w.alloc o).grownBy w1 v.ownBlock) :
    Ow q t B w1 v' (ys ++ xs) ∧ (∀ k, k < w.heap.size → k < B → w1.heap[k]? = w.heap[k]?) ∧ w.heap.size ≤ w1.heap.size ∧ w1.os = w.os ∧ w1.tape = w.tape ∧ w1.output = w.output := by
  subst hn
  refine ⟨by unfold Ow; simpa using hown', fun k hk hB => ?_, ?_, hgrow.os, hgrow.tape, hgrow.output⟩
  · rw [hgrow.block k (by simp; omega) (fun e => by have := (World.ownsRow.lt hv k e.symm).1; omega), Below.heap_alloc w o k hk]
  · have := hgrow.size; simp at this; omega

set_option maxHeartbeats 1000000 in
set_option maxRecDepth 100000 in
theorem drawPoints_any (F : Nat) (v : Value) (zs : List Int) (i : Nat) (sur : Bool) (w : World) (hF : Rdr F w v i) (hv : RdB F w v zs) (hby : Bys zs) (hm : zs.length ≤ 4194304) (hi : i ≤ zs.length) :
    Calls Tryd.prog 25 #[.pointer (some ⟨F, 0, none⟩), .int .i64 12, .bool sur] w fun e w' => ∃ v', e = .returned v' ∧ OwI w.heap.size w' v' (dps zs sur 12 i).1 ∧ Rdr F w' v ((dps zs sur 12 i).2 : Int) ∧ w.grownBy w' (some F) := by
  obtain ⟨i0, hi0, hz0, hz1, hz2⟩ := info_parts info3
  have hkb := nx_bd hby i
  have hj := nx_le hi
  have hnx := next_any F v zs i w hF hv hby hm hi
  have HP : Hid (dps zs sur 12 i = dpsN zs sur ((nx zs i).1 % 12).toNat (nx zs i).2) := rfl
  generalize (nx zs i).1 = k at hkb hnx HP
  generalize (nx zs i).2 = j at hnx HP hj
  obtain ⟨hk0, hk1⟩ := hkb
  have hFlt := hF.lt
  obtain ⟨n, hn⟩ : ∃ n : Nat, k % 12 = (n : Int) := ⟨(k % 12).toNat, by omega⟩
  rw [hn] at HP
  have hnb : n < 12 := by omega
  have HN : Hid (k % 12 = (n : Int)) := hn
  have HV : Hid (RdB F w v zs) := hv
  clear hF hv hn
  go_enter Tryd.func25, Tryd.ntmps25
  go_wp2_with (go_at_call 18; refine hnx.mono ?_; rintro e w1 ⟨rfl, f1, g1⟩)
  rw [HN.out]
  go_loopw [8, 9] (fun o t wr => ∃ m : Nat, m ≤ n ∧ t = .int .i64 m ∧ OwI w.heap.size wr o (dpsN zs sur m j).1 ∧ Rdr F wr v ((dpsN zs sur m j).2 : Int) ∧ w.grownBy wr (some F))
    (fun _ t _ => n - (intOf t).toNat)
  case atStart => exact ⟨0, Nat.zero_le _, rfl, World.ownsRow_nil _ _ _ _, f1, g1⟩
  case round =>
    obtain ⟨m, hmn, rfl, hown, hf, hg⟩ := hrel
    have hle := dpsN_le (sur := sur) hj m
    by_cases hlt : m < n
    · have HS : Hid (dpsN zs sur (m + 1) j = ((dpsN zs sur m j).1 ++ [(dp zs sur (dpsN zs sur m j).2).1], (dp zs sur (dpsN zs sur m j).2).2)) := rfl
      have hrd : RdB F wr v zs := HV.out.beside hg (fun _ e => by cases e; exact Nat.le_refl _)
      have hdp := drawPoint_any F v zs (dpsN zs sur m j).2 sur wr hf hrd hby hm hle.1
      have hll : (dpsN zs sur m j).1.length ≤ 12 := by omega
      generalize (dp zs sur (dpsN zs sur m j).2) = x at hdp HS
      generalize (dpsN zs sur m j).1 = ys at hown HS hll
      clear hrd hle hf
      go_wp2_with fail
      refine hdp.mono ?_
      rintro e w2 ⟨rfl, f2, g2⟩
      have hown2 : OwI w.heap.size w2 u8 ys := World.ownsRow.kept hown g2 (by
        cases hb : u8.ownBlock with
        | none => exact .inl rfl
        | some c => exact .inr fun e => by cases e; have := (World.ownsRow.lt hown F hb).1; omega)
      have hg2 := grown_trans hg g2
      have hsz2 := hg2.size
      clear hown hg g2 hdp
      go_wp2_with (at_builtin; refine wpList_append_own _ rfl _ _ 23 rfl w.heap.size 3 i0 (.int .i64 0) 1 8 Tryd.underlying23 hi0 hz0 hz1 hz2 rfl (by decide) _ _ _ rfl (World.ownsRow.alloc hown2 _) ⟨w2.heap.size, 0, none⟩ 1 1 [.int .i64 x.1] rfl rfl (cell_one_new _ _ _) (by intro u hu; simp at hu; subst hu; rfl) (by unfold maxLen; omega) (by omega) (by simp; omega) ?_; intro v' w3 hown' hgrow _)
      have R := own_app2 (xs := [x.1]) _ hown2 hown' (by simp) hgrow
      have f3 : Rdr F w3 v (x.2 : Int) := (R.2.1 F f2.lt (by omega)).trans f2
      have hg3 : w.grownBy w3 (some F) := ⟨R.2.2.2.1.trans hg2.os, R.2.2.2.2.1.trans hg2.tape, R.2.2.2.2.2.trans hg2.output, Nat.le_trans hsz2 R.2.2.1, fun c hc hne => (R.2.1 c (by omega) hc).trans (hg2.block c hc hne)⟩
      have R1 := R.1
      clear hown' hgrow hown2 R hg2 f2
      go_wp2
      go_roundw
      case rel => exact ⟨m + 1, by omega, by go_num, by rw [HS.out]; exact R1, by rw [HS.out]; exact f3, hg3⟩
      case measure => simp [intOf]; omega
    · have hmn' : m = n := by omega
      have HE : Hid (dps zs sur 12 i = dpsN zs sur m j) := by unfold Hid; rw [HP.out, hmn']; rfl
      clear hmn'
      go_wp2
      go_ret
      exact ⟨_, rfl, by rw [HE.out]; exact hown, by rw [HE.out]; exact hf, hg⟩

set_option maxHeartbeats 2000000 in
set_option maxRecDepth 100000 in
theorem drawUnits_any (F : Nat) (v : Value) (zs : List Int) (i : Nat) (w : World) (hF : Rdr F w v i) (hv : RdB F w v zs) (hby : Bys zs) (hm : zs.length ≤ 4194304) (hi : i ≤ zs.length) :
    Calls Tryd.prog 19 #[.pointer (some ⟨F, 0, none⟩), .int .i64 12] w fun e w' => ∃ v', e = .returned v' ∧ OwI w.heap.size w' v' (dus zs 12 i).1 ∧ Rdr F w' v ((dus zs 12 i).2 : Int) ∧ w.grownBy w' (some F) := by
  obtain ⟨i0, hi0, hz0, hz1, hz2⟩ := info_parts info3
  have hkb := nx_bd hby i
  have hj := nx_le hi
  have hnx := next_any F v zs i w hF hv hby hm hi
  have HP : Hid (dus zs 12 i = dusN zs ((nx zs i).1 % 12).toNat (nx zs i).2) := rfl
  generalize (nx zs i).1 = k at hkb hnx HP
  generalize (nx zs i).2 = j at hnx HP hj
  obtain ⟨hk0, hk1⟩ := hkb
  have hFlt := hF.lt
  obtain ⟨n, hn⟩ : ∃ n : Nat, k % 12 = (n : Int) := ⟨(k % 12).toNat, by omega⟩
  rw [hn] at HP
  have hnb : n < 12 := by omega
  have HN : Hid (k % 12 = (n : Int)) := hn
  have HV : Hid (RdB F w v zs) := hv
  clear hF hv hn
  go_enter Tryd.func19, Tryd.ntmps19
  go_wp2_with (go_at_call 18; refine hnx.mono ?_; rintro e w1 ⟨rfl, f1, g1⟩)
  rw [HN.out]
  go_loopw [6, 7] (fun o t wr => ∃ m : Nat, m ≤ n ∧ t = .int .i64 m ∧ OwI w.heap.size wr o (dusN zs m j).1 ∧ Rdr F wr v ((dusN zs m j).2 : Int) ∧ w.grownBy wr (some F))
    (fun _ t _ => n - (intOf t).toNat)
  case atStart => exact ⟨0, Nat.zero_le _, rfl, World.ownsRow_nil _ _ _ _, f1, g1⟩
  case round =>
    obtain ⟨m, hmn, rfl, hown, hf, hg⟩ := hrel
    have hle := dusN_le hj m
    clear f1 g1
    by_cases hlt : m < n
    · have HS : Hid (dusN zs (m + 1) j = ((dusN zs m j).1 ++ [(duOne zs (dusN zs m j).2).1], (duOne zs (dusN zs m j).2).2)) := rfl
      have hrd : RdB F wr v zs := HV.out.beside hg (fun _ e => by cases e; exact Nat.le_refl _)
      have hnx2 := next_any F v zs (dusN zs m j).2 wr hf hrd hby hm hle.1
      have hb2 := nx_bd hby (dusN zs m j).2
      have hl2 := nx_le hle.1
      have HO : Hid (duOne zs (dusN zs m j).2 = if (nx zs (dusN zs m j).2).1 % 5 = 0 then (55296 + (nx zs (dusN zs m j).2).1 * 4, (nx zs (dusN zs m j).2).2) else if (nx zs (dusN zs m j).2).1 % 5 = 1 then (56320 + (nx zs (dusN zs m j).2).1 * 4, (nx zs (dusN zs m j).2).2)
        else ((dp zs true (nx zs (dusN zs m j).2).2).1 % 65536, (dp zs true (nx zs (dusN zs m j).2).2).2)) := rfl
      have hll : (dusN zs m j).1.length ≤ 12 := by omega
      generalize (duOne zs (dusN zs m j).2) = x at HS HO
      generalize (nx zs (dusN zs m j).2).1 = c at hnx2 hb2 HO
      generalize (nx zs (dusN zs m j).2).2 = j2 at hnx2 hl2 HO
      generalize (dusN zs m j).1 = ys at hown HS hll
      obtain ⟨hc0, hc1⟩ := hb2
      have hne : u6.ownBlock = none ∨ u6.ownBlock ≠ some F := by
        cases hb : u6.ownBlock with
        | none => exact .inl rfl
        | some c => exact .inr fun e => by cases e; have := (World.ownsRow.lt hown F hb).1; omega
      clear hrd hle hf
      by_cases c0 : c % 5 = 0
      · have HX : Hid (x = (55296 + c * 4, j2)) := by unfold Hid; rw [HO.out, if_pos c0]
        have t0 : (c % 5 == 0) = true := by simp [c0]
        clear c0 HO
        go_wp2_with fail
        refine hnx2.mono ?_
        rintro e w2 ⟨rfl, f2, g2⟩
        have hown2 : OwI w.heap.size w2 u6 ys := World.ownsRow.kept hown g2 hne
        have hg2 := grown_trans hg g2
        have hsz2 := hg2.size
        clear hown hg g2 hnx2
        go_wp2_with (at_builtin; refine wpList_append_own _ rfl _ _ 23 rfl w.heap.size 3 i0 (.int .i64 0) 1 8 Tryd.underlying23 hi0 hz0 hz1 hz2 rfl (by decide) _ _ _ rfl (World.ownsRow.alloc hown2 _) ⟨w2.heap.size, 0, none⟩ 1 1 [.int .i64 (55296 + c * 4)] rfl rfl (cell_one_new _ _ _) (by intro u hu; simp at hu; subst hu; rfl) (by unfold maxLen; omega) (by omega) (by simp; omega) ?_; intro v' w3 hown' hgrow _)
        have R := own_app2 (xs := [55296 + c * 4]) _ hown2 hown' (by simp) hgrow
        have f3 : Rdr F w3 v (j2 : Int) := (R.2.1 F f2.lt (by omega)).trans f2
        have hg3 : w.grownBy w3 (some F) := ⟨R.2.2.2.1.trans hg2.os, R.2.2.2.2.1.trans hg2.tape, R.2.2.2.2.2.trans hg2.output, Nat.le_trans hsz2 R.2.2.1, fun c hc hne => (R.2.1 c (by omega) hc).trans (hg2.block c hc hne)⟩
        have R1 := R.1
        clear hown' hgrow hown2 R hg2 f2
        go_wp2
        go_roundw
        case rel => exact ⟨m + 1, by omega, by go_num, by rw [HS.out, HX.out]; exact R1, by rw [HS.out, HX.out]; exact f3, hg3⟩
        case measure => simp [intOf]; omega
      · by_cases c1 : c % 5 = 1
        · have HX : Hid (x = (56320 + c * 4, j2)) := by unfold Hid; rw [HO.out, if_neg c0, if_pos c1]
          have t0 : (c % 5 == 0) = false := by simp [c0]
          have t1 : (c % 5 == 1) = true := by simp [c1]
          clear c0 c1 HO
          go_wp2_with fail
          refine hnx2.mono ?_
          rintro e w2 ⟨rfl, f2, g2⟩
          have hown2 : OwI w.heap.size w2 u6 ys := World.ownsRow.kept hown g2 hne
          have hg2 := grown_trans hg g2
          have hsz2 := hg2.size
          clear hown hg g2 hnx2
          go_wp2_with (at_builtin; refine wpList_append_own _ rfl _ _ 23 rfl w.heap.size 3 i0 (.int .i64 0) 1 8 Tryd.underlying23 hi0 hz0 hz1 hz2 rfl (by decide) _ _ _ rfl (World.ownsRow.alloc hown2 _) ⟨w2.heap.size, 0, none⟩ 1 1 [.int .i64 (56320 + c * 4)] rfl rfl (cell_one_new _ _ _) (by intro u hu; simp at hu; subst hu; rfl) (by unfold maxLen; omega) (by omega) (by simp; omega) ?_; intro v' w3 hown' hgrow _)
          have R := own_app2 (xs := [56320 + c * 4]) _ hown2 hown' (by simp) hgrow
          have f3 : Rdr F w3 v (j2 : Int) := (R.2.1 F f2.lt (by omega)).trans f2
          have hg3 : w.grownBy w3 (some F) := ⟨R.2.2.2.1.trans hg2.os, R.2.2.2.2.1.trans hg2.tape, R.2.2.2.2.2.trans hg2.output, Nat.le_trans hsz2 R.2.2.1, fun c hc hne => (R.2.1 c (by omega) hc).trans (hg2.block c hc hne)⟩
          have R1 := R.1
          clear hown' hgrow hown2 R hg2 f2
          go_wp2
          go_roundw
          case rel => exact ⟨m + 1, by omega, by go_num, by rw [HS.out, HX.out]; exact R1, by rw [HS.out, HX.out]; exact f3, hg3⟩
          case measure => simp [intOf]; omega
        · have HX : Hid (x = ((dp zs true j2).1 % 65536, (dp zs true j2).2)) := by unfold Hid; rw [HO.out, if_neg c0, if_neg c1]
          have t0 : (c % 5 == 0) = false := by simp [c0]
          have t1 : (c % 5 == 1) = false := by simp [c1]
          have hpb : 0 ≤ (dp zs true j2).1 ∧ (dp zs true j2).1 ≤ 1114111 := dp_bd true _ (nx_bd hby j2).1
          have hdp := fun W hF hv => drawPoint_any F v zs j2 true W hF hv hby hm hl2
          generalize (dp zs true j2) = y at HX hpb hdp
          obtain ⟨hp0, hp1⟩ := hpb
          clear c0 c1 HO
          go_wp2_with fail
          refine hnx2.mono ?_
          rintro e w2 ⟨rfl, f2, g2⟩
          have hown2 : OwI w.heap.size w2 u6 ys := World.ownsRow.kept hown g2 hne
          have hg2 := grown_trans hg g2
          have hd2 := hdp w2 f2 (HV.out.beside hg2 (fun _ e => by cases e; exact Nat.le_refl _))
          clear hown hg g2 hnx2 hdp f2
          go_wp2_with fail
          refine hd2.mono ?_
          rintro e w4 ⟨rfl, f4, g4⟩
          have hown4 : OwI w.heap.size w4 u6 ys := World.ownsRow.kept hown2 g4 hne
          have hg4 := grown_trans hg2 g4
          have hsz4 := hg4.size
          clear hown2 hg2 g4 hd2
          go_wp2_with (at_builtin; refine wpList_append_own _ rfl _ _ 23 rfl w.heap.size 3 i0 (.int .i64 0) 1 8 Tryd.underlying23 hi0 hz0 hz1 hz2 rfl (by decide) _ _ _ rfl (World.ownsRow.alloc hown4 _) ⟨w4.heap.size, 0, none⟩ 1 1 [.int .i64 (y.1 % 65536)] rfl rfl (cell_one_new _ _ _) (by intro u hu; simp at hu; subst hu; rfl) (by unfold maxLen; omega) (by omega) (by simp; omega) ?_; intro v' w3 hown' hgrow _)
          have R := own_app2 (xs := [y.1 % 65536]) _ hown4 hown' (by simp) hgrow
          have f3 : Rdr F w3 v (y.2 : Int) := (R.2.1 F f4.lt (by omega)).trans f4
          have hg3 : w.grownBy w3 (some F) := ⟨R.2.2.2.1.trans hg4.os, R.2.2.2.2.1.trans hg4.tape, R.2.2.2.2.2.trans hg4.output, Nat.le_trans hsz4 R.2.2.1, fun c hc hne => (R.2.1 c (by omega) hc).trans (hg4.block c hc hne)⟩
          have R1 := R.1
          clear hown' hgrow hown4 R hg4 f4
          go_wp2
          go_roundw
          case rel => exact ⟨m + 1, by omega, by go_num, by rw [HS.out, HX.out]; exact R1, by rw [HS.out, HX.out]; exact f3, hg3⟩
          case measure => simp [intOf]; omega
    · have hmn' : m = n := by omega
      have HE : Hid (dus zs 12 i = dusN zs m j) := by unfold Hid; rw [HP.out, hmn']; rfl
      clear hmn'
      go_wp2
      go_ret
      exact ⟨_, rfl, by rw [HE.out]; exact hown, by rw [HE.out]; exact hf, hg⟩

end Go.Proofs.YtdcajkgmhimffabDoor
