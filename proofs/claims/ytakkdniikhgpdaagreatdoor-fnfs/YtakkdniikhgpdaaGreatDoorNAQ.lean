import Derived.Test.YtakkdniikhgpdaaGreatDoorMAC
import Derived.Test.YtakkdniikhgpdaaGreatDoorNAJ
namespace Go.Proofs.YtakkdniikhgpdaaGreatDoor
open Go.RowKit

/-- m drawn points. -/
def dpsN (zs : List Int) (sur : Bool) : Nat → Nat → List Int × Nat
  | 0, i => ([], i)
  | m + 1, i => ((dpsN zs sur m i).1 ++ [(dp zs sur (dpsN zs sur m i).2).1], (dp zs sur (dpsN zs sur m i).2).2)
def dps (zs : List Int) (sur : Bool) (most : Int) (i : Nat) : List Int × Nat := dpsN zs sur ((nx zs i).1 % most).toNat (nx zs i).2
/-- A drawn unit. -/
def duOne3 (zs : List Int) (i : Nat) : Int × Nat :=
  if (nx zs i).1 % 5 = 0 then (55296 + (nx zs i).1 * 4, (nx zs i).2) else if (nx zs i).1 % 5 = 1 then (56320 + (nx zs i).1 * 4, (nx zs i).2)
  else ((dp zs true (nx zs i).2).1 % 65536, (dp zs true (nx zs i).2).2)
def dusN3 (zs : List Int) : Nat → Nat → List Int × Nat
  | 0, i => ([], i)
  | m + 1, i => ((dusN3 zs m i).1 ++ [(duOne3 zs (dusN3 zs m i).2).1], (duOne3 zs (dusN3 zs m i).2).2)
def dus3 (zs : List Int) (most : Int) (i : Nat) : List Int × Nat := dusN3 zs ((nx zs i).1 % most).toNat (nx zs i).2

theorem dp_le {zs : List Int} {sur : Bool} {i : Nat} (h : i ≤ zs.length) : (dp zs sur i).2 ≤ zs.length := nx_le h
theorem dpsN_le {zs : List Int} {sur : Bool} {i : Nat} (h : i ≤ zs.length) (m : Nat) : (dpsN zs sur m i).2 ≤ zs.length ∧ (dpsN zs sur m i).1.length = m := by
  induction m with
  | zero => exact ⟨h, rfl⟩
  | succ m ih => exact ⟨dp_le (sur := sur) ih.1, by simp [dpsN, ih.2]⟩
theorem duOne_le3 {zs : List Int} {i : Nat} (h : i ≤ zs.length) : (duOne3 zs i).2 ≤ zs.length := by
  unfold duOne3; split
  · exact nx_le h
  · split
    · exact nx_le h
    · exact dp_le (sur := true) (nx_le h)
theorem dusN_le3 {zs : List Int} {i : Nat} (h : i ≤ zs.length) (m : Nat) : (dusN3 zs m i).2 ≤ zs.length ∧ (dusN3 zs m i).1.length = m := by
  induction m with
  | zero => exact ⟨h, rfl⟩
  | succ m ih => exact ⟨duOne_le3 ih.1, by simp [dusN3, ih.2]⟩

/-- A row of one's own and a reader, over an append. -/
theorem own_app2 {q : IntKind} {t : TypeId} {B : Nat} {w w1 : World} {v v' : Value} {ys xs : List Int} {o : Obj} (n : Nat)
    (hv : Ow q t B w v ys) (hown' : w1.ownsRow B t 1 v' n (ys.map (Value.int q) ++ xs.map (Value.int q))) (hn : n = (ys ++ xs).length) (hgrow : (w.alloc o).grownBy w1 v.ownBlock) :
    Ow q t B w1 v' (ys ++ xs) ∧ (∀ k, k < w.heap.size → k < B → w1.heap[k]? = w.heap[k]?) ∧ w.heap.size ≤ w1.heap.size ∧ w1.os = w.os ∧ w1.tape = w.tape ∧ w1.output = w.output := by
  subst hn
  refine ⟨by unfold Ow; simpa using hown', fun k hk hB => ?_, ?_, hgrow.os, hgrow.tape, hgrow.output⟩
  · rw [hgrow.block k (by simp; omega) (fun e => by have := (World.ownsRow.lt hv k e.symm).1; omega), Below.heap_alloc w o k hk]
  · have := hgrow.size; simp at this; omega

set_option maxHeartbeats 1000000 in
set_option maxRecDepth 100000 in
theorem drawPoints_any (F : Nat) (v : Value) (zs : List Int) (i : Nat) (sur : Bool) (w : World) (hF : Rdr F w v i) (hv : RdB F w v zs) (hby : Bys zs) (hm : zs.length ≤ 4194304) (hi : i ≤ zs.length) :
    Calls Tryz.prog 40 #[.pointer (some ⟨F, 0, none⟩), .int .i64 12, .bool sur] w fun e w' => ∃ v', e = .returned v' ∧ OwI w.heap.size w' v' (dps zs sur 12 i).1 ∧ Rdr F w' v ((dps zs sur 12 i).2 : Int) ∧ w.grownBy w' (some F) := by
  obtain ⟨i0, hi0, hz0, hz1, hz2⟩ := info_parts info3
  have hkb := nx_bd hby i
  have hj := nx_le hi
  have hnx := next_any F v zs i w hF hv hby hm hi
  have HP : Hid (dps zs sur 12 i = dpsN zs sur ((nx zs i).1 % 12).toNat (nx zs i).2) := rfl
  generalize (nx zs i).1 = k at hkb hnx HP
  generalize (nx zs i).2 = j at hnx HP hj
  obtain ⟨hk0, hk1⟩ := hkb
  have hFlt := hF.lt
  obtain ⟨n, hn⟩ : ∃ n : Nat, k % 12 = (n : Int) := ⟨(k % 12).toNat, by omega⟩
  rw [hn] at HP
  have hnb : n < 12 := by omega
  have HN : Hid (k % 12 = (n : Int)) := hn
  have HV : Hid (RdB F w v zs) := hv
  clear hF hv hn
  go_enter Tryz.func40, Tryz.ntmps40
  go_wp2_with (go_at_call 36; refine hnx.mono ?_; rintro e w1 ⟨rfl, f1, g1⟩)
  rw [HN.out]
  go_loopw [8, 9] (fun o t wr => ∃ m : Nat, m ≤ n ∧ t = .int .i64 m ∧ OwI w.heap.size wr o (dpsN zs sur m j).1 ∧ Rdr F wr v ((dpsN zs sur m j).2 : Int) ∧ w.grownBy wr (some F))
    (fun _ t _ => n - (intOf t).toNat)
  case atStart => exact ⟨0, Nat.zero_le _, rfl, World.ownsRow_nil _ _ _ _, f1, g1⟩
  case round =>
    obtain ⟨m, hmn, rfl, hown, hf, hg⟩ := hrel
    have hle := dpsN_le (sur := sur) hj m
    by_cases hlt : m < n
    · have HS : Hid (dpsN zs sur (m + 1) j = ((dpsN zs sur m j).1 ++ [(dp zs sur (dpsN zs sur m j).2).1], (dp zs sur (dpsN zs sur m j).2).2)) := rfl
      have hrd : RdB F wr v zs := HV.out.beside hg (fun _ e => by cases e; exact Nat.le_refl _)
      have hdp := drawPoint_any F v zs (dpsN zs sur m j).2 sur wr hf hrd hby hm hle.1
      have hll : (dpsN zs sur m j).1.length ≤ 12 := by omega
      generalize (dp zs sur (dpsN zs sur m j).2) = x at hdp HS
      generalize (dpsN zs sur m j).1 = ys at hown HS hll
      clear hrd hle hf
      go_wp2_with fail
      refine hdp.mono ?_
      rintro e w2 ⟨rfl, f2, g2⟩
      have hown2 : OwI w.heap.size w2 u8 ys := World.ownsRow.kept hown g2 (by
        cases hb : u8.ownBlock with
        | none => exact .inl rfl
        | some c => exact .inr fun e => by cases e; have := (World.ownsRow.lt hown F hb).1; omega)
      have hg2 := grown_trans hg g2
      have hsz2 := hg2.size
      clear hown hg g2 hdp
      go_wp2_with (at_builtin; refine wpList_append_own _ rfl _ _ 71 rfl w.heap.size 3 i0 (.int .i64 0) 1 8 Tryz.underlying71 hi0 hz0 hz1 hz2 rfl (by decide) _ _ _ rfl (World.ownsRow.alloc hown2 _) ⟨w2.heap.size, 0, none⟩ 1 1 [.int .i64 x.1] rfl rfl (cell_one_new _ _ _) (by intro u hu; simp at hu; subst hu; rfl) (by unfold maxLen; omega) (by omega) (by simp; omega) ?_; intro v' w3 hown' hgrow _)
      have R := own_app2 (xs := [x.1]) _ hown2 hown' (by simp) hgrow
      have f3 : Rdr F w3 v (x.2 : Int) := (R.2.1 F f2.lt (by omega)).trans f2
      have hg3 : w.grownBy w3 (some F) := ⟨R.2.2.2.1.trans hg2.os, R.2.2.2.2.1.trans hg2.tape, R.2.2.2.2.2.trans hg2.output, Nat.le_trans hsz2 R.2.2.1, fun c hc hne => (R.2.1 c (by omega) hc).trans (hg2.block c hc hne)⟩
      have R1 := R.1
      clear hown' hgrow hown2 R hg2 f2
      go_wp2
      go_roundw
      case rel => exact ⟨m + 1, by omega, by go_num, by rw [HS.out]; exact R1, by rw [HS.out]; exact f3, hg3⟩
      case measure => simp [intOf]; omega
    · have hmn' : m = n := by omega
      have HE : Hid (dps zs sur 12 i = dpsN zs sur m j) := by unfold Hid; rw [HP.out, hmn']; rfl
      clear hmn'
      go_wp2
      go_ret
      exact ⟨_, rfl, by rw [HE.out]; exact hown, by rw [HE.out]; exact hf, hg⟩

set_option maxHeartbeats 2000000 in
set_option maxRecDepth 100000 in
theorem drawUnits_any (F : Nat) (v : Value) (zs : List Int) (i : Nat) (w : World) (hF : Rdr F w v i) (hv : RdB F w v zs) (hby : Bys zs) (hm : zs.length ≤ 4194304) (hi : i ≤ zs.length) :
    Calls Tryz.prog 73 #[.pointer (some ⟨F, 0, none⟩), .int .i64 12] w fun e w' => ∃ v', e = .returned v' ∧ OwI w.heap.size w' v' (dus3 zs 12 i).1 ∧ Rdr F w' v ((dus3 zs 12 i).2 : Int) ∧ w.grownBy w' (some F) := by
  obtain ⟨i0, hi0, hz0, hz1, hz2⟩ := info_parts info3
  have hkb := nx_bd hby i
  have hj := nx_le hi
  have hnx := next_any F v zs i w hF hv hby hm hi
  have HP : Hid (dus3 zs 12 i = dusN3 zs ((nx zs i).1 % 12).toNat (nx zs i).2) := rfl
  generalize (nx zs i).1 = k at hkb hnx HP
  generalize (nx zs i).2 = j at hnx HP hj
  obtain ⟨hk0, hk1⟩ := hkb
  have hFlt := hF.lt
  obtain ⟨n, hn⟩ : ∃ n : Nat, k % 12 = (n : Int) := ⟨(k % 12).toNat, by omega⟩
  rw [hn] at HP
  have hnb : n < 12 := by omega
  have HN : Hid (k % 12 = (n : Int)) := hn
  have HV : Hid (RdB F w v zs) := hv
  clear hF hv hn
  go_enter Tryz.func73, Tryz.ntmps73
  go_wp2_with (go_at_call 36; refine hnx.mono ?_; rintro e w1 ⟨rfl, f1, g1⟩)
  rw [HN.out]
  go_loopw [6, 7] (fun o t wr => ∃ m : Nat, m ≤ n ∧ t = .int .i64 m ∧ OwI w.heap.size wr o (dusN3 zs m j).1 ∧ Rdr F wr v ((dusN3 zs m j).2 : Int) ∧ w.grownBy wr (some F))
    (fun _ t _ => n - (intOf t).toNat)
  case atStart => exact ⟨0, Nat.zero_le _, rfl, World.ownsRow_nil _ _ _ _, f1, g1⟩
  case round =>
    obtain ⟨m, hmn, rfl, hown, hf, hg⟩ := hrel
    have hle := dusN_le3 hj m
    clear f1 g1
    by_cases hlt : m < n
    · have HS : Hid (dusN3 zs (m + 1) j = ((dusN3 zs m j).1 ++ [(duOne3 zs (dusN3 zs m j).2).1], (duOne3 zs (dusN3 zs m j).2).2)) := rfl
      have hrd : RdB F wr v zs := HV.out.beside hg (fun _ e => by cases e; exact Nat.le_refl _)
      have hnx2 := next_any F v zs (dusN3 zs m j).2 wr hf hrd hby hm hle.1
      have hb2 := nx_bd hby (dusN3 zs m j).2
      have hl2 := nx_le hle.1
      have HO : Hid (duOne3 zs (dusN3 zs m j).2 = if (nx zs (dusN3 zs m j).2).1 % 5 = 0 then (55296 + (nx zs (dusN3 zs m j).2).1 * 4, (nx zs (dusN3 zs m j).2).2) else if (nx zs (dusN3 zs m j).2).1 % 5 = 1 then (56320 + (nx zs (dusN3 zs m j).2).1 * 4, (nx zs (dusN3 zs m j).2).2)
        else ((dp zs true (nx zs (dusN3 zs m j).2).2).1 % 65536, (dp zs true (nx zs (dusN3 zs m j).2).2).2)) := rfl
      have hll : (dusN3 zs m j).1.length ≤ 12 := by omega
      generalize (duOne3 zs (dusN3 zs m j).2) = x at HS HO
      generalize (nx zs (dusN3 zs m j).2).1 = c at hnx2 hb2 HO
      generalize (nx zs (dusN3 zs m j).2).2 = j2 at hnx2 hl2 HO
      generalize (dusN3 zs m j).1 = ys at hown HS hll
      obtain ⟨hc0, hc1⟩ := hb2
      have hne : u6.ownBlock = none ∨ u6.ownBlock ≠ some F := by
        cases hb : u6.ownBlock with
        | none => exact .inl rfl
        | some c => exact .inr fun e => by cases e; have := (World.ownsRow.lt hown F hb).1; omega
      clear hrd hle hf
      by_cases c0 : c % 5 = 0
      · have HX : Hid (x = (55296 + c * 4, j2)) := by unfold Hid; rw [HO.out, if_pos c0]
        have t0 : (c % 5 == 0) = true := by simp [c0]
        clear c0 HO
        go_wp2_with fail
        refine hnx2.mono ?_
        rintro e w2 ⟨rfl, f2, g2⟩
        have hown2 : OwI w.heap.size w2 u6 ys := World.ownsRow.kept hown g2 hne
        have hg2 := grown_trans hg g2
        have hsz2 := hg2.size
        clear hown hg g2 hnx2
        go_wp2_with (at_builtin; refine wpList_append_own _ rfl _ _ 71 rfl w.heap.size 3 i0 (.int .i64 0) 1 8 Tryz.underlying71 hi0 hz0 hz1 hz2 rfl (by decide) _ _ _ rfl (World.ownsRow.alloc hown2 _) ⟨w2.heap.size, 0, none⟩ 1 1 [.int .i64 (55296 + c * 4)] rfl rfl (cell_one_new _ _ _) (by intro u hu; simp at hu; subst hu; rfl) (by unfold maxLen; omega) (by omega) (by simp; omega) ?_; intro v' w3 hown' hgrow _)
        have R := own_app2 (xs := [55296 + c * 4]) _ hown2 hown' (by simp) hgrow
        have f3 : Rdr F w3 v (j2 : Int) := (R.2.1 F f2.lt (by omega)).trans f2
        have hg3 : w.grownBy w3 (some F) := ⟨R.2.2.2.1.trans hg2.os, R.2.2.2.2.1.trans hg2.tape, R.2.2.2.2.2.trans hg2.output, Nat.le_trans hsz2 R.2.2.1, fun c hc hne => (R.2.1 c (by omega) hc).trans (hg2.block c hc hne)⟩
        have R1 := R.1
        clear hown' hgrow hown2 R hg2 f2
        go_wp2
        go_roundw
        case rel => exact ⟨m + 1, by omega, by go_num, by rw [HS.out, HX.out]; exact R1, by rw [HS.out, HX.out]; exact f3, hg3⟩
        case measure => simp [intOf]; omega
      · by_cases c1 : c % 5 = 1
        · have HX : Hid (x = (56320 + c * 4, j2)) := by unfold Hid; rw [HO.out, if_neg c0, if_pos c1]
          have t0 : (c % 5 == 0) = false := by simp [c0]
          have t1 : (c % 5 == 1) = true := by simp [c1]
          clear c0 c1 HO
          go_wp2_with fail
          refine hnx2.mono ?_
          rintro e w2 ⟨rfl, f2, g2⟩
          have hown2 : OwI w.heap.size w2 u6 ys := World.ownsRow.kept hown g2 hne
          have hg2 := grown_trans hg g2
          have hsz2 := hg2.size
          clear hown hg g2 hnx2
          go_wp2_with (at_builtin; refine wpList_append_own _ rfl _ _ 71 rfl w.heap.size 3 i0 (.int .i64 0) 1 8 Tryz.underlying71 hi0 hz0 hz1 hz2 rfl (by decide) _ _ _ rfl (World.ownsRow.alloc hown2 _) ⟨w2.heap.size, 0, none⟩ 1 1 [.int .i64 (56320 + c * 4)] rfl rfl (cell_one_new _ _ _) (by intro u hu; simp at hu; subst hu; rfl) (by unfold maxLen; omega) (by omega) (by simp; omega) ?_; intro v' w3 hown' hgrow _)
          have R := own_app2 (xs := [56320 + c * 4]) _ hown2 hown' (by simp) hgrow
          have f3 : Rdr F w3 v (j2 : Int) := (R.2.1 F f2.lt (by omega)).trans f2
          have hg3 : w.grownBy w3 (some F) := ⟨R.2.2.2.1.trans hg2.os, R.2.2.2.2.1.trans hg2.tape, R.2.2.2.2.2.trans hg2.output, Nat.le_trans hsz2 R.2.2.1, fun c hc hne => (R.2.1 c (by omega) hc).trans (hg2.block c hc hne)⟩
          have R1 := R.1
          clear hown' hgrow hown2 R hg2 f2
          go_wp2
          go_roundw
          case rel => exact ⟨m + 1, by omega, by go_num, by rw [HS.out, HX.out]; exact R1, by rw [HS.out, HX.out]; exact f3, hg3⟩
          case measure => simp [intOf]; omega
        · have HX : Hid (x = ((dp zs true j2).1 % 65536, (dp zs true j2).2)) := by unfold Hid; rw [HO.out, if_neg c0, if_neg c1]
          have t0 : (c % 5 == 0) = false := by simp [c0]
          have t1 : (c % 5 == 1) = false := by simp [c1]
          have hpb : 0 ≤ (dp zs true j2).1 ∧ (dp zs true j2).1 ≤ 1114111 := dp_bd true _ (nx_bd hby j2).1
          have hdp := fun W hF hv => drawPoint_any F v zs j2 true W hF hv hby hm hl2
          generalize (dp zs true j2) = y at HX hpb hdp
          obtain ⟨hp0, hp1⟩ := hpb
          clear c0 c1 HO
          go_wp2_with fail
          refine hnx2.mono ?_
          rintro e w2 ⟨rfl, f2, g2⟩
          have hown2 : OwI w.heap.size w2 u6 ys := World.ownsRow.kept hown g2 hne
          have hg2 := grown_trans hg g2
          have hd2 := hdp w2 f2 (HV.out.beside hg2 (fun _ e => by cases e; exact Nat.le_refl _))
          clear hown hg g2 hnx2 hdp f2
          go_wp2_with fail
          refine hd2.mono ?_
          rintro e w4 ⟨rfl, f4, g4⟩
          have hown4 : OwI w.heap.size w4 u6 ys := World.ownsRow.kept hown2 g4 hne
          have hg4 := grown_trans hg2 g4
          have hsz4 := hg4.size
          clear hown2 hg2 g4 hd2
          go_wp2_with (at_builtin; refine wpList_append_own _ rfl _ _ 71 rfl w.heap.size 3 i0 (.int .i64 0) 1 8 Tryz.underlying71 hi0 hz0 hz1 hz2 rfl (by decide) _ _ _ rfl (World.ownsRow.alloc hown4 _) ⟨w4.heap.size, 0, none⟩ 1 1 [.int .i64 (y.1 % 65536)] rfl rfl (cell_one_new _ _ _) (by intro u hu; simp at hu; subst hu; rfl) (by unfold maxLen; omega) (by omega) (by simp; omega) ?_; intro v' w3 hown' hgrow _)
          have R := own_app2 (xs := [y.1 % 65536]) _ hown4 hown' (by simp) hgrow
          have f3 : Rdr F w3 v (y.2 : Int) := (R.2.1 F f4.lt (by omega)).trans f4
          have hg3 : w.grownBy w3 (some F) := ⟨R.2.2.2.1.trans hg4.os, R.2.2.2.2.1.trans hg4.tape, R.2.2.2.2.2.trans hg4.output, Nat.le_trans hsz4 R.2.2.1, fun c hc hne => (R.2.1 c (by omega) hc).trans (hg4.block c hc hne)⟩
          have R1 := R.1
          clear hown' hgrow hown4 R hg4 f4
          go_wp2
          go_roundw
          case rel => exact ⟨m + 1, by omega, by go_num, by rw [HS.out, HX.out]; exact R1, by rw [HS.out, HX.out]; exact f3, hg3⟩
          case measure => simp [intOf]; omega
    · have hmn' : m = n := by omega
      have HE : Hid (dus3 zs 12 i = dusN3 zs m j) := by unfold Hid; rw [HP.out, hmn']; rfl
      clear hmn'
      go_wp2
      go_ret
      exact ⟨_, rfl, by rw [HE.out]; exact hown, by rw [HE.out]; exact hf, hg⟩

end Go.Proofs.YtakkdniikhgpdaaGreatDoor

namespace Go.Proofs.YtakkdniikhgpdaaGreatDoor
open Go.RowKit

/-- The reader over a text that came in. -/
theorem open_rdr {a : Option Addr} {cap : Nat} {zs : List Int} {w : World} (hv : RdB w.heap.size w (.slice a zs.length cap) zs) (o : Obj) :
    RdB w.heap.size (w.alloc o) (.slice a (min 500 zs.length) cap) (zs.take 500) := by
  obtain ⟨a', cap', he, hr⟩ := hv
  simp at he
  obtain ⟨rfl, rfl⟩ := he
  refine ⟨a, cap, by rw [List.length_take], fun h0 => ?_⟩
  have hne : zs ≠ [] := fun h => h0 (by rw [h]; rfl)
  obtain ⟨b, off, rfl, hb, hc⟩ := hr hne
  refine ⟨b, off, rfl, hb, fun j hj => ?_⟩
  rw [List.length_take] at hj
  rw [World.cell?_alloc_past _ _ _ hb, hc j (by omega)]
  simp [show j < 500 by omega]
theorem take_bys {zs : List Int} (h : Bys zs) (n : Nat) : Bys (zs.take n) := fun z hz => h z (List.mem_of_mem_take hz)

/-- What is drawn: the first byte k, the rest, a wrong number behind it at two of the bytes. -/
def tailed (k bad : Int) (u : List Int) : List Int := if k = 250 then u ++ [-1] else if k = 251 then u ++ [bad] else u
def dfu (zs : List Int) : List Int := tailed (nx (zs.take 500) 0).1 65536 (dus3 (zs.take 500) 12 (nx (zs.take 500) 0).2).1
def det (zs : List Int) : List Int := tailed (nx (zs.take 500) 0).1 1114112 (dps (zs.take 500) (decide ((nx (zs.take 500) 0).1 % 4 = 0)) 12 (nx (zs.take 500) 0).2).1
theorem tailed_len (k bad : Int) (u : List Int) : (tailed k bad u).length ≤ u.length + 1 := by
  unfold tailed; split
  · simp
  · split <;> simp
theorem dus_len {zs : List Int} {i : Nat} (hb : Bys zs) (h : i ≤ zs.length) : (dus3 zs 12 i).1.length ≤ 11 := by
  have := nx_bd hb i
  unfold dus3; rw [(dusN_le3 (nx_le h) _).2]; omega
theorem dps_len {zs : List Int} {sur : Bool} {i : Nat} (hb : Bys zs) (h : i ≤ zs.length) : (dps zs sur 12 i).1.length ≤ 11 := by
  have := nx_bd hb i
  unfold dps; rw [(dpsN_le (sur := sur) (nx_le h) _).2]; omega
theorem dfu_len {zs : List Int} (hb : Bys zs) : (dfu zs).length ≤ 12 := by
  have h1 := tailed_len (nx (zs.take 500) 0).1 65536 (dus3 (zs.take 500) 12 (nx (zs.take 500) 0).2).1
  have h2 := dus_len (take_bys hb 500) (nx_le (zs := zs.take 500) (i := 0) (Nat.zero_le _))
  unfold dfu; omega
theorem det_len {zs : List Int} (hb : Bys zs) : (det zs).length ≤ 12 := by
  have h1 := tailed_len (nx (zs.take 500) 0).1 1114112 (dps (zs.take 500) (decide ((nx (zs.take 500) 0).1 % 4 = 0)) 12 (nx (zs.take 500) 0).2).1
  have h2 := dps_len (sur := decide ((nx (zs.take 500) 0).1 % 4 = 0)) (take_bys hb 500) (nx_le (zs := zs.take 500) (i := 0) (Nat.zero_le _))
  unfold det; omega

end Go.Proofs.YtakkdniikhgpdaaGreatDoor

namespace Go.Proofs.YtakkdniikhgpdaaGreatDoor
open Go.RowKit

theorem need_zero (p : Int) : need p = 0 ↔ okPt p = false := by
  constructor
  · intro h
    cases ho : okPt p
    · rfl
    · have := need_ge p ho; omega
  · intro h; simp [need, h]

set_option maxHeartbeats 1000000 in
set_option maxRecDepth 100000 in
theorem specEncodeText_any (v : Value) (zs : List Int) (w : World) (hv : RdI w.heap.size w v zs) (hn : zs.length ≤ 1048576) :
    Calls Tryz.prog 39 #[v] w fun e w' => ∃ v', e = .returned (.tuple #[v', .int .i64 (encR zs).2]) ∧ OwB w.heap.size w' v' (encR zs).1 ∧ w.grownBy w' none := by
  obtain ⟨i0, hi, hz0, hz1, hz2⟩ := info_parts info5
  obtain ⟨a, cap, rfl, hr⟩ := hv
  go_enter Tryz.func39, Tryz.ntmps39
  go_wp2
  go_loopw [4, 5] (fun v i wr => ∃ k : Nat, k ≤ zs.length ∧ i = .int .i64 k ∧ OwB w.heap.size wr v (encAll (zs.take k)) ∧ (zs.take k).all okPt = true ∧ Below w.heap.size w wr)
    (fun _ i _ => zs.length - (intOf i).toNat)
  case atStart => exact ⟨0, Nat.zero_le _, rfl, World.ownsRow_nil _ _ _ _, rfl, Below.refl _ _⟩
  case round =>
    obtain ⟨k, hk, rfl, hown, hall, hnx⟩ := hrel
    have hlen := encAll_len (zs.take k)
    rw [List.length_take_of_le hk] at hlen
    by_cases hlt : k < zs.length
    · obtain ⟨b, off, rfl, hb, hc⟩ := hr (fun h => by simp [h] at hlt)
      have hcx : wr.cell? ⟨b, off + k, none⟩ = some (.int .i64 (zs[k]?.getD 0)) := (hnx.cell (by exact hb)).trans (hc k hlt)
      have hst := encAll_step zs k hlt
      have hal := all_snoc zs okPt k hlt hall
      have han := all_not zs okPt k hlt
      generalize zs[k]?.getD 0 = p at hcx hst hal han
      clear hc hr
      cases ho : okPt p
      · have HF : Hid (zs.all okPt = false) := han ho
        have HN : Hid (need p = 0) := (need_zero p).2 ho
        clear hst hal han
        go_wp2_with (go_at_call 52; refine (l1need_any _ _).mono ?_; rintro e w' ⟨rfl, rfl⟩; rw [HN.out])
        go_ret2
        exact ⟨_, by rw [encR_bad _ HF.out]; rfl, by rw [encR_bad _ HF.out]; exact World.ownsRow_nil _ _ _ _, grown_of_below hnx⟩
      · have HE : Hid (encAll (zs.take (k + 1)) = encAll (zs.take k) ++ enc p) := hst
        have hal' := hal ho
        have hne : (need p == 0) = false := by have := need_ge p ho; simp; omega
        have hel := enc_len p
        clear hst hal han
        go_wp2_with (first
          | (go_at_call 52; refine (l1need_any _ _).mono ?_; rintro e w' ⟨rfl, rfl⟩)
          | fail)
        refine (l1encode_any p _ ho).mono ?_
        rintro e w1 ⟨t1, rfl, o1, b1⟩
        have hown1 : OwB w.heap.size w1 u4 (encAll (zs.take k)) := Ow.later hown (grown_of_below b1)
        have hnx1 := hnx.trans (b1.mono hnx.size)
        have hl1 := World.ownsRow.lt o1
        have hex : ∃ g cap, ∃ t', t' = Value.slice (some ⟨g, 0, none⟩) (enc p).length cap ∧ t' = t1 := by
          rcases o1.2 with ⟨_, h⟩ | ⟨g, cap, cur, h, _⟩
          · omega
          · exact ⟨g, cap, _, rfl, h.symm⟩
        obtain ⟨g, cap1, t', ht', hu4⟩ := hex
        rw [← hu4] at o1
        rw [← hu4, ht']
        rw [ht'] at o1
        have hcs := World.ownsRow.cells o1 (g := g) rfl
        clear hu4 ht' hown hnx b1
        go_wp2_with (at_builtin; refine wpList_append_own _ rfl _ _ 22 rfl w.heap.size 5 i0 (.int .u8 0) 1 1 Tryz.underlying22 hi hz0 hz1 hz2 rfl (by decide) _ _ _ rfl hown1 ⟨g, 0, none⟩ (enc p).length cap1 ((enc p).map (Value.int .u8)) rfl (by simp) hcs (ints_oneCell _ _) (by unfold maxLen; omega) (by omega) hnx1.size ?_; intro v' w2 hown' hgrow _)
        have R1 : OwB w.heap.size w2 v' (encAll (zs.take (k + 1))) := by
          rw [HE.out]; unfold OwB Ow; rw [List.length_append, List.map_append]; exact hown'
        have R2 := hnx1.grown hgrow hnx1.size (fun j hj => (World.ownsRow.lt hown1 j hj).1)
        clear hown' hgrow hown1 hcs o1 hl1
        go_wp2
        go_roundw
        case rel => exact ⟨k + 1, by omega, by go_num, R1, hal', R2⟩
        case measure => simp [intOf]; omega
    · have HF : Hid (encR zs = (encAll zs, 0)) := by
        unfold Hid
        rw [List.take_of_length_le (by omega)] at hall
        exact encR_ok _ hall
      have hkn : k = zs.length := by omega
      rw [hkn, List.take_length] at hown
      clear hr hall hkn
      go_wp2
      go_ret2
      exact ⟨_, by rw [HF.out]; rfl, by rw [HF.out]; exact hown, grown_of_below hnx⟩

end Go.Proofs.YtakkdniikhgpdaaGreatDoor

namespace Go.Proofs.YtakkdniikhgpdaaGreatDoor
open Go.RowKit

def oddB : List (List Int) := [[192, 128], [193, 191], [224, 159, 191], [224, 160, 128], [237, 160, 128], [237, 159, 191], [240, 143, 191, 191], [240, 144, 128, 128], [244, 143, 191, 191], [244, 144, 128, 128], [245], [128]]
/-- What DrawDecodeText makes of the byte k, the encoded points b and the reader at i. -/
def ddtV (rs : List Int) (k : Int) (b : List Int) (i : Nat) : List Int :=
  if k % 3 = 0 then (if b = [] then b else b.set ((nx rs i).1 % (b.length : Int)).toNat (nx rs (nx rs i).2).1)
  else if k % 3 = 1 then (if b = [] then b else b.take ((nx rs i).1 % (b.length : Int)).toNat)
  else if k % 6 = 2 then b ++ oddB.getD (k / 6 % 12).toNat [] else b
def ddt (zs : List Int) : List Int :=
  ddtV (zs.take 500) (nx (zs.take 500) 0).1 (encR (dps (zs.take 500) false 12 (nx (zs.take 500) 0).2).1).1 (dps (zs.take 500) false 12 (nx (zs.take 500) 0).2).2

theorem enc_bys {p : Int} (h : okPt p = true) : Bys (enc p) := by
  have hb := ok_bd h
  intro z hz
  unfold enc at hz
  split at hz
  · simp at hz; omega
  · split at hz
    · simp at hz; omega
    · split at hz
      · simp at hz; omega
      · simp at hz; omega
theorem encR_bys (q : List Int) : Bys (encR q).1 := by
  unfold encR
  split
  · rename_i h
    rw [List.all_eq_true] at h
    intro z hz
    simp only [encAll, List.mem_flatMap] at hz
    obtain ⟨p, hp, hz⟩ := hz
    exact enc_bys (h p hp) z hz
  · intro z hz; simp at hz
theorem odd_bys (j : Nat) : Bys (oddB.getD j []) := by
  by_cases h : j < 12
  · have : ∀ m : Nat, m < 12 → ∀ z ∈ oddB.getD m [], 0 ≤ z ∧ z ≤ 255 := by decide
    exact this j h
  · intro z hz
    rw [List.getD_eq_getElem?_getD, List.getElem?_eq_none (by simp [oddB]; omega)] at hz; simp at hz
theorem odd_len (j : Nat) : (oddB.getD j []).length ≤ 4 := by
  by_cases h : j < 12
  · have : ∀ m : Nat, m < 12 → (oddB.getD m []).length ≤ 4 := by decide
    exact this j h
  · rw [List.getD_eq_getElem?_getD, List.getElem?_eq_none (by simp [oddB]; omega)]; simp
theorem ddtV_ok {rs : List Int} (hb : Bys rs) (k : Int) {b : List Int} (hbb : Bys b) (i : Nat) : Bys (ddtV rs k b i) ∧ (ddtV rs k b i).length ≤ b.length + 4 := by
  unfold ddtV
  split
  · split
    · exact ⟨hbb, by omega⟩
    · refine ⟨fun z hz => ?_, by simp⟩
      rcases List.mem_or_eq_of_mem_set hz with h | h
      · exact hbb z h
      · rw [h]; exact nx_bd hb _
  · split
    · split
      · exact ⟨hbb, by omega⟩
      · exact ⟨fun z hz => hbb z (List.mem_of_mem_take hz), by rw [List.length_take]; omega⟩
    · split
      · have := odd_len (k / 6 % 12).toNat
        refine ⟨fun z hz => ?_, by rw [List.length_append]; omega⟩
        rcases List.mem_append.1 hz with h | h
        · exact hbb z h
        · exact odd_bys _ z h
      · exact ⟨hbb, by omega⟩
theorem ddt_ok {zs : List Int} (hb : Bys zs) : Bys (ddt zs) ∧ (ddt zs).length ≤ 60 := by
  have h := ddtV_ok (take_bys hb 500) (nx (zs.take 500) 0).1 (encR_bys (dps (zs.take 500) false 12 (nx (zs.take 500) 0).2).1) (dps (zs.take 500) false 12 (nx (zs.take 500) 0).2).2
  have h2 := encR_len (dps (zs.take 500) false 12 (nx (zs.take 500) 0).2).1
  have h3 := dps_len (sur := false) (take_bys hb 500) (nx_le (zs := zs.take 500) (i := 0) (Nat.zero_le _))
  exact ⟨h.1, by unfold ddt; omega⟩

theorem row_take {w : World} {B : Nat} {t : TypeId} {g n cap : Nat} {xs : List Value} (h : w.ownsRow B t 1 (.slice (some ⟨g, 0, none⟩) n cap) n xs) (m : Nat) (hm : m ≤ n) : w.ownsRow B t 1 (.slice (some ⟨g, 0, none⟩) m cap) m (xs.take m) := by
  have hl := h.1
  refine ⟨by rw [List.length_take]; omega, ?_⟩
  rcases h.2 with ⟨h1, _⟩ | ⟨g', cap', cur, hv, hb, hg, hnc, hcm, hcs, ht⟩
  · simp at h1
  · simp only [Value.slice.injEq, Option.some.injEq, Addr.mk.injEq, and_true, true_and] at hv
    obtain ⟨rfl, rfl⟩ := hv
    refine .inr ⟨g, cap, cur, rfl, hb, hg, by omega, hcm, hcs, ?_⟩
    rw [← ht, List.take_take]
    congr 1; omega
theorem row_shape {w : World} {B : Nat} {t : TypeId} {v : Value} {n : Nat} {xs : List Value} (h : w.ownsRow B t 1 v n xs) (hn : 0 < n) : ∃ g cap, v = .slice (some ⟨g, 0, none⟩) n cap ∧ B ≤ g ∧ n ≤ cap ∧ cap ≤ maxLen := by
  rcases h.2 with ⟨_, h1⟩ | ⟨g, cap, cur, hv, hb, hg, hnc, hcm, _⟩
  · omega
  · exact ⟨g, cap, hv, hb, hnc, hcm⟩
theorem set_map (q : IntKind) (b : List Int) (m : Nat) (z : Int) : (b.map (Value.int q)).set m (.int q z) = (b.set m z).map (Value.int q) := by rw [List.map_set]

/-- Blocks laid one behind another. -/
def al (w : World) (os : List Obj) : World := os.foldl World.alloc w
theorem al_heap (os : List Obj) : ∀ (w : World) (i : Nat), i < os.length → (al w os).heap[w.heap.size + i]? = os[i]? := by
  induction os with
  | nil => intro w i h; simp at h
  | cons o os ih =>
    intro w i h
    have old : ∀ (os : List Obj) (w : World) (k : Nat), k < w.heap.size → (al w os).heap[k]? = w.heap[k]? := by
      intro os
      induction os with
      | nil => intro w k _; rfl
      | cons o os ih =>
        intro w k hk
        show (al (w.alloc o) os).heap[k]? = _
        rw [ih (w.alloc o) k (by simp; omega)]
        exact Below.heap_alloc w o k hk
    show (al (w.alloc o) os).heap[w.heap.size + i]? = _
    cases i with
    | zero =>
      rw [old os (w.alloc o) _ (by simp)]
      simpa using heap_alloc_new w o
    | succ i =>
      have := ih (w.alloc o) i (by simpa using h)
      rw [World.size_alloc] at this
      rw [show w.heap.size + (i + 1) = w.heap.size + 1 + i by omega, this]
      simp
theorem al_grown (w : World) (os : List Obj) : w.grownBy (al w os) none := by
  induction os generalizing w with
  | nil => exact World.grownBy.refl _ _
  | cons o os ih => exact grown_trans (World.grownBy_alloc w o none) (ih (w.alloc o))
def oddObjs (s : Nat) : List Obj := oddB.map (fun l => Obj.cells (l.map (Value.int .u8)).toArray 5) ++ [.cells ((List.range 12).map (fun i => Value.slice (some ⟨s + i, 0, none⟩) (oddB.getD i []).length (oddB.getD i []).length)).toArray 22]
theorem odd_cells (w : World) (i : Nat) (hi : i < 12) : ∀ j u, ((oddB.getD i []).map (Value.int .u8))[j]? = some u → (al w (oddObjs w.heap.size)).cell? ((⟨w.heap.size + i, 0, none⟩ : Addr).add j) = some u := by
  intro j u hj
  have h1 := al_heap (oddObjs w.heap.size) w i (by simp [oddObjs, oddB]; omega)
  have h2 : (oddObjs w.heap.size)[i]? = some (.cells ((oddB.getD i []).map (Value.int .u8)).toArray 5) := by
    have hl : i < oddB.length := by simp [oddB]; omega
    unfold oddObjs
    rw [List.getElem?_append_left (by simpa using hl)]
    simp [hl]
  rw [h2] at h1
  rw [Addr.add_lit, cell_of_row _ _ _ _ _ _ h1]
  simpa using hj

end Go.Proofs.YtakkdniikhgpdaaGreatDoor

