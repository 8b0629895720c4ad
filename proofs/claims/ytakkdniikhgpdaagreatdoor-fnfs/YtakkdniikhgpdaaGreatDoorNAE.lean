import Derived.Lib.AppendStr
import Derived.Lib.SlBytesConst
import Derived.Test.YtakkdniikhgpdaaGreatDoorMAA
import Derived.Test.YtakkdniikhgpdaaGreatDoorNAD
namespace Go.Proofs.YtakkdniikhgpdaaGreatDoor
open Go.RowKit
attribute [-go_sem] Builtin.append_

set_option maxHeartbeats 2000000 in
set_option maxRecDepth 100000 in
theorem l2un_any (kd n : Int) (v : Value) (ps : List Pc) (B : Nat) (w : World) (hv : PiR B w none v ps) (hn : mes ps ≤ 4194304) :
    Calls Tryz.prog 97 #[.int .i64 kd, v, .int .i64 n] w fun e w' => ∃ v', e = .returned v' ∧ PoR w.heap.size w' v' (ps ++ [⟨kd, [], n⟩]) ∧ w.grownBy w' none := by
  have HC := hide (l2copy_any v ps B w hv hn)
  have hl := mes_len ps
  obtain ⟨a, cap, hv0, _⟩ := id hv
  subst hv0
  clear hv
  go_enter Tryz.func97, Tryz.ntmps97
  go_wp2_with fail
  refine HC.out.mono ?_
  rintro e w1 ⟨v1, rfl, o1, g1⟩
  have hs := g1.size
  obtain ⟨v2, w2, hrun, ho2, g2, ⟨a2, c2, hv2⟩, _⟩ := o1.push kd n (.slice none 0 0) [] hs (TxR.nil _ _ _) (by omega)
  obtain ⟨a1, c1, hv1, _, _⟩ := o1.sl
  have HG : Hid (w.grownBy w2 none) := grown_new g1 g2 (fun j e => (o1.lt j e).1)
  have HO := hide ho2
  subst hv1 hv2
  clear HC o1 ho2 g2
  go_wp2
  go_ret
  exact ⟨_, rfl, HO.out, HG.out⟩

set_option maxHeartbeats 4000000 in
set_option maxRecDepth 100000 in
theorem l6row_any (v : Value) (dss : List (List Pc)) (B : Nat) (w : World) (hv : DiR B w none v dss) (hB : B ≤ w.heap.size) (hn : mess dss ≤ 4194304) :
    Calls Tryz.prog 98 #[v] w fun e w' => ∃ v', e = .returned v' ∧ PoR B w' v' (rowP dss) ∧ w.grownBy w' none := by
  have HV := hide hv
  obtain ⟨a, cap, hv0, hc1, hc2, hh⟩ := id hv
  subst hv0
  clear hv
  have hml := mess_len dss
  rcases dss with _ | ⟨ds, dss⟩
  · have HL := hide (l2leaf_any 0 w)
    simp only [List.length_nil]
    go_enter Tryz.func98, Tryz.ntmps98
    go_wp2_with fail
    refine HL.out.mono ?_
    rintro e w1 ⟨v1, rfl, o1, g1⟩
    have HO := hide (o1.base hB)
    obtain ⟨a1, c1, hv1, _, _⟩ := o1.sl
    subst hv1
    clear HL o1
    go_wp2
    go_ret
    exact ⟨_, rfl, HO.out, g1⟩
  · obtain ⟨b, off, rfl, hz, hc⟩ := hh (by simp)
    obtain ⟨u0, hu0, hd0⟩ := hc 0 ds rfl
    have HCC := hide hc
    have hmd : mes ds ≤ 4194304 := by have := mess_mem (ds :: dss) ds (by simp); omega
    have HC := hide (fun W (g : w.grownBy W none) => l2copy_any u0 ds B W (hd0.keep g) hmd)
    obtain ⟨ua, uc, hu, _, _⟩ := hd0.sl
    subst hu
    have hbs := hz.2.1
    clear hh hc hz hd0
    have hll : (ds :: dss).length = dss.length + 1 := rfl
    rw [hll] at *
    rw [Nat.add_zero] at hu0
    go_enter Tryz.func98, Tryz.ntmps98
    go_wp2_with fail
    refine (HC.out _ (World.grownBy.refl _ _)).mono ?_
    rintro e w1 ⟨v1, rfl, o1, g1⟩
    obtain ⟨a1, c1, hv1, _, _⟩ := o1.sl
    have HO := hide (o1.base hB)
    have HL1 := hide (fun x e => (o1.lt x e).1)
    subst hv1
    clear HC o1
    have HM := hide hn
    have hdl : dss.length ≤ 4194304 := by have h := mess_len dss; simp only [mess] at hn; omega
    clear hn hml
    go_wp2
    go_loopw [3, 4] (fun o i W => ∃ (k : Nat), k ≤ dss.length ∧ i = .int .i64 ((k : Int) + 1) ∧ PoR B W o (ds ++ rowT (dss.take k)) ∧ w.grownBy W none ∧ (∀ x, o.ownBlock = some x → w.heap.size ≤ x))
      (fun _ i _ => dss.length + 1 - (intOf i).toNat)
    case atStart => exact ⟨0, Nat.zero_le _, rfl, by simpa [rowT] using HO.out, g1, HL1.out⟩
    case round =>
      obtain ⟨k, hk, rfl, ho, hg, hx⟩ := hrel
      by_cases hlt : k < dss.length
      · obtain ⟨u, hu, hd⟩ := HCC.out (k + 1) dss[k] (by simp [hlt])
        have hu' := hg.cell hu (by simp)
        have hmk : mes dss[k] ≤ 4194304 := by have := mess_mem (ds :: dss) dss[k] (by simp); have := HM.out; omega
        have hlk := mes_len dss[k]
        have hto : (ds ++ rowT (dss.take k)).length ≤ 4194304 := by
          have h1 := mes_len (ds ++ rowT (dss.take k))
          rw [mes_app, mes_rowT] at h1
          have h2 := HM.out
          have h3 := mess_app (dss.take k) (dss.drop k)
          rw [List.take_append_drop] at h3
          simp only [mess] at h2
          omega
        obtain ⟨oa, oc, hov, _, _⟩ := ho.sl
        subst hov
        have hds := (hd.turn (Zo.on (Value.slice oa (ds ++ rowT (dss.take k)).length oc).ownBlock (Nat.le_refl _) (fun x e => .inr (hx x e)))).keep hg
        have hwz := hg.size
        obtain ⟨v2, w2, run2, ho2, g2, h2⟩ := append_pcs B wr _ u _ _ ho hds (by omega) (by omega)
        obtain ⟨a2, c2, hv2, _, _⟩ := ho2.sl
        have hg2 := grown_new hg g2 hx
        have hx2 : ∀ x, v2.ownBlock = some x → w.heap.size ≤ x := fun x e => by
          rcases h2 with h | h
          · exact hx x (by rw [← h]; exact e)
          · rw [h] at e; cases e; exact hwz
        have hwz2 := hg2.size
        obtain ⟨v3, w3, run3, ho3, g3, ⟨a3, c3, hv3⟩, h3⟩ := ho2.push 6 0 (.slice none 0 0) [] (by omega) (TxR.nil _ _ _) (by simp only [List.length_append] at hto ⊢; omega)
        have HO3 : Hid (PoR B w3 v3 (ds ++ rowT (dss.take (k + 1)))) := by
          have e : dss.take (k + 1) = dss.take k ++ [dss[k]] := by rw [List.take_add_one]; simp [hlt]
          unfold Hid
          rw [e, rowT_snoc]
          simpa [catP, List.append_assoc] using ho3
        have HG3 := hide (grown_new hg2 g3 hx2)
        have HX3 : Hid (∀ x, v3.ownBlock = some x → w.heap.size ≤ x) := fun x e => by
          rcases h3 x e with h | h
          · exact hx2 x h
          · omega
        obtain ⟨ua', uc', hu2, _, _⟩ := hds.sl
        subst hv2 hv3 hu2
        clear ho ho2 ho3 hds hd g2 g3 hx hx2 h2 h3 hu HCC HO HL1 hmk
        generalize (ds ++ rowT (List.take k dss) ++ dss[k]).length = L2 at *
        generalize (ds ++ rowT (List.take k dss)).length = L1 at *
        go_wp2
        go_roundw
        case rel => exact ⟨k + 1, by omega, by go_num, HO3.out, HG3.out, HX3.out⟩
        case measure => simp [intOf]; omega
      · have hkn : k = dss.length := by omega
        subst hkn
        rw [List.take_length] at ho
        obtain ⟨oa, oc, hov, _, _⟩ := ho.sl
        subst hov
        have HO1 := hide ho
        clear ho
        go_wp2
        go_ret
        exact ⟨_, rfl, HO1.out, hg⟩
end Go.Proofs.YtakkdniikhgpdaaGreatDoor

namespace Go.Proofs.YtakkdniikhgpdaaGreatDoor
open Go.RowKit

/-- Bytes in a row of one's own, or in a full row. -/
def Bw (B : Nat) (w : World) (v : Value) (zs : List Int) : Prop :=
  OwB B w v zs ∨ ∃ g, v = .slice (some ⟨g, 0, none⟩) zs.length zs.length ∧ B ≤ g ∧ g < w.heap.size ∧ zs.length ≤ 1000 ∧ ∀ j, j < zs.length → w.cell? ⟨g, j, none⟩ = some (.int .u8 (zs[j]?.getD 0))
theorem Bw.lt {B : Nat} {w : World} {v : Value} {zs : List Int} (h : Bw B w v zs) : ∀ k, v.ownBlock = some k → B ≤ k ∧ k < w.heap.size := by
  rcases h with h | ⟨g, rfl, h1, h2, _⟩
  · exact fun k e => World.ownsRow.lt h k e
  · intro k e; cases e; exact ⟨h1, h2⟩
theorem Bw.keep {B : Nat} {w w' : World} {v : Value} {zs : List Int} (h : Bw B w v zs) (g : w.grownBy w' none) : Bw B w' v zs := by
  rcases h with h | ⟨x, rfl, h1, h2, h3, h4⟩
  · exact .inl (h.later g)
  · exact .inr ⟨x, rfl, h1, Nat.lt_of_lt_of_le h2 g.size, h3, fun j hj => g.cell (h4 j hj) (by simp)⟩
theorem Bw.rd {B : Nat} {w : World} {v : Value} {zs : List Int} (h : Bw B w v zs) : RdB w.heap.size w v zs := by
  rcases h with h | ⟨g, rfl, h1, h2, h3, h4⟩
  · exact h.rd
  · exact ⟨_, _, rfl, fun _ => ⟨g, 0, rfl, h2, fun j hj => by rw [Nat.zero_add]; exact h4 j hj⟩⟩
theorem Bw.sl {B : Nat} {w : World} {v : Value} {zs : List Int} (h : Bw B w v zs) : Sl v zs.length := by
  rcases h with h | ⟨g, rfl, h1, h2, h3, h4⟩
  · exact h.sl
  · exact ⟨_, _, rfl, Nat.le_refl _, by unfold maxLen; omega⟩
theorem Bw.base {B B' : Nat} {w : World} {v : Value} {zs : List Int} (h : Bw B w v zs) (hB : B' ≤ B) : Bw B' w v zs := by
  rcases h with h | ⟨g, rfl, h1, h2, h3, h4⟩
  · exact .inl (row_base hB h)
  · exact .inr ⟨g, rfl, by omega, h2, h3, h4⟩
theorem Bw.nil (B : Nat) (w : World) : Bw B w (.slice none 0 0) [] := .inl ⟨by simp, .inl ⟨rfl, rfl⟩⟩

/-- 'append(v, t...)'. -/
theorem bw_app (B : Nat) (w : World) (v tv : Value) (ys t : List Int) (hown : Bw B w v ys) (hrd : RdB w.heap.size w tv t) (hB : B ≤ w.heap.size) (hn : ys.length + t.length ≤ 100000000000) :
    ∃ v' w', (Builtin.append_ #[22, 22] 22 #[v, tv]).run Tryz.prog w = .ok v' w' ∧ Bw B w' v' (ys ++ t) ∧ w.grownBy w' v.ownBlock ∧ (v'.ownBlock = v.ownBlock ∨ v'.ownBlock = some w.heap.size) := by
  rcases hown with hown | ⟨g, rfl, h1, h2, h3, h4⟩
  · obtain ⟨v', w', hr, ho, hg, hb⟩ := append_bytes B w.heap.size w v tv ys t hown hrd hB hn
    exact ⟨v', w', hr, .inl ho, hg, hb⟩
  · obtain ⟨i0, hi, hz0, hz1, hz2⟩ := info_parts info5
    obtain ⟨a, cap, htv, hr⟩ := hrd
    subst htv
    have ht := Tryz.underlying22
    by_cases h0 : t = []
    · subst h0
      refine ⟨_, w, ?_, by rw [List.append_nil]; exact .inr ⟨g, rfl, h1, h2, h3, h4⟩, World.grownBy.refl _ _, .inl rfl⟩
      cases a with
      | none => simp [Builtin.append_, run_underlying ht, sizeOf, typeInfo, hi, Builtin.lenOf, Builtin.firstCells, storeCells]
      | some ad => simp [Builtin.append_, run_underlying ht, sizeOf, typeInfo, hi, Builtin.lenOf, Builtin.firstCells, loadCells, loadCellsFrom, storeCells]
    · obtain ⟨b, off, rfl, hb, hc⟩ := hr h0
      have hlp : 0 < t.length := List.length_pos_iff.2 h0
      have hold : ∀ j u, (ys.map (Value.int .u8))[j]? = some u → w.cell? ((⟨g, 0, none⟩ : Addr).add j) = some u := by
        intro j u hj
        have hjl : j < ys.length := by have := (List.getElem?_eq_some_iff.1 hj).1; simpa using this
        rw [Addr.add_lit, Nat.zero_add, h4 j hjl]
        simpa [hjl] using hj
      have hnew : ∀ j u, (t.map (Value.int .u8))[j]? = some u → w.cell? ((⟨b, off, none⟩ : Addr).add j) = some u := by
        intro j u hj
        have hjl : j < t.length := by have := (List.getElem?_eq_some_iff.1 hj).1; simpa using this
        rw [Addr.add_lit, hc j hjl]
        simpa [hjl] using hj
      have hrun := run_append_grow (P := Tryz.prog) w 22 22 5 i0 (.int .u8 0) ht hi hz0 ⟨g, 0, none⟩ ys.length ys.length (ys.map (Value.int .u8)) (by rw [hz1]; simp) hold ⟨b, off, none⟩ t.length cap (t.map (Value.int .u8)) (by rw [hz1]; simp) hnew (by omega) (by omega) (growslice_fits (by omega) (by rw [hz2]; omega))
      refine ⟨_, _, hrun, .inl ?_, ?_, .inr rfl⟩
      · have hge := grownCap_ge w (ys.length + t.length) ys.length 5
        have hcm := grownCap_le_maxLen w (ys.length + t.length) ys.length 5 (by unfold maxLen; omega)
        refine ⟨by simp, .inr ⟨w.heap.size, _, _, by rw [List.length_append], hB, heap_alloc_new w.drew _, by simpa using hge, hcm, ?_, ?_⟩⟩
        · simp only [Array.size_append, List.size_toArray, size_zeroCells, List.length_map, Value.cells]
          simp
          omega
        · simp only [Array.toList_append, List.append_assoc]
          rw [← List.append_assoc, ← List.map_append]
          exact List.take_left' (by simp)
      · have gd : w.grownBy w.drew (Value.slice (some ⟨g, 0, none⟩) ys.length ys.length).ownBlock := ⟨rfl, rfl, rfl, Nat.le_refl _, fun _ _ _ => rfl⟩
        exact grown_trans gd (World.grownBy_alloc _ _ _)

/-- 'append(v, s...)' of a string's bytes. -/
theorem bw_str (B : Nat) (w : World) (v : Value) (ys wl : List Int) (hown : Bw B w v ys) (hwl : Bys wl) (hw0 : 0 < wl.length) (hB : B ≤ w.heap.size) (hn : ys.length + wl.length ≤ 100000000000) :
    ∃ v' w', (Builtin.append_ #[22, 9] 22 #[v, .string (strOfNums wl)]).run Tryz.prog w = .ok v' w' ∧ Bw B w' v' (ys ++ wl) ∧ w.grownBy w' v.ownBlock := by
  have hst : Lib.strCells (strOfNums wl) = wl.map (Value.int .u8) := by
    unfold Lib.strCells
    rw [strOfNums_data, List.map_map]
    refine List.map_congr_left fun z hz => ?_
    have := hwl z hz
    simp only [Function.comp, Value.int.injEq, true_and, UInt8.toNat_ofNat']
    omega
  have hsz := strOfNums_size wl
  obtain ⟨i0, hi, hz0, hz1, hz2⟩ := info_parts info5
  have ht := Tryz.underlying22
  have hu := Tryz.underlying9
  rcases hown with hown | ⟨g, rfl, h1, h2, h3, h4⟩
  · obtain ⟨v', w', hr, ho, hg, _⟩ := Lib.run_append_own_string (P := Tryz.prog) w B 22 9 22 5 i0 ht hu hi hz0 hz1 hz2 v ys.length _ hown (strOfNums wl) (by rw [hsz]; unfold maxLen; omega) (by rw [hsz]; omega) hB
    exact ⟨v', w', hr, .inl (by unfold OwB Ow; rw [hst, hsz] at ho; simpa using ho), hg⟩
  · have hold : ∀ j u, (ys.map (Value.int .u8))[j]? = some u → w.cell? ((⟨g, 0, none⟩ : Addr).add j) = some u := by
      intro j u hj
      have hjl : j < ys.length := by have := (List.getElem?_eq_some_iff.1 hj).1; simpa using this
      rw [Addr.add_lit, Nat.zero_add, h4 j hjl]
      simpa [hjl] using hj
    have hrun := Lib.run_append_grow_string (P := Tryz.prog) w 22 9 22 5 i0 (.int .u8 0) ht hu hi hz0 ⟨g, 0, none⟩ ys.length ys.length (ys.map (Value.int .u8)) (by rw [hz1]; simp) hold (strOfNums wl) (by rw [hsz]; omega) (by rw [hsz]; omega) (growslice_fits (by rw [hsz]; omega) (by rw [hz2, hsz]; omega))
    rw [hst, hsz] at hrun
    refine ⟨_, _, hrun, .inl ?_, ?_⟩
    · have hge := grownCap_ge w (ys.length + wl.length) ys.length 5
      have hcm := grownCap_le_maxLen w (ys.length + wl.length) ys.length 5 (by unfold maxLen; omega)
      refine ⟨by simp, .inr ⟨w.heap.size, _, _, by rw [List.length_append], hB, heap_alloc_new w.drew _, by simpa using hge, hcm, ?_, ?_⟩⟩
      · simp only [Array.size_append, List.size_toArray, size_zeroCells, List.length_map, Value.cells]
        simp
        omega
      · simp only [Array.toList_append, List.append_assoc]
        rw [← List.append_assoc, ← List.map_append]
        exact List.take_left' (by simp)
    · have gd : w.grownBy w.drew (Value.slice (some ⟨g, 0, none⟩) ys.length ys.length).ownBlock := ⟨rfl, rfl, rfl, Nat.le_refl _, fun _ _ _ => rfl⟩
      exact grown_trans gd (World.grownBy_alloc _ _ _)

/-- The row of a constant, just laid. -/
theorem bw_lit2 (w : World) (x y : Int) : Bw w.heap.size (w.alloc (Obj.cells #[.int .u8 x, .int .u8 y] 5 (2, 3))) (.slice (some ⟨w.heap.size, 0, none⟩) 2 2) [x, y] := by
  refine .inr ⟨w.heap.size, rfl, Nat.le_refl _, by simp, by simp, fun j hj => ?_⟩
  have := World.cell?_alloc_mark w #[.int .u8 x, .int .u8 y] 5 (2, 3) j
  rw [this]
  match j, hj with
  | 0, _ => rfl
  | 1, _ => rfl
end Go.Proofs.YtakkdniikhgpdaaGreatDoor

namespace Go.Proofs.YtakkdniikhgpdaaGreatDoor
open Go.RowKit
attribute [-go_sem] Builtin.append_

theorem raw_flat (x : List Int) : ∀ (L : List (List Int)), rawR (L ++ [x]) = (L.flatMap fun l => [textP l, leafP 5]) ++ [textP x]
  | [] => rfl
  | [l] => rfl
  | l :: m :: L => by
    have := raw_flat x (m :: L)
    simp only [List.cons_append] at this ⊢
    simp only [rawR, this]
    simp

set_option maxHeartbeats 4000000 in
set_option maxRecDepth 100000 in
theorem l6comment_line (t : List Int) (tv : Value) (w : World) (hv : RdB w.heap.size w tv t) (hs : Sl tv t.length) (hn : t.length ≤ 1048576) :
    Calls Tryz.prog 103 #[.agg #[.bool false, tv]] w fun e w' => ∃ v', e = .returned v' ∧ PoR w.heap.size w' v' (textP (47 :: 47 :: t)) ∧ w.grownBy w' none := by
  obtain ⟨a, cap, htv, hc1, hc2⟩ := hs
  subst htv
  obtain ⟨W, hW⟩ : ∃ W, W = w.alloc (Obj.cells #[.bool false, .slice a t.length cap] 127) := ⟨_, rfl⟩
  have gW : w.grownBy W none := by rw [hW]; exact World.grownBy_alloc _ _ _
  have sW : W.heap.size = w.heap.size + 1 := by rw [hW]; simp
  have kc := Lib.run_convert_bytes_const (P := Tryz.prog) W 22 5 #[.int .u8 47, .int .u8 47] 2 2 Tryz.underlying22 Tryz.underlying5
  obtain ⟨W2, hW2⟩ : ∃ W2, W2 = W.alloc (Obj.cells #[.int .u8 47, .int .u8 47] 5 (2, 3)) := ⟨_, rfl⟩
  have gW2 : W.grownBy W2 none := by rw [hW2]; exact World.grownBy_alloc _ _ _
  have hb2 : Bw W.heap.size W2 (.slice (some ⟨W.heap.size, 0, none⟩) 2 2) [47, 47] := by rw [hW2]; exact bw_lit2 W 47 47
  obtain ⟨v3, w3, run3, h3, g3, _⟩ := bw_app W.heap.size W2 _ (.slice a t.length cap) [47, 47] t hb2 (((hv.keep gW).keep gW2).wideC (Nat.le_trans gW.size gW2.size)) gW2.size (by simp; omega)
  have HC := hide (l6text_any v3 _ w3 h3.rd (by simp; omega))
  have HG : Hid (w.grownBy w3 none) := grown_trans gW (grown_new gW2 g3 (fun j e => by cases e; exact Nat.le_refl _))
  obtain ⟨a3, c3, hv3, _, _⟩ := h3.sl
  rw [sW] at kc run3
  subst hv3
  have c1 : W.cell? ⟨w.heap.size, 0, none⟩ = some (.bool false) := by rw [hW]; simp [go_sem]
  have c2 : W2.cell? ⟨w.heap.size, 1, none⟩ = some (.slice a t.length cap) := gW2.cell (by rw [hW]; simp [go_sem]) (by simp)
  subst hW2 hW
  clear hb2 h3 gW gW2 hv
  go_enter Tryz.func103, Tryz.ntmps103
  go_wp2_with fail
  refine HC.out.mono ?_
  rintro e w4 ⟨v4, rfl, o4, g4⟩
  have HO := hide (o4.base HG.out.size)
  obtain ⟨a4, c4, hv4, _, _⟩ := o4.sl
  subst hv4
  clear o4 HC run3 kc
  go_wp2
  go_ret
  exact ⟨_, rfl, HO.out, grown_trans HG.out g4⟩
end Go.Proofs.YtakkdniikhgpdaaGreatDoor

namespace Go.Proofs.YtakkdniikhgpdaaGreatDoor
open Go.RowKit
attribute [-go_sem] Builtin.append_

def txr (L : List (List Int)) : List (List Pc) := L.flatMap fun l => [textP l, leafP 5]
theorem txr_snoc (L : List (List Int)) (x : List Int) : txr (L ++ [x]) = txr L ++ [textP x] ++ [leafP 5] := by simp [txr]
theorem mess_txr (L : List (List Int)) : mess (txr L) ≤ 4 * lenL L := by
  induction L with
  | nil => simp [txr, mess]
  | cons l L ih => rw [show txr (l :: L) = [textP l, leafP 5] ++ txr L by simp [txr], mess_app]; simp only [mess, textP, leafP, mes, lenL, List.length_nil]; omega
theorem lenL_app (a b : List (List Int)) : lenL (a ++ b) = lenL a + lenL b := by
  induction a with
  | nil => simp [lenL]
  | cons l a ih => simp only [List.cons_append, lenL, ih]; omega
theorem DoR.lt {B : Nat} {w : World} {v : Value} {dss : List (List Pc)} (h : DoR B w v dss) : ∀ k, v.ownBlock = some k → B ≤ k ∧ k < w.heap.size := by
  obtain ⟨xs, ho, _⟩ := h
  exact fun k e => World.ownsRow.lt ho k e
theorem DoR.sl {B : Nat} {w : World} {v : Value} {dss : List (List Pc)} (h : DoR B w v dss) : Sl v dss.length := by
  obtain ⟨a, cap, e, h1, h2, _⟩ := h.di
  exact ⟨a, cap, e, h1, h2⟩
/-- One more document, in memory that is newer than the row. -/
theorem DoR.push {B : Nat} {w w1 : World} {v u : Value} {dss : List (List Pc)} {ds : List Pc} (hv : DoR B w v dss) (g : w.grownBy w1 none) (hu : PoR w.heap.size w1 u ds) (hB : B ≤ w.heap.size) (hn : dss.length ≤ 1000000000) :
    ∃ v' w', (Builtin.append_ #[149, 149] 149 #[v, .slice (some ⟨w1.heap.size, 0, none⟩) 1 1]).run Tryz.prog (w1.alloc (Obj.cells #[u] 138)) = .ok v' w' ∧ DoR B w' v' (dss ++ [ds]) ∧ w.grownBy w' v.ownBlock ∧ w1.grownBy w' v.ownBlock ∧ (∃ a cap, v' = .slice a (dss.length + 1) cap) ∧ ∀ x, v'.ownBlock = some x → v.ownBlock = some x ∨ w.heap.size ≤ x := by
  have g2 := World.grownBy_alloc w1 (Obj.cells #[u] 138) none
  have g2' := World.grownBy_alloc w1 (Obj.cells #[u] 138) v.ownBlock
  have hs := g.size
  obtain ⟨v', w', h1, h2, h3, h4⟩ := append_doc B (w1.alloc (Obj.cells #[u] 138)) v u w1.heap.size dss ds ((hv.keep g).keep g2) (by simp [go_sem])
    (((hu.pi.turn (Zo.on v.ownBlock hB (fun k e => .inl (hv.lt k e).2)))).keep g2) (by simp; omega) (by omega)
  have g' : w.grownBy w1 v.ownBlock := ⟨g.os, g.tape, g.output, g.size, fun k hk _ => g.block k hk (by simp)⟩
  refine ⟨v', w', h1, h2, grown_trans (grown_trans g' g2') h3, grown_trans g2' h3, ?_, fun x hx => ?_⟩
  · obtain ⟨a, cap, e, _⟩ := h2.sl
    exact ⟨a, cap, by simpa using e⟩
  · rcases h4 with h | h
    · exact .inl (by rw [← h]; exact hx)
    · rw [h] at hx; cases hx; right; simp; omega

/-- One byte more. -/
theorem bw_one (B : Nat) (w : World) (v : Value) (ys : List Int) (z : Int) (hown : Bw B w v ys) (hB : B ≤ w.heap.size) (hn : ys.length ≤ 10000000000) :
    ∃ v' w', (Builtin.append_ #[22, 22] 22 #[v, .slice (some ⟨w.heap.size, 0, none⟩) 1 1]).run Tryz.prog (w.alloc (Obj.cells #[.int .u8 z] 5)) = .ok v' w' ∧ Bw B w' v' (ys ++ [z]) ∧ w.grownBy w' v.ownBlock ∧ ∃ a cap, v' = .slice a (ys.length + 1) cap := by
  have g2 := World.grownBy_alloc w (Obj.cells #[.int .u8 z] 5) none
  have g2' := World.grownBy_alloc w (Obj.cells #[.int .u8 z] 5) v.ownBlock
  obtain ⟨v', w', h1, h2, h3, h4⟩ := bw_app B (w.alloc (Obj.cells #[.int .u8 z] 5)) v (.slice (some ⟨w.heap.size, 0, none⟩) 1 1) ys [z] (hown.keep g2)
    ⟨_, 1, rfl, fun _ => ⟨w.heap.size, 0, rfl, by simp, fun j hj => by
      have : j = 0 := by simp at hj; omega
      subst this; simp [go_sem]⟩⟩ (by simp; omega) (by simp; omega)
  obtain ⟨a, cap, e, _⟩ := h2.sl
  exact ⟨v', w', h1, h2, grown_trans g2' h3, a, cap, by simpa using e⟩

set_option maxHeartbeats 4000000 in
set_option maxRecDepth 100000 in
theorem l6comment_block (t : List Int) (tv : Value) (w : World) (hv : RdB w.heap.size w tv t) (hs : Sl tv t.length) (hn : t.length ≤ 1000000) :
    Calls Tryz.prog 103 #[.agg #[.bool true, tv]] w fun e w' => ∃ v', e = .returned v' ∧ PoR w.heap.size w' v' (rowP (rawR (spl [] (47 :: 42 :: t ++ [42, 47])))) ∧ w.grownBy w' none := by
  obtain ⟨a, cap, htv, hc1, hc2⟩ := hs
  subst htv
  obtain ⟨W, hW⟩ : ∃ W, W = w.alloc (Obj.cells #[.bool true, .slice a t.length cap] 127) := ⟨_, rfl⟩
  have gW : w.grownBy W none := by rw [hW]; exact World.grownBy_alloc _ _ _
  have sW : W.heap.size = w.heap.size + 1 := by rw [hW]; simp
  have kc := Lib.run_convert_bytes_const (P := Tryz.prog) W 22 5 #[.int .u8 47, .int .u8 42] 2 2 Tryz.underlying22 Tryz.underlying5
  obtain ⟨W2, hW2⟩ : ∃ W2, W2 = W.alloc (Obj.cells #[.int .u8 47, .int .u8 42] 5 (2, 3)) := ⟨_, rfl⟩
  have gW2 : W.grownBy W2 none := by rw [hW2]; exact World.grownBy_alloc _ _ _
  have hb2 : Bw W.heap.size W2 (.slice (some ⟨W.heap.size, 0, none⟩) 2 2) [47, 42] := by rw [hW2]; exact bw_lit2 W 47 42
  have cc1 : W.cell? ⟨w.heap.size, 1, none⟩ = some (.slice a t.length cap) := by rw [hW]; simp [go_sem]
  have HB2 : Hid (Bw W.heap.size W2 (.slice (some ⟨w.heap.size + 1, 0, none⟩) 2 2) [47, 42]) := by unfold Hid; rw [← sW]; exact hb2
  rw [sW] at kc
  have GW := hide gW
  have GW2 := hide gW2
  have HV := hide hv
  have HC1 := hide cc1
  have hkc : (convert 22 22 (.slice (some ⟨w.heap.size + 1, 0, none⟩) 2 2)).run Tryz.prog (W.alloc (Obj.cells #[.int .u8 47, .int .u8 42] 5)) = .ok (.slice (some ⟨w.heap.size + 1, 0, none⟩) 2 2) W2 := by rw [hW2]; exact kc
  rw [hW] at hkc
  clear kc hb2 cc1 hv gW gW2 hW2
  go_enter Tryz.func103, Tryz.ntmps103
  go_wp2
  go_loopw [3, 4, 5] (fun rv pv i U => ∃ (k : Nat) (W0 : World) (L : List (List Int)) (cur : List Int), k ≤ t.length ∧ i = .int .i64 k ∧ W.grownBy W0 none ∧ W0.grownBy U none ∧ DoR W.heap.size W0 rv (txr L) ∧ Bw W0.heap.size U pv cur ∧ spl [47, 42] (t ++ [42, 47]) = L ++ spl cur (t.drop k ++ [42, 47]))
    (fun _ _ i _ => t.length - (intOf i).toNat)
  case atStart => exact ⟨0, W, [], [47, 42], Nat.zero_le _, rfl, World.grownBy.refl _ _, GW2.out, DoR.nil _ _, HB2.out, by simp⟩
  case round =>
    obtain ⟨k, W0, L, cur, hk, rfl, g0, gU, ho, hb, hsp⟩ := hrel
    have gWr := grown_trans g0 gU
    have hc1' := gWr.cell HC1.out (by simp)
    have HSP := hide hsp
    have HO := hide ho
    have HB := hide hb
    have G0 := hide g0
    have GU := hide gU
    have hlen : lenL L + cur.length + (t.length - k) ≤ t.length + 10 := by
      have h1 := congrArg lenL hsp
      rw [spl_lenL, lenL_app, spl_lenL] at h1
      simp only [List.length_append, List.length_cons, List.length_nil, List.length_drop] at h1
      omega
    have hml := mess_txr L
    have hmll := mess_len (txr L)
    obtain ⟨ra, rc, hrv, _, _⟩ := ho.sl
    obtain ⟨pa, pc, hpv, _, _⟩ := hb.sl
    subst hrv hpv
    clear hsp ho hb g0 gU
    by_cases hlt : k < t.length
    · have hdr : t.drop k = (t[k]?.getD 0) :: t.drop (k + 1) := by rw [List.drop_eq_getElem_cons hlt]; simp [hlt]
      obtain ⟨a', cap', e, hr⟩ := (HV.out.keep GW.out).keep gWr
      simp only [Value.slice.injEq, true_and] at e
      obtain ⟨rfl, rfl⟩ := e
      obtain ⟨b, off, rfl, hbb, hc⟩ := hr (fun e => by rw [e] at hlt; simp at hlt)
      have hck := hc k hlt
      have HDR := hide hdr
      clear hr hc hdr
      generalize t[k]?.getD 0 = p at *
      by_cases hp : p = 10
      · subst hp
        have hoW : DoR W.heap.size wr (.slice ra (txr L).length rc) (txr L) := HO.out.keep GU.out
        have hWz := gWr.size
        have HC := hide (l6text_any (.slice pa cur.length pc) cur wr HB.out.rd (by omega))
        have HW := hide hoW
        clear hoW
        go_wp2_with fail
        refine HC.out.mono ?_
        rintro e w1 ⟨v1, rfl, o1, g1⟩
        obtain ⟨v2, w2, run2, o2, g2, g2', ⟨a2, c2, hv2⟩, h2⟩ := HW.out.push g1 o1 (by omega) (by omega)
        obtain ⟨a1, c1, hv1, _, _⟩ := o1.sl
        have gW2' : W.grownBy w2 none := grown_new gWr g2 (fun j e => (HO.out.lt j e).1)
        have hWz2 := gW2'.size
        have HO2 := hide o2
        have HX := hide (l2leaf_any 5 w2)
        have hlt2 : ∀ x, v2.ownBlock = some x → W.heap.size ≤ x := fun x e => (o2.lt x e).1
        have HL2 := hide hlt2
        have GW2' := hide gW2'
        subst hv1 hv2
        clear HC o1 o2 g1 g2 g2' h2 hlt2 gW2'
        go_wp2_with fail
        refine HX.out.mono ?_
        rintro e w3 ⟨v3, rfl, o3, g3⟩
        obtain ⟨v4, w4, run4, o4, g4, _, ⟨a4, c4, hv4⟩, _⟩ := HO2.out.push g3 o3 (by omega) (by simp; omega)
        obtain ⟨a3, c3, hv3, _, _⟩ := o3.sl
        have HG4 := hide (grown_new GW2'.out g4 HL2.out)
        have HO4 : Hid (DoR W.heap.size w4 v4 (txr (L ++ [cur]))) := by unfold Hid; rw [txr_snoc]; exact o4
        have HS4 : Hid (spl [47, 42] (t ++ [42, 47]) = (L ++ [cur]) ++ spl [] (t.drop (k + 1) ++ [42, 47])) := by
          unfold Hid
          rw [HSP.out, HDR.out, List.cons_append, spl, if_pos rfl]
          simp
        have hll : (txr L ++ [textP cur]).length + 1 = (txr L).length + 1 + 1 := by simp
        rw [hll] at hv4
        subst hv3 hv4
        clear HX o3 o4 g3 g4 HO2 HSP HDR HW
        go_wp2
        go_roundw
        case rel => exact ⟨k + 1, w4, L ++ [cur], [], by omega, by go_num, HG4.out, World.grownBy.refl _ _, HO4.out, Bw.nil _ _, HS4.out⟩
        case measure => simp [intOf]; omega
      · obtain ⟨v2, w2, run2, o2, g2, a2, c2, hv2⟩ := bw_one W0.heap.size wr (.slice pa cur.length pc) cur p HB.out GU.out.size (by omega)
        have HG2 := hide (grown_new GU.out g2 (fun j e => (HB.out.lt j e).1))
        have HO2 := hide o2
        have HS2 : Hid (spl [47, 42] (t ++ [42, 47]) = L ++ spl (cur ++ [p]) (t.drop (k + 1) ++ [42, 47])) := by
          unfold Hid
          rw [HSP.out, HDR.out, List.cons_append, spl, if_neg hp]
        subst hv2
        clear o2 g2 HSP HDR
        go_wp2
        go_roundw
        case rel => exact ⟨k + 1, W0, L, cur ++ [p], by omega, by go_num, G0.out, HG2.out, HO.out, HO2.out, HS2.out⟩
        case measure => simp [intOf]; omega
    · have hkn : t.drop k = [] := List.drop_of_length_le (by omega)
      have hsp : spl [] (47 :: 42 :: t ++ [42, 47]) = L ++ [cur ++ [42, 47]] := by
        have h1 := HSP.out
        rw [hkn] at h1
        rw [show (47 :: 42 :: t ++ [42, 47] : List Int) = 47 :: 42 :: (t ++ [42, 47]) by simp, spl, if_neg (by omega), spl, if_neg (by omega)]
        simpa [spl] using h1
      have HSE := hide (show rawR (spl [] (47 :: 42 :: t ++ [42, 47])) = txr L ++ [textP (cur ++ [42, 47])] by rw [hsp, raw_flat]; rfl)
      obtain ⟨v2, w2, run2, o2, g2⟩ := bw_str W0.heap.size wr (.slice pa cur.length pc) cur [42, 47] HB.out (by intro z hz; simp at hz; omega) (by simp) GU.out.size (by simp; omega)
      rw [show strOfNums [42, 47] = { data := #[42, 47] } by rfl] at run2
      have G02 := grown_new GU.out g2 (fun j e => (HB.out.lt j e).1)
      have HC := hide (l6text_any v2 _ w2 o2.rd (by simp; omega))
      have HW := hide (HO.out.keep G02)
      have GW02 := hide (grown_trans G0.out G02)
      have hWz := GW02.out.size
      obtain ⟨a2, c2, hv2, _, _⟩ := o2.sl
      have hl2 : (cur ++ ([42, 47] : List Int)).length = cur.length + 2 := by simp
      rw [hl2] at hv2
      clear hl2
      subst hv2
      clear o2 g2 hsp hkn
      go_wp2_with fail
      refine HC.out.mono ?_
      rintro e w3 ⟨v3, rfl, o3, g3⟩
      obtain ⟨v4, w4, run4, o4, g4, _, ⟨a4, c4, hv4⟩, _⟩ := HW.out.push g3 o3 (by omega) (by omega)
      obtain ⟨a3, c3, hv3, _, _⟩ := o3.sl
      have gW4 := grown_new GW02.out g4 (fun j e => (HO.out.lt j e).1)
      have hWz4 := gW4.size
      have hwW : w.heap.size ≤ W.heap.size := GW.out.size
      have HR := hide (l6row_any v4 _ W.heap.size w4 o4.di hWz4 (by rw [mess_app]; simp only [mess, textP, mes, List.length_append, List.length_cons, List.length_nil]; omega))
      have GW4 := hide (grown_trans GW.out gW4)
      subst hv3 hv4
      clear HC o3 o4 g3 g4 HW gW4
      go_wp2_with fail
      refine HR.out.mono ?_
      rintro e w5 ⟨v5, rfl, o5, g5⟩
      obtain ⟨a5, c5, hv5, _, _⟩ := o5.sl
      have HO5 := hide (o5.base hwW)
      have HG5 := hide (grown_trans GW4.out g5)
      generalize (rowP (txr L ++ [textP (cur ++ [42, 47])])).length = L5 at *
      subst hv5
      clear o5 g5 HR
      go_wp2
      go_ret
      refine ⟨_, rfl, ?_, HG5.out⟩
      have hfin := HO5.out
      rw [← HSE.out] at hfin
      exact hfin
end Go.Proofs.YtakkdniikhgpdaaGreatDoor

namespace Go.Proofs.YtakkdniikhgpdaaGreatDoor
open Go.RowKit
attribute [-go_sem] Builtin.append_

theorem l6comment_any (c : Cm) (tv : Value) (w : World) (hv : RdB w.heap.size w tv c.t) (hs : Sl tv c.t.length) (hn : c.t.length ≤ 1000000) :
    Calls Tryz.prog 103 #[.agg #[.bool c.b, tv]] w fun e w' => ∃ v', e = .returned v' ∧ PoR w.heap.size w' v' (comP' c) ∧ w.grownBy w' none := by
  obtain ⟨b, t⟩ := c
  cases b with
  | false => exact l6comment_line t tv w hv hs (Nat.le_trans hn (by omega))
  | true => exact l6comment_block t tv w hv hs hn

theorem wC_mem (cs : List Cm) : ∀ c ∈ cs, 4 * c.t.length + 30 ≤ wC cs := by
  induction cs with
  | nil => simp
  | cons d cs ih =>
    intro c hc
    simp only [wC]
    rcases List.mem_cons.1 hc with rfl | h
    · omega
    · have := ih c h; omega
theorem wC_len (cs : List Cm) : 30 * cs.length ≤ wC cs := by
  induction cs with
  | nil => simp
  | cons d cs ih => simp only [wC, List.length_cons]; omega
theorem mess_take (cs : List Cm) (k : Nat) : mess (befP (cs.take k)) ≤ wC cs ∧ mess (aftP (cs.take k)) ≤ wC cs := by
  have h : wC (cs.take k) ≤ wC cs := by
    have h2 : ∀ (a b : List Cm), wC (a ++ b) = wC a + wC b := by
      intro a b
      induction a with
      | nil => simp [wC]
      | cons c a ih => simp only [List.cons_append, wC, ih]; omega
    have h3 := h2 (cs.take k) (cs.drop k)
    rw [List.take_append_drop] at h3
    omega
  exact ⟨Nat.le_trans (mess_bef _) h, Nat.le_trans (mess_aft _) h⟩

theorem rdB_below {q : IntKind} {B : Nat} {w w' : World} {v : Value} {zs : List Int} (h : Rd q B w v zs) (g : Below B w w') (hB : B ≤ w.heap.size) : Rd q w'.heap.size w' v zs := by
  obtain ⟨a, cap, e, hr⟩ := h
  refine ⟨a, cap, e, fun h0 => ?_⟩
  obtain ⟨b, off, ha, hb, hc⟩ := hr h0
  have := g.size
  exact ⟨b, off, ha, by omega, fun j hj => by rw [g.cell (by simpa using hb)]; exact hc j hj⟩
theorem rdC_below {B : Nat} {w w' : World} {v : Value} {cs : List Cm} (h : RdC B w v cs) (g : Below B w w') : RdC B w' v cs := by
  obtain ⟨a, cap, hv, h1, h2, hh⟩ := h
  refine ⟨a, cap, hv, h1, h2, fun h0 => ?_⟩
  obtain ⟨b, off, ha, hb, hc⟩ := hh h0
  refine ⟨b, off, ha, hb, fun j p hp => ?_⟩
  obtain ⟨tv, c0, c1, ⟨a2, cap2, e2, hr2⟩, hs⟩ := hc j p hp
  refine ⟨tv, by rw [g.cell (by simpa using hb)]; exact c0, by rw [g.cell (by simpa using hb)]; exact c1, ⟨a2, cap2, e2, fun h3 => ?_⟩, hs⟩
  obtain ⟨b2, off2, ha2, hb2, hc2⟩ := hr2 h3
  exact ⟨b2, off2, ha2, hb2, fun j hj => by rw [g.cell (by simpa using hb2)]; exact hc2 j hj⟩

set_option maxHeartbeats 4000000 in
set_option maxRecDepth 100000 in
theorem l6before_any (rv cv : Value) (dss : List (List Pc)) (cs : List Cm) (B : Nat) (w : World) (ho : DoR B w rv dss) (hB : B ≤ w.heap.size) (hc : RdC B w cv cs) (hn : wC cs ≤ 4000000) (hd : dss.length ≤ 100000000) :
    Calls Tryz.prog 100 #[rv, cv] w fun e w' => ∃ v', e = .returned v' ∧ DoR B w' v' (dss ++ befP cs) ∧ Below B w w' := by
  have HRC := hide hc
  have hwl := wC_len cs
  obtain ⟨a, cap, hcv, _, _, _⟩ := id hc
  obtain ⟨ra0, rc0, hrv, _, _⟩ := ho.sl
  have HO0 := hide ho
  subst hcv hrv
  clear hc ho
  go_enter Tryz.func100, Tryz.ntmps100
  go_wp2
  go_loopw [0, 5] (fun r i W => ∃ (k : Nat), k ≤ cs.length ∧ i = .int .i64 k ∧ DoR B W r (dss ++ befP (cs.take k)) ∧ Below B w W)
    (fun _ i _ => cs.length - (intOf i).toNat)
  case atStart => exact ⟨0, Nat.zero_le _, rfl, by simpa [befP] using HO0.out, Below.refl _ _⟩
  case round =>
    obtain ⟨k, hk, rfl, ho, hbel⟩ := hrel
    have hsz := hbel.size
    have HRr : RdC B wr (.slice a cs.length cap) cs := by
      have hg : wr.heap.size = wr.heap.size := rfl
      exact rdC_below HRC.out hbel
    obtain ⟨ra, rc, hrv, _, _⟩ := ho.sl
    by_cases hlt : k < cs.length
    · obtain ⟨b, off, cap', tv, hva, hbb, c0, c1, hrd, hsl⟩ := HRr.at k hlt
      cases hva
      have hm := wC_mem cs cs[k] (List.getElem_mem hlt)
      have hml := (mess_take cs k).1
      have hlen : (dss ++ befP (cs.take k)).length ≤ 200000000 := by have := mess_len (befP (cs.take k)); rw [List.length_append]; omega
      have HC : Hid (∀ W : World, Below B wr W → _) := fun W (g : Below B wr W) => l6comment_any cs[k] tv W (rdB_below hrd g (by omega)) hsl (by omega)
      have HL : Hid (∀ W : World, _) := fun W => l2leaf_any 4 W
      obtain ⟨ta, tc, htv, _, _⟩ := hsl
      have HE : Hid (dss ++ befP (cs.take (k + 1)) = (dss ++ befP (cs.take k)) ++ [comP' cs[k]] ++ [leafP 4]) := by
        unfold Hid
        rw [show cs.take (k + 1) = cs.take k ++ [cs[k]] by rw [List.take_add_one]; simp [hlt], befP_snoc]
        simp
      have HO := hide ho
      have HBEL := hide hbel
      generalize hLL : (dss ++ befP (cs.take k)).length = LL at *
      subst htv hrv
      clear hrd ho HRr hbel
      have hLB : ∀ x, (Value.slice ra LL rc).ownBlock = some x → B ≤ x := fun x e => (HO.out.lt x e).1
      generalize cs[k] = c at *
      go_wp2_with fail
      refine (HC.out _ (Below.refl _ _)).mono ?_
      rintro e w1 ⟨v1, rfl, o1, g1⟩
      obtain ⟨v2, w2, run2, o2, g2, g2', ⟨a2, c2, hv2⟩, h2⟩ := HO.out.push g1 o1 (by omega) (by omega)
      obtain ⟨a1, c1', hv1, _, _⟩ := o1.sl
      have hbel2 : Below B wr w2 := (Below.refl B wr).grown g2 (by omega) hLB
      have hsz2 := hbel2.size
      have c0' : w2.cell? ⟨b, off + k * 2, none⟩ = some (.bool c.b) := by rw [hbel2.cell (by simp; omega)]; exact c0
      have c1'' : w2.cell? ⟨b, off + k * 2 + 1, none⟩ = some (.slice ta c.t.length tc) := by rw [hbel2.cell (by simp; omega)]; exact c1
      have HB2 := hide hbel2
      have HO2 := hide o2
      rw [hLL] at hv2
      have HL2 : Hid (∀ x, v2.ownBlock = some x → B ≤ x) := fun x e => (o2.lt x e).1
      subst hv1 hv2
      clear o1 o2 g1 g2 g2' h2 hbel2
      go_wp2_with fail
      refine (HL.out _).mono ?_
      rintro e w3 ⟨v3, rfl, o3, g3⟩
      obtain ⟨v4, w4, run4, o4, g4, _, ⟨a4, c4, hv4⟩, _⟩ := HO2.out.push g3 o3 (by omega) (by rw [List.length_append, hLL]; simp; omega)
      obtain ⟨a3, c3, hv3, _, _⟩ := o3.sl
      rw [List.length_append, hLL, List.length_singleton] at hv4
      have HB4 := hide (HBEL.out.trans (HB2.out.trans ((Below.refl B w2).grown g4 (by omega) HL2.out)))
      have HO4 : Hid (DoR B w4 v4 (dss ++ befP (cs.take (k + 1)))) := by unfold Hid; rw [HE.out]; exact o4
      subst hv3 hv4
      clear o3 o4 g3 g4 HE HO2 HO HC HL hLL c0 c1 c0' c1''
      go_wp2
      go_roundw
      case rel => exact ⟨k + 1, by omega, by go_num, HO4.out, HB4.out⟩
      case measure => simp [intOf]; omega
    · have hkn : k = cs.length := by omega
      subst hkn
      rw [List.take_length] at ho hrv
      have HO := hide ho
      subst hrv
      clear ho HRr
      generalize (dss ++ befP cs).length = LL at *
      go_wp2
      go_ret
      exact ⟨_, rfl, HO.out, hbel⟩

set_option maxHeartbeats 4000000 in
set_option maxRecDepth 100000 in
theorem l6after_any (rv cv : Value) (dss : List (List Pc)) (cs : List Cm) (B : Nat) (w : World) (ho : DoR B w rv dss) (hB : B ≤ w.heap.size) (hc : RdC B w cv cs) (hn : wC cs ≤ 4000000) (hd : dss.length ≤ 100000000) :
    Calls Tryz.prog 96 #[rv, cv] w fun e w' => ∃ v', e = .returned v' ∧ DoR B w' v' (dss ++ aftP cs) ∧ Below B w w' := by
  have HRC := hide hc
  have hwl := wC_len cs
  obtain ⟨a, cap, hcv, _, _, _⟩ := id hc
  obtain ⟨ra0, rc0, hrv, _, _⟩ := ho.sl
  have HO0 := hide ho
  subst hcv hrv
  clear hc ho
  go_enter Tryz.func96, Tryz.ntmps96
  go_wp2
  go_loopw [0, 5] (fun r i W => ∃ (k : Nat), k ≤ cs.length ∧ i = .int .i64 k ∧ DoR B W r (dss ++ aftP (cs.take k)) ∧ Below B w W)
    (fun _ i _ => cs.length - (intOf i).toNat)
  case atStart => exact ⟨0, Nat.zero_le _, rfl, by simpa [aftP] using HO0.out, Below.refl _ _⟩
  case round =>
    obtain ⟨k, hk, rfl, ho, hbel⟩ := hrel
    have hsz := hbel.size
    have HRr : RdC B wr (.slice a cs.length cap) cs := by
      have hg : wr.heap.size = wr.heap.size := rfl
      exact rdC_below HRC.out hbel
    obtain ⟨ra, rc, hrv, _, _⟩ := ho.sl
    by_cases hlt : k < cs.length
    · obtain ⟨b, off, cap', tv, hva, hbb, c0, c1, hrd, hsl⟩ := HRr.at k hlt
      cases hva
      have hm := wC_mem cs cs[k] (List.getElem_mem hlt)
      have hml := (mess_take cs k).2
      have hlen : (dss ++ aftP (cs.take k)).length ≤ 200000000 := by have := mess_len (aftP (cs.take k)); rw [List.length_append]; omega
      have HC : Hid (∀ W : World, Below B wr W → _) := fun W (g : Below B wr W) => l6comment_any cs[k] tv W (rdB_below hrd g (by omega)) hsl (by omega)
      have HL : Hid (∀ W : World, _) := fun W => l2leaf_any 4 W
      obtain ⟨ta, tc, htv, _, _⟩ := hsl
      have HE : Hid (dss ++ aftP (cs.take (k + 1)) = (dss ++ aftP (cs.take k)) ++ [leafP 4] ++ [comP' cs[k]]) := by
        unfold Hid
        rw [show cs.take (k + 1) = cs.take k ++ [cs[k]] by rw [List.take_add_one]; simp [hlt], aftP_snoc]
        simp
      have HO := hide ho
      have HBEL := hide hbel
      generalize hLL : (dss ++ aftP (cs.take k)).length = LL at *
      subst htv hrv
      clear hrd ho HRr hbel
      have hLB : ∀ x, (Value.slice ra LL rc).ownBlock = some x → B ≤ x := fun x e => (HO.out.lt x e).1
      generalize cs[k] = c at *
      go_wp2_with fail
      refine (HL.out _).mono ?_
      rintro e w1 ⟨v1, rfl, o1, g1⟩
      obtain ⟨v2, w2, run2, o2, g2, g2', ⟨a2, c2, hv2⟩, h2⟩ := HO.out.push g1 o1 (by omega) (by omega)
      obtain ⟨a1, c1', hv1, _, _⟩ := o1.sl
      have hbel2 : Below B wr w2 := (Below.refl B wr).grown g2 (by omega) hLB
      have hsz2 := hbel2.size
      have c0' : w2.cell? ⟨b, off + k * 2, none⟩ = some (.bool c.b) := by rw [hbel2.cell (by simp; omega)]; exact c0
      have c1'' : w2.cell? ⟨b, off + k * 2 + 1, none⟩ = some (.slice ta c.t.length tc) := by rw [hbel2.cell (by simp; omega)]; exact c1
      have HB2 := hide hbel2
      have HO2 := hide o2
      rw [hLL] at hv2
      have HL2 : Hid (∀ x, v2.ownBlock = some x → B ≤ x) := fun x e => (o2.lt x e).1
      subst hv1 hv2
      clear o1 o2 g1 g2 g2' h2 hbel2
      go_wp2_with fail
      refine (HC.out _ HB2.out).mono ?_
      rintro e w3 ⟨v3, rfl, o3, g3⟩
      obtain ⟨v4, w4, run4, o4, g4, _, ⟨a4, c4, hv4⟩, _⟩ := HO2.out.push g3 o3 (by omega) (by rw [List.length_append, hLL]; simp; omega)
      obtain ⟨a3, c3, hv3, _, _⟩ := o3.sl
      rw [List.length_append, hLL, List.length_singleton] at hv4
      have HB4 := hide (HBEL.out.trans (HB2.out.trans ((Below.refl B w2).grown g4 (by omega) HL2.out)))
      have HO4 : Hid (DoR B w4 v4 (dss ++ aftP (cs.take (k + 1)))) := by unfold Hid; rw [HE.out]; exact o4
      subst hv3 hv4
      clear o3 o4 g3 g4 HE HO2 HO HC HL hLL c0 c1 c0' c1''
      go_wp2
      go_roundw
      case rel => exact ⟨k + 1, by omega, by go_num, HO4.out, HB4.out⟩
      case measure => simp [intOf]; omega
    · have hkn : k = cs.length := by omega
      subst hkn
      rw [List.take_length] at ho hrv
      have HO := hide ho
      subst hrv
      clear ho HRr
      generalize (dss ++ aftP cs).length = LL at *
      go_wp2
      go_ret
      exact ⟨_, rfl, HO.out, hbel⟩

end Go.Proofs.YtakkdniikhgpdaaGreatDoor

