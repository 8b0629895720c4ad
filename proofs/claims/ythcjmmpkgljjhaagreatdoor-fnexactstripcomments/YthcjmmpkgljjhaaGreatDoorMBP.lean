import Derived.Test.YthcjmmpkgljjhaaGreatDoorMBO
namespace Go.Proofs.YthcjmmpkgljjhaaGreatDoor
open Go.RowKit

theorem grown_setS (w : World) (b j : Nat) (x : Value) : w.grownBy (w.setCell ⟨b, j, none⟩ x) (some b) := ⟨rfl, rfl, rfl, by simp, fun i _ hn => Below.heap_setCell _ _ _ _ (fun e => hn (by rw [e]))⟩

/-- What the model lays into a node. -/
def str2 (xs : List Value) (o : Nat) : List Value := (xs.set (o + 1) (.slice none 0 0)).set (o + 7) (.slice none 0 0)
theorem At8.ne2 {xs : List Value} {o' : Nat} {p : Nod} {lv kv xv uv tv : Value} (h : At8 xs o' p lv kv xv uv tv) (o : Nat) (hj : o' + 8 ≤ o ∨ o + 8 ≤ o') : At8 (str2 xs o) o' p lv kv xv uv tv := by
  obtain ⟨e0, e1, e2, e3, e4, e5, e6, e7⟩ := h
  have ne : ∀ i u, (i < o ∨ o + 8 ≤ i) → xs[i]? = some u → (str2 xs o)[i]? = some u := fun i u hi h => by
    unfold str2
    rw [List.getElem?_set_ne (by omega), List.getElem?_set_ne (by omega)]; exact h
  exact ⟨ne _ _ (by omega) e0, ne _ _ (by omega) e1, ne _ _ (by omega) e2, ne _ _ (by omega) e3, ne _ _ (by omega) e4, ne _ _ (by omega) e5, ne _ _ (by omega) e6, ne _ _ (by omega) e7⟩
theorem At8.str2 {xs : List Value} {o : Nat} {p : Nod} {lv kv xv uv tv : Value} (h : At8 xs o p lv kv xv uv tv) (hl : o + 8 ≤ xs.length) : At8 (str2 xs o) o p (.slice none 0 0) kv xv uv (.slice none 0 0) := by
  obtain ⟨e0, e1, e2, e3, e4, e5, e6, e7⟩ := h
  have ne : ∀ i u, i ≠ o + 1 → i ≠ o + 7 → xs[i]? = some u → (Go.Proofs.YthcjmmpkgljjhaaGreatDoor.str2 xs o)[i]? = some u := fun i u h1 h2 h => by
    unfold Go.Proofs.YthcjmmpkgljjhaaGreatDoor.str2
    rw [List.getElem?_set_ne (Ne.symm h2), List.getElem?_set_ne (Ne.symm h1)]; exact h
  refine ⟨ne _ _ (by omega) (by omega) e0, ?_, ne _ _ (by omega) (by omega) e2, ne _ _ (by omega) (by omega) e3, ne _ _ (by omega) (by omega) e4, ne _ _ (by omega) (by omega) e5, ne _ _ (by omega) (by omega) e6, ?_⟩
  · unfold Go.Proofs.YthcjmmpkgljjhaaGreatDoor.str2
    rw [List.getElem?_set_ne (by omega), List.getElem?_set_self (by omega)]
  · unfold Go.Proofs.YthcjmmpkgljjhaaGreatDoor.str2
    rw [List.getElem?_set_self (by simp only [List.length_set]; omega)]

/-- Nodes copied, the first k of them with no comments. -/
def Emptied (B : Nat) (w : World) (v : Value) (k : Nat) (ns : List Nod) (xs : List Value) : Prop :=
  ∀ j p, ns[j]? = some p → ∃ a n c t a' n' c', At8 xs (j * 8) p (.slice a n c) t.1 t.2.1 t.2.2 (.slice a' n' c') ∧ (j < k → Value.slice a n c = .slice none 0 0 ∧ Value.slice a' n' c' = .slice none 0 0) ∧ Own3 B w p t ∧ Apr v.ownBlock t

set_option maxHeartbeats 8000000 in
set_option maxRecDepth 100000 in
theorem specStrip_any (nv tv : Value) (t : Tre) (vv : Bool) (w : World) (hv : RdT' w.heap.size w nv tv t) (hok : TOk t)
    (hvalid : ∀ W : World, RdT' W.heap.size W nv tv t → Calls Tryz.prog 13 #[.agg #[nv, tv]] W fun e w'' => e = .returned (.bool vv) ∧ W.grownBy w'' none) :
    Calls Tryz.prog 5 #[.agg #[nv, tv]] w fun e w' => ∃ nv', e = .returned (.agg #[nv', .slice none 0 0]) ∧ RdN w'.heap.size w' nv' (if vv = true then t.nodes.map stripN else []) ∧ w.grownBy w' none := by
  obtain ⟨hvn, hvt⟩ := id hv
  obtain ⟨na, ncap, hn0, _⟩ := id hvn
  obtain ⟨ta, tcap, ht0, _⟩ := id hvt
  have HRd : Hid (∀ W : World, w.grownBy W none → RdT' W.heap.size W nv tv t) := fun W g => ⟨(hvn.keep g).wide g.size, (hvt.keep g).wide g.size⟩
  have HV : Hid (∀ W : World, w.grownBy W none → _) := fun W (g : w.grownBy W none) => hvalid W (HRd.out W g)
  have HCp : Hid (∀ W : World, w.grownBy W none → _) := fun W (g : w.grownBy W none) => l5copy_any nv tv t W (HRd.out W g) hok
  have hnl := hok.n
  subst hn0 ht0
  clear hv hvn hvt hok hvalid HRd
  have gA := hide (grown_trans (World.grownBy_alloc w (Obj.cells #[.slice na t.nodes.length ncap, .slice ta t.tail.length tcap] 30) none) (World.grownBy_alloc _ (Obj.cells #[.slice none 0 0, .slice none 0 0] 30) _))
  go_enter Tryz.func5, Tryz.ntmps5
  go_wp2_with fail
  refine (HV.out _ gA.out).mono ?_
  rintro e w1 ⟨rfl, g1⟩
  have q0 := g1.cell (a := ⟨w.heap.size, 0, none⟩) (v := .slice na t.nodes.length ncap) (by simp [go_sem]) (by simp)
  have q1 := g1.cell (a := ⟨w.heap.size, 1, none⟩) (v := .slice ta t.tail.length tcap) (by simp [go_sem]) (by simp)
  obtain ⟨r0, r0f⟩ := grown_bothC (a := ⟨w.heap.size + 1, 0, none⟩) (v := .slice none 0 0) g1 (by simp [go_sem]) (by simp [go_sem])
  obtain ⟨r1, r1f⟩ := grown_bothC (a := ⟨w.heap.size + 1, 1, none⟩) (v := .slice none 0 0) g1 (by simp [go_sem]) (by simp [go_sem])
  have G1 := hide (grown_trans gA.out g1)
  have hs1 : w.heap.size + 2 ≤ w1.heap.size := by have := g1.size; simp at this; omega
  clear g1 gA HV
  cases vv with
  | false =>
    clear HCp
    go_wp2
    refine bodyPost_ret (v := .agg #[.slice none 0 0, .slice none 0 0]) (by simp [results, Tryz.results5, go_sem, r0, r1]) rfl ?_
    refine ⟨_, rfl, ⟨none, 0, rfl, by simp, by unfold maxLen; omega, fun h => absurd rfl h⟩, ?_⟩
    exact grown_of_below (((below_of_grown G1.out).setCell (by simp) _).setCell (by simp) _)
  | true =>
    go_wp2_with fail
    refine (HCp.out _ G1.out).mono ?_
    rintro e w2 ⟨nv2, a2, n2, c2, rfl, hcp, g2⟩
    obtain ⟨xs, hrow, hts⟩ := hcp
    obtain ⟨oa, ocp, rfl⟩ := row_slice hrow
    obtain ⟨r0, r0f⟩ := grown_bothC g2 r0 r0f
    obtain ⟨r1, r1f⟩ := grown_bothC g2 r1 r1f
    have G2 := hide (grown_trans G1.out g2)
    have hs2 := g2.size
    have hsB : w1.heap.size ≤ w2.heap.size := hs2
    have HE : Hid (Emptied w1.heap.size w2 (.slice oa t.nodes.length ocp) 0 t.nodes xs) := fun j p hp => by
      obtain ⟨a, n, c, t3, a', n', c', h1, h2, h3⟩ := hts j p (List.getElem?_eq_some_iff.1 hp).1 hp
      exact ⟨a, n, c, t3, a', n', c', h1, fun h => absurd h (by omega), h2, h3⟩
    have HROW := hide hrow
    clear g2 HCp q0 q1 hts hrow
    go_wp2
    go_loopw [4] (fun i W => ∃ (k : Nat) (xs : List Value), k ≤ t.nodes.length ∧ i = .int .i64 k ∧ W.ownsRow w1.heap.size 42 8 (.slice oa t.nodes.length ocp) t.nodes.length xs ∧ Hid (Emptied w1.heap.size W (.slice oa t.nodes.length ocp) k t.nodes xs) ∧ Below w1.heap.size w2 W ∧
        W.cell? ⟨w2.heap.size, 0, none⟩ = some (.slice oa t.nodes.length ocp) ∧ W.cell? ⟨w2.heap.size, 1, none⟩ = some (.slice none 0 0)) (fun i _ => t.nodes.length - (intOf i).toNat)
    case atStart =>
      have gB := World.grownBy_alloc w2 (Obj.cells #[.slice oa t.nodes.length ocp, .slice none 0 0] 30) none
      refine ⟨0, xs, Nat.zero_le _, rfl, World.ownsRow.kept HROW.out gB (by cases (Value.slice oa t.nodes.length ocp).ownBlock <;> simp), fun j p hp => ?_, (Below.refl _ _).alloc hsB _, by simp [go_sem], by simp [go_sem]⟩
      obtain ⟨a, n, c, t3, a', n', c', h1, h2, h3, h4⟩ := HE.out j p hp
      exact ⟨a, n, c, t3, a', n', c', h1, h2, h3.later gB, h4⟩
    case round =>
      obtain ⟨k, xs', hk, rfl, hrow, HEr, hbel, oc, o1⟩ := hrel
      have HBEL := hide hbel
      by_cases hlt : k < t.nodes.length
      · obtain ⟨g, rfl⟩ : ∃ g, oa = some ⟨g, 0, none⟩ := by
          rcases hrow.2 with ⟨_, h⟩ | ⟨g, cap, cur, hv, _⟩
          · omega
          · cases hv; exact ⟨g, rfl⟩
        have hg := World.ownsRow.lt HROW.out g rfl
        have hxl := hrow.1
        have hc1 := World.ownsRow.cellAt hrow (k * 8 + 1) (by omega)
        rw [List.getElem?_eq_getElem (by omega)] at hc1
        have hf1 := World.ownsRow.frozenAt hrow (k * 8 + 1)
        have hc7 := World.ownsRow.cellAt hrow (k * 8 + 7) (by omega)
        rw [List.getElem?_eq_getElem (by omega)] at hc7
        have hf7 := World.ownsRow.frozenAt hrow (k * 8 + 7)
        have hs0 := (World.ownsRow.stored hrow (k * 8 + 1) (.slice none 0 0)).1
        have hs1' := (World.ownsRow.stored hs0 (k * 8 + 7) (.slice none 0 0)).1
        have HS : Hid (((wr.setCell ⟨g, k * 8 + 1, none⟩ (.slice none 0 0)).setCell ⟨g, k * 8 + 7, none⟩ (.slice none 0 0)).ownsRow w1.heap.size 42 8 (.slice (some ⟨g, 0, none⟩) t.nodes.length ocp) t.nodes.length (str2 xs' (k * 8))) := hs1'
        have HE2 : Hid (Emptied w1.heap.size ((wr.setCell ⟨g, k * 8 + 1, none⟩ (.slice none 0 0)).setCell ⟨g, k * 8 + 7, none⟩ (.slice none 0 0)) (.slice (some ⟨g, 0, none⟩) t.nodes.length ocp) (k + 1) t.nodes (str2 xs' (k * 8))) := fun j p hp => by
          obtain ⟨a, n, c, t3, a', n', c', h1, h2, h3, h4⟩ := HEr.out j p hp
          have h3' := (h3.row h4 (grown_setS wr g (k * 8 + 1) (.slice none 0 0))).row h4 (grown_setS _ g (k * 8 + 7) (.slice none 0 0))
          have hjl := (List.getElem?_eq_some_iff.1 hp).1
          by_cases hjk : j = k
          · subst hjk
            exact ⟨none, 0, 0, t3, none, 0, 0, h1.str2 (by omega), fun _ => ⟨rfl, rfl⟩, h3', h4⟩
          · exact ⟨a, n, c, t3, a', n', c', h1.ne2 _ (by omega), fun h => h2 (by omega), h3', h4⟩
        have HB2 := hide ((hbel.setCell (p := ⟨g, k * 8 + 1, none⟩) hg.1 (.slice none 0 0)).setCell (p := ⟨g, k * 8 + 7, none⟩) hg.1 (.slice none 0 0))
        have hgn : g ≠ w2.heap.size := by omega
        clear hs0 hs1' hrow hbel HEr
        go_wp2
        go_roundw
        case rel => exact ⟨k + 1, _, by omega, by go_num, HS.out, HE2.out, HB2.out, by simp [go_sem, oc], by simp [go_sem, o1]⟩
        case measure => simp [intOf]; omega
      · have hkn : k = t.nodes.length := by omega
        subst hkn
        have z0 : wr.cell? ⟨w.heap.size + 1, 0, none⟩ = some (.slice none 0 0) := by rw [hbel.cell (by simp; omega)]; exact r0
        have z1 : wr.cell? ⟨w.heap.size + 1, 1, none⟩ = some (.slice none 0 0) := by rw [hbel.cell (by simp; omega)]; exact r1
        have f0 : wr.frozen? ⟨w.heap.size + 1, 0, none⟩ = false := by rw [hbel.frozen (by simp; omega)]; exact r0f
        have f1 : wr.frozen? ⟨w.heap.size + 1, 1, none⟩ = false := by rw [hbel.frozen (by simp; omega)]; exact r1f
        have HBw := hide (((below_of_grown G2.out).trans (hbel.mono (by omega))))
        have HRo := hide hrow
        clear hrow hbel
        go_wp2
        refine bodyPost_ret (v := .agg #[.slice oa t.nodes.length ocp, .slice none 0 0]) (by simp [results, Tryz.results5, go_sem, z0, z1]) rfl ?_
        refine ⟨_, rfl, ?_, grown_of_below ((HBw.out.setCell (by simp) _).setCell (by simp) _)⟩
        refine row_rdN (B := w1.heap.size) (xs := xs') (row_setC (row_setC HRo.out _ _ (fun e => by have := (World.ownsRow.lt HRo.out _ e).1; simp only at this; omega)) _ _ (fun e => by have := (World.ownsRow.lt HRo.out _ e).1; simp only at this; omega)) fun j p hp => ?_
        obtain ⟨a, n, c, t3, a', n', c', h1, h2, h3, h4⟩ := HEr.out j p hp
        obtain ⟨e1, e2⟩ := h2 (List.getElem?_eq_some_iff.1 hp).1
        rw [e1, e2] at h1
        exact ⟨t3, w1.heap.size, h1, (h3.set _ _ _ (by omega)).set _ _ _ (by omega)⟩
end Go.Proofs.YthcjmmpkgljjhaaGreatDoor

