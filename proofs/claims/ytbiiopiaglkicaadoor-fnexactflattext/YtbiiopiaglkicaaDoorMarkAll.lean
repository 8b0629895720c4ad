import Derived.Test.YtbiiopiaglkicaaDoorBase
import Derived.Test.YtbiiopiaglkicaaDoorToP
import Derived.Test.YtbiiopiaglkicaaDoorSzP
import Derived.Test.YtbiiopiaglkicaaDoorStarts
namespace Go.Proofs.YtbiiopiaglkicaaDoor
open Go.RowKit

set_option maxHeartbeats 400000 in
set_option maxRecDepth 100000 in
theorem markByteS_any (B : Nat) (v : Value) (zs : List Int) (s : Int) (w : World) (hv : OwB B w v zs) (hn : zs.length ≤ 600000000) (h0 : 0 ≤ s) (h1 : s ≤ 4611686018427387904) :
    Calls Tryd.prog 17 #[v, .int .i64 s] w fun e w' => e = .returned (.int .i64 (s + zs.length)) ∧ OwB B w' v (upto (markB s) zs.length) ∧ w.grownBy w' v.ownBlock := by
  rcases hv.2 with ⟨rfl, hz⟩ | ⟨g, cap, cur, rfl, hb, hg, hnc, hcm, hcs, ht⟩
  · have : zs = [] := List.eq_nil_of_length_eq_zero hz
    subst this
    go_enter Tryd.func17, Tryd.ntmps17
    go_wp2
    refine wp_loop_rounds 1 ?_
    rw [rounds_succ]
    go_wp2
    go_ret
    exact ⟨by simp, hv, World.grownBy.refl _ _⟩
  · clear hg hnc hcm hcs ht
    go_enter Tryd.func17, Tryd.ntmps17
    go_wp2
    go_loopw [1, 5] (fun t i wr => ∃ k : Nat, k ≤ zs.length ∧ i = .int .i64 k ∧ t = .int .i64 (s + k) ∧ wr.ownsRow B 5 1 (.slice (some ⟨g, 0, none⟩) zs.length cap) zs.length ((upto (markB s) k ++ zs.drop k).map (Value.int .u8)) ∧ w.grownBy wr (some g))
      (fun _ i _ => zs.length - (intOf i).toNat)
    case atStart =>
      exact ⟨0, Nat.zero_le _, rfl, by simp, by simpa [upto_zero, Ow] using hv, World.grownBy.refl _ _⟩
    case round =>
      obtain ⟨k, hk, rfl, rfl, hown, hgr⟩ := hrel
      by_cases hlt : k < zs.length
      · have hoc : wr.cell? ⟨g, k, none⟩ = some (.int .u8 (zs[k]?.getD 0)) := by
          rw [World.ownsRow.cellAt hown k (by omega)]; simp [upto_length, List.getElem?_append, hlt]
        have hof := World.ownsRow.frozenAt hown k
        have hst := World.ownsRow.stored hown k (.int .u8 (markB s k))
        rw [mark_step _ (markB s) zs k hlt] at hst
        have hg2 := grown_trans hgr hst.2
        have hst1 := hst.1
        clear hst hv hown
        unfold markB at hst1 hg2
        go_wp2
        go_roundw
        case rel => exact ⟨k + 1, by omega, by go_num, by go_num, hst1, hg2⟩
        case measure => simp [intOf]; omega
      · go_wp2
        go_ret
        have hkn : k = zs.length := by omega
        subst hkn
        refine ⟨rfl, ?_, hgr⟩
        have := hown
        simp only [List.drop_length, List.append_nil] at this
        unfold OwB Ow
        rw [upto_length]
        exact this

set_option maxHeartbeats 400000 in
set_option maxRecDepth 100000 in
theorem heldByteS_any (v : Value) (n : Nat) (s : Int) (w : World) (hv : RdB w.heap.size w v (upto (markB s) n)) (hn : n ≤ 600000000) (h0 : 0 ≤ s) (h1 : s ≤ 4611686018427387904) :
    Calls Tryd.prog 19 #[v, .int .i64 s] w fun e w' => e = .returned (.int .i64 (s + n)) ∧ w = w' := by
  obtain ⟨a, cap, rfl, hr⟩ := hv
  rw [upto_length] at hr ⊢
  go_enter Tryd.func19, Tryd.ntmps19
  go_wp2
  go_loop [1, 5] (fun t i => ∃ k : Nat, k ≤ n ∧ i = .int .i64 k ∧ t = .int .i64 (s + k))
    (fun _ i => n - (intOf i).toNat)
  case atStart => exact ⟨0, Nat.zero_le _, rfl, by simp⟩
  case round =>
    obtain ⟨k, hk, rfl, rfl⟩ := hrel
    by_cases hlt : k < n
    · obtain ⟨b, off, rfl, hb, hc⟩ := hr (fun h => by have := upto_length (markB s) n; rw [h] at this; simp at this; omega)
      have hcx : w.cell? ⟨b, off + k, none⟩ = some (.int .u8 ((s + k) % 256)) := by rw [hc k hlt, upto_get _ n k hlt]; rfl
      clear hc hr hb
      go_wp2
      go_round
      case rel => exact ⟨k + 1, by omega, by go_num, by go_num⟩
      case measure => simp [intOf]; omega
    · go_wp2
      go_ret
      have hkn : k = n := by omega
      subst hkn
      exact ⟨rfl, rfl⟩

/-- A row of elements of one's own, all of whose blocks lie below H. -/
def OwPH (B H : Nat) (w : World) (v : Value) (doc : List Pc) : Prop :=
  ∃ (g : Nat) (tvs : List Value), v = .slice (some ⟨g, 0, none⟩) doc.length doc.length ∧ doc.length ≤ maxLen ∧ w.ownsRow B 49 3 v doc.length (cells3 doc tvs) ∧ Txs B w g doc tvs ∧ g < H ∧ ∀ tv ∈ tvs, ∀ g', tv.ownBlock = some g' → g' < H

theorem OwP.high {B : Nat} {w : World} {v : Value} {doc : List Pc} (h : OwP B w v doc) : OwPH B w.heap.size w v doc := by
  obtain ⟨g, tvs, hv, hm, ho, ht⟩ := h
  refine ⟨g, tvs, hv, hm, ho, ht, (World.ownsRow.lt ho g (by rw [hv]; rfl)).2, fun tv htv g' hg' => ?_⟩
  obtain ⟨j, hj, hja⟩ := List.getElem_of_mem htv
  have hl := ht.len
  have h1 := (ht.own j (doc[j]'(by omega)) tv (by simp [show j < doc.length by omega]) (by rw [← hja]; simp [hj])).1
  exact (World.ownsRow.lt h1 _ hg').2

theorem OwPH.later {B H : Nat} {w w' : World} {v : Value} {doc : List Pc} (h : OwPH B H w v doc) (hg : w.grownBy w' none) : OwPH B H w' v doc := by
  obtain ⟨g, tvs, hv, hm, ho, ht, h1, h2⟩ := h
  exact ⟨g, tvs, hv, hm, World.ownsRow.kept ho hg (by cases v.ownBlock <;> simp), ht.keep hg, h1, h2⟩
theorem OwPH.low {B H : Nat} {w : World} {v : Value} {doc : List Pc} (h : OwPH B H w v doc) : OwP B w v doc := by
  obtain ⟨g, tvs, hv, hm, ho, ht, _, _⟩ := h
  exact ⟨g, tvs, hv, hm, ho, ht⟩

/-- Blocks below B, and those from H on, are as they were. -/
structure FrP (B H : Nat) (w w' : World) : Prop where
  os : w'.os = w.os
  tape : w'.tape = w.tape
  output : w'.output = w.output
  size : w.heap.size ≤ w'.heap.size
  block : ∀ b, b < w.heap.size → (b < B ∨ H ≤ b) → w'.heap[b]? = w.heap[b]?
theorem FrP.refl (B H : Nat) (w : World) : FrP B H w w := ⟨rfl, rfl, rfl, Nat.le_refl _, fun _ _ _ => rfl⟩
theorem FrP.grown {B H : Nat} {w w1 w2 : World} (h : FrP B H w w1) {row : Option Nat} (hg : w1.grownBy w2 row) (hr : ∀ g, row = some g → B ≤ g ∧ g < H) : FrP B H w w2 :=
  ⟨hg.os.trans h.os, hg.tape.trans h.tape, hg.output.trans h.output, Nat.le_trans h.size hg.size, fun b hb hx => (hg.block b (Nat.lt_of_lt_of_le hb h.size) (fun e => by have := hr b e.symm; omega)).trans (h.block b hb hx)⟩
theorem FrP.row {B H b0 : Nat} {w w' : World} (h : FrP B H w w') {e : TypeId} {size n : Nat} {v : Value} {xs : List Value} (ho : w.ownsRow b0 e size v n xs) (hx : ∀ g, v.ownBlock = some g → g < B ∨ H ≤ g) : w'.ownsRow b0 e size v n xs := by
  refine ⟨ho.1, ?_⟩
  rcases ho.2 with h1 | ⟨g, cap, cur, hv, hb, hg, rest⟩
  · exact .inl h1
  · exact .inr ⟨g, cap, cur, hv, hb, (h.block g (Array.getElem?_eq_some_iff.1 hg).1 (hx g (by rw [hv]; rfl))).trans hg, rest⟩
theorem FrP.below {B H : Nat} {w w' : World} (h : FrP B H w w') (hB : B ≤ w.heap.size) : Below B w w' :=
  ⟨h.os, h.tape, h.output, h.size, fun b hb => h.block b (by omega) (.inl hb)⟩

def markN : List Pc → Int
  | [] => 0
  | p :: ps => p.t.length + 2 + markN ps
theorem markN_snoc : ∀ (doc : List Pc) (k : Nat) (hk : k < doc.length), markN (doc.take (k + 1)) = markN (doc.take k) + doc[k].t.length + 2
  | p :: ps, 0, _ => by simp [markN]
  | p :: ps, k + 1, hk => by
    have := markN_snoc ps k (by simpa using hk)
    simp only [List.take_succ_cons, markN, this, List.getElem_cons_succ]
    omega
theorem markN_bd : ∀ (doc : List Pc) (k : Nat), 0 ≤ markN (doc.take k) ∧ markN (doc.take k) ≤ sumT doc + 2 * doc.length
  | [], k => by simp [markN, sumT]
  | p :: ps, 0 => by
    have := (markN_bd ps 0)
    simp only [List.take_zero, markN, sumT, List.length_cons] at *
    omega
  | p :: ps, k + 1 => by
    have := (markN_bd ps k)
    simp only [List.take_succ_cons, markN, sumT, List.length_cons]
    omega

set_option maxHeartbeats 2000000 in
set_option maxRecDepth 100000 in
theorem markPieceS_any (B H : Nat) (v : Value) (doc : List Pc) (w : World) (hP : OwPH B H w v doc) (hn : doc.length ≤ 1048576) (hs : sumT doc ≤ 1048576) (ht : ∀ p ∈ doc, p.t.length ≤ 1048576) :
    Calls Tryd.prog 16 #[v, .int .i64 1] w fun e w' => ∃ k : Int, e = .returned (.int .i64 k) ∧ 0 ≤ k ∧ FrP B H w w' := by
  obtain ⟨g, tvs, hv, hm, ho, hT, hgH, htH⟩ := hP
  have hgB := (World.ownsRow.lt ho g (by rw [hv]; rfl)).1
  have hlen := hT.len
  have HAp : Hid (tvs.Pairwise (fun a b => ∀ g, a.ownBlock = some g → b.ownBlock ≠ some g)) := hT.apart
  subst hv
  have HO : Hid (∀ (j : Nat) (p : Pc) (tv : Value), doc[j]? = some p → tvs[j]? = some tv → OwB B w tv p.t ∧ tv.ownBlock ≠ some g) := hT.own
  have HTH : Hid (∀ tv ∈ tvs, ∀ g', tv.ownBlock = some g' → g' < H) := htH
  have HC : Hid (∀ (j : Nat) (p : Pc), doc[j]? = some p → ∃ tv, tvs[j]? = some tv ∧ (cells3 doc tvs)[j * 3]? = some (.int .i64 p.k) ∧ (cells3 doc tvs)[j * 3 + 1]? = some tv ∧ (cells3 doc tvs)[j * 3 + 2]? = some (.int .i64 p.n)) := fun j p hp => cells3_at doc tvs j p hlen hp
  have hxl := ho.1
  clear hT htH
  go_enter Tryd.func16, Tryd.ntmps16
  go_wp2
  go_loopw [1, 5] (fun kv i wr => ∃ (k : Nat) (xs : List Value), k ≤ doc.length ∧ i = .int .i64 k ∧ kv = .int .i64 (1 + markN (doc.take k)) ∧ wr.ownsRow B 49 3 (.slice (some ⟨g, 0, none⟩) doc.length doc.length) doc.length xs ∧ Hid (∀ j, k ≤ j → xs[j * 3]? = (cells3 doc tvs)[j * 3]? ∧ xs[j * 3 + 1]? = (cells3 doc tvs)[j * 3 + 1]? ∧ xs[j * 3 + 2]? = (cells3 doc tvs)[j * 3 + 2]?) ∧
      Hid (∀ (j : Nat) (p : Pc) (tv : Value), k ≤ j → doc[j]? = some p → tvs[j]? = some tv → OwB B wr tv p.t) ∧ FrP B H w wr)
    (fun _ i _ => doc.length - (intOf i).toNat)
  case atStart => exact ⟨0, _, Nat.zero_le _, rfl, by simp [markN], ho, fun j _ => ⟨rfl, rfl, rfl⟩, fun j p tv _ h1 h2 => (HO.out j p tv h1 h2).1, FrP.refl _ _ _⟩
  case round =>
    obtain ⟨k, xs, hk, rfl, rfl, hrow, HX, HT, hfr⟩ := hrel
    have hb0 := markN_bd doc k
    by_cases hlt : k < doc.length
    · have hp : doc[k]? = some doc[k] := by simp [hlt]
      obtain ⟨tv, htv, e0, e1, e2⟩ := HC.out k doc[k] hp
      obtain ⟨x0, x1, x2⟩ := HX.out k (Nat.le_refl _)
      have hc0 := World.ownsRow.cellAt hrow (k * 3) (by omega)
      have hc1 := World.ownsRow.cellAt hrow (k * 3 + 1) (by omega)
      have hc2 := World.ownsRow.cellAt hrow (k * 3 + 2) (by omega)
      rw [x0, e0] at hc0
      rw [x1, e1] at hc1
      rw [x2, e2] at hc2
      have hf0 := World.ownsRow.frozenAt hrow (k * 3)
      have hf1 := World.ownsRow.frozenAt hrow (k * 3 + 1)
      have hf2 := World.ownsRow.frozenAt hrow (k * 3 + 2)
      have hrow1 := World.ownsRow.stored hrow (k * 3) (.int .i64 (1 + markN (doc.take k)))
      have hown := HT.out k doc[k] tv (Nat.le_refl _) hp htv
      have hne := (HO.out k doc[k] tv hp htv).2
      have htm : tv ∈ tvs := List.mem_of_getElem? htv
      have hpt := ht doc[k] (List.getElem_mem hlt)
      have hsn := markN_snoc doc k hlt
      have hb1 := markN_bd doc (k + 1)
      have hmk := markByteS_any B tv doc[k].t (1 + markN (doc.take k) + 1) (wr.setCell ⟨g, k * 3, none⟩ (.int .i64 (1 + markN (doc.take k)))) (row_set hown _ _ hne) (by omega) (by omega) (by omega)
      have hlt2 := World.ownsRow.lt hown
      have FIN : Hid (∀ (w1 : World), (wr.setCell ⟨g, k * 3, none⟩ (.int .i64 (1 + markN (doc.take k)))).grownBy w1 tv.ownBlock →
          ∃ xs', (w1.setCell ⟨g, k * 3 + 2, none⟩ (.int .i64 (1 + markN (doc.take k) + 1 + doc[k].t.length))).ownsRow B 49 3 (.slice (some ⟨g, 0, none⟩) doc.length doc.length) doc.length xs' ∧ Hid (∀ j, k + 1 ≤ j → xs'[j * 3]? = (cells3 doc tvs)[j * 3]? ∧ xs'[j * 3 + 1]? = (cells3 doc tvs)[j * 3 + 1]? ∧ xs'[j * 3 + 2]? = (cells3 doc tvs)[j * 3 + 2]?) ∧
            Hid (∀ (j : Nat) (p : Pc) (tv : Value), k + 1 ≤ j → doc[j]? = some p → tvs[j]? = some tv → OwB B (w1.setCell ⟨g, k * 3 + 2, none⟩ (.int .i64 (1 + markN (doc.take k) + 1 + doc[k].t.length))) tv p.t) ∧ FrP B H w (w1.setCell ⟨g, k * 3 + 2, none⟩ (.int .i64 (1 + markN (doc.take k) + 1 + doc[k].t.length))) ∧
            w1.cell? ⟨g, k * 3 + 2, none⟩ = some (.int .i64 doc[k].n) ∧ w1.frozen? ⟨g, k * 3 + 2, none⟩ = false) := by
        intro w1 hg1
        have hrow2 := World.ownsRow.kept hrow1.1 hg1 (.inr (fun e => hne e.symm))
        have hrow3 := World.ownsRow.stored hrow2 (k * 3 + 2) (.int .i64 (1 + markN (doc.take k) + 1 + doc[k].t.length))
        refine ⟨_, hrow3.1, ?_, ?_, ?_, ?_, World.ownsRow.frozenAt hrow2 _⟩
        · intro j hj
          have := HX.out j (by omega)
          rw [List.getElem?_set_ne (by omega), List.getElem?_set_ne (by omega), List.getElem?_set_ne (by omega), List.getElem?_set_ne (by omega), List.getElem?_set_ne (by omega), List.getElem?_set_ne (by omega)]
          exact this
        · intro j p tv' hj h1 h2
          have o1 := HT.out j p tv' (by omega) h1 h2
          have n1 := (HO.out j p tv' h1 h2).2
          refine row_set (World.ownsRow.kept (row_set o1 _ _ n1) hg1 ?_) _ _ n1
          cases hb : tv'.ownBlock with
          | none => exact .inl rfl
          | some g' =>
            refine .inr (fun e => ?_)
            have hkl : k < tvs.length := by omega
            have hjl := (List.getElem?_eq_some_iff.1 h2).1
            have hpw := (List.pairwise_iff_getElem.1 HAp.out) k j hkl hjl (by omega)
            have ek : tvs[k] = tv := (List.getElem?_eq_some_iff.1 htv).2
            have ej : tvs[j] = tv' := (List.getElem?_eq_some_iff.1 h2).2
            rw [ek, ej] at hpw
            exact hpw g' e.symm hb
        · refine (((hfr.grown hrow1.2 (fun g' e => by cases e; exact ⟨hgB, hgH⟩)).grown hg1 (fun g' e => ⟨(hlt2 g' e).1, HTH.out tv htm g' e⟩)).grown hrow3.2 (fun g' e => by cases e; exact ⟨hgB, hgH⟩))
        · rw [World.ownsRow.cellAt hrow2 (k * 3 + 2) (by omega), List.getElem?_set_ne (by omega), x2, e2]
      obtain ⟨ta, tcap, htvf, _, _⟩ := row_form hown
      have HM : Hid (1 + markN (doc.take k) + 1 + doc[k].t.length + 1 = 1 + markN (doc.take (k + 1))) := by unfold Hid; omega
      have hb3 : 1 + markN (doc.take k) + 1 + doc[k].t.length + 1 ≤ 600000000 := by omega
      clear hrow1 hown hlt2 HX HT hrow x0 x1 x2 e0 e1 e2 hsn hb1 hp htv htm hfr
      generalize doc[k] = p at *
      generalize markN (doc.take k) = mk at *
      subst htvf
      go_wp2_with fail
      refine hmk.mono ?_
      rintro e w1 ⟨rfl, _, hg1⟩
      obtain ⟨xs', r1, r2, r3, r4, r5, r6⟩ := FIN.out w1 hg1
      clear FIN hg1 hmk
      go_wp2
      go_roundw
      case rel => exact ⟨k + 1, xs', by omega, by go_num, by rw [← HM.out], r1, r2, r3, r4⟩
      case measure => simp [intOf]; omega
    · go_wp2
      go_ret
      exact ⟨_, rfl, by omega, hfr⟩

end Go.Proofs.YtbiiopiaglkicaaDoor
