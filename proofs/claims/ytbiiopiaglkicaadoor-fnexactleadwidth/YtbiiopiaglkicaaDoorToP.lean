import Derived.Test.YtbiiopiaglkicaaDoorPcKit
import Derived.Test.YtbiiopiaglkicaaDoorToB
import Derived.Handy
namespace Go.Proofs.YtbiiopiaglkicaaDoor
open Go.RowKit

theorem info39 : (Tryd.prog.info? 49).map (fun i => (i.zero, i.size, i.bytes)) = some (some (.agg #[.int .i64 0, .slice none 0 0, .int .i64 0]), 3, 40) := by kernel_rfl

set_option maxHeartbeats 1000000 in
set_option maxRecDepth 100000 in
theorem toPiece_any (p : Pc) (tv : Value) (w : World) (hv : RdB w.heap.size w tv p.t) (hn : p.t.length ≤ 1048576) :
    Calls Tryd.prog 39 #[.agg #[.int .i64 p.k, tv, .int .i64 p.n]] w fun e w' => ∃ tv', e = .returned (.agg #[.int .i64 p.k, tv', .int .i64 p.n]) ∧ OwB w.heap.size w' tv' p.t ∧ w.grownBy w' none := by
  obtain ⟨a, cap, hv0, _⟩ := id hv
  go_enter Tryd.func39, Tryd.ntmps39
  subst hv0
  go_wp2_with fail
  refine (toByteS_any _ p.t _ (by refine (hv.keep ?_).now; exact grown_trans (grown_trans (World.grownBy_alloc _ _ _) (World.grownBy_alloc _ _ _)) (World.grownBy_alloc _ _ _)) (by omega)).mono ?_
  rintro e w1 ⟨tv', rfl, o1, g1⟩
  obtain ⟨a1, cap1, hv1, _⟩ := o1.rd
  have c2 := grown_both (a := ⟨w.heap.size, 2, none⟩) (v := .int .i64 p.n) g1 (by simp [go_sem]) (by simp [go_sem])
  have r0 := grown_both (a := ⟨w.heap.size + 1, 0, none⟩) (v := .int .i64 0) g1 (by simp [go_sem]) (by simp [go_sem])
  have r1 := grown_both (a := ⟨w.heap.size + 1, 1, none⟩) (v := .slice none 0 0) g1 (by simp [go_sem]) (by simp [go_sem])
  have r2 := grown_both (a := ⟨w.heap.size + 1, 2, none⟩) (v := .int .i64 0) g1 (by simp [go_sem]) (by simp [go_sem])
  have x0 := grown_both (a := ⟨w.heap.size + 1 + 1, 0, none⟩) (v := .int .i64 p.k) g1 (by simp [go_sem]) (by simp [go_sem])
  have x1 := grown_both (a := ⟨w.heap.size + 1 + 1, 1, none⟩) (v := .slice none 0 0) g1 (by simp [go_sem]) (by simp [go_sem])
  have x2 := grown_both (a := ⟨w.heap.size + 1 + 1, 2, none⟩) (v := .int .i64 0) g1 (by simp [go_sem]) (by simp [go_sem])
  obtain ⟨c2, c2f⟩ := c2
  obtain ⟨r0, r0f⟩ := r0
  obtain ⟨r1, r1f⟩ := r1
  obtain ⟨r2, r2f⟩ := r2
  obtain ⟨x0, x0f⟩ := x0
  obtain ⟨x1, x1f⟩ := x1
  obtain ⟨x2, x2f⟩ := x2
  have bel : Below w.heap.size w w1 := (((((Below.refl w.heap.size w).alloc (Nat.le_refl _) _).alloc (by simp) _).alloc (by simp; omega) _).grown g1 (by simp; omega) (fun k e => by cases e))
  have H : Hid (OwB (w.heap.size + 3) w1 tv' p.t) := row_base (by simp) o1
  clear o1 g1
  subst hv1
  go_wp2
  refine bodyPost_ret (v := .agg #[.int .i64 p.k, .slice a1 p.t.length cap1, .int .i64 p.n]) (by simp [results, Tryd.results39, go_sem, r0, r1, r2]) rfl ?_
  refine ⟨_, rfl, ?_, ?_⟩
  · exact row_base (by omega) (((((H.out.set _ _ (by simp)).set _ _ (by simp)).set _ _ (by simp)).set _ _ (by simp)).set _ _ (by simp))
  · exact grown_of_below (((((bel.setCell (by simp; omega) _).setCell (by simp; omega) _).setCell (by simp) _).setCell (by simp) _).setCell (by simp) _)

/-- The cells of a row of elements. -/
def cells3 : List Pc → List Value → List Value
  | p :: ps, tv :: tvs => .int .i64 p.k :: tv :: .int .i64 p.n :: cells3 ps tvs
  | _, _ => []
def zer : Nat → List Value
  | 0 => []
  | m + 1 => .int .i64 0 :: .slice none 0 0 :: .int .i64 0 :: zer m

theorem cells3_len : ∀ (ps : List Pc) (tvs : List Value), tvs.length = ps.length → (cells3 ps tvs).length = ps.length * 3
  | [], [], _ => rfl
  | _ :: ps, _ :: tvs, h => by simp only [List.length_cons, Nat.add_right_cancel_iff] at h; simp only [cells3, List.length_cons, cells3_len ps tvs h]; omega
  | [], _ :: _, h => by simp at h
  | _ :: _, [], h => by simp at h

theorem cells3_snoc : ∀ (ps : List Pc) (tvs : List Value) (p : Pc) (tv : Value), tvs.length = ps.length → cells3 (ps ++ [p]) (tvs ++ [tv]) = cells3 ps tvs ++ [.int .i64 p.k, tv, .int .i64 p.n]
  | [], [], _, _, _ => rfl
  | _ :: ps, _ :: tvs, p, tv, h => by simp only [List.length_cons, Nat.add_right_cancel_iff] at h; simp only [List.cons_append, cells3, cells3_snoc ps tvs p tv h]
  | [], _ :: _, _, _, h => by simp at h
  | _ :: _, [], _, _, h => by simp at h

theorem cells3_at : ∀ (ps : List Pc) (tvs : List Value) (j : Nat) (p : Pc), tvs.length = ps.length → ps[j]? = some p → ∃ tv, tvs[j]? = some tv ∧ (cells3 ps tvs)[j * 3]? = some (.int .i64 p.k) ∧ (cells3 ps tvs)[j * 3 + 1]? = some tv ∧ (cells3 ps tvs)[j * 3 + 2]? = some (.int .i64 p.n)
  | p0 :: ps, tv :: tvs, 0, p, h, hp => by simp at hp; subst hp; exact ⟨tv, rfl, rfl, rfl, rfl⟩
  | p0 :: ps, tv :: tvs, j + 1, p, h, hp => by
    simp only [List.length_cons, Nat.add_right_cancel_iff] at h
    obtain ⟨u, h1, h2, h3, h4⟩ := cells3_at ps tvs j p h (by simpa using hp)
    refine ⟨u, by simpa using h1, ?_, ?_, ?_⟩
    · rw [show (j + 1) * 3 = j * 3 + 3 by omega]; simpa [cells3] using h2
    · rw [show (j + 1) * 3 + 1 = (j * 3 + 1) + 3 by omega]; simpa [cells3] using h3
    · rw [show (j + 1) * 3 + 2 = (j * 3 + 2) + 3 by omega]; simpa [cells3] using h4
  | [], _, _, _, _, hp => by simp at hp
  | _ :: _, [], _, _, h, _ => by simp at h

theorem zer_made : ∀ (n : Nat), (madeCells #[Value.int .i64 0, .slice none 0 0, .int .i64 0] (n * 3)).toList = zer n := by
  intro n
  apply List.ext_getElem?
  intro j
  have hz : ∀ (n j : Nat), (zer n)[j]? = if j < n * 3 then some ((#[Value.int .i64 0, .slice none 0 0, .int .i64 0] : Array Value).getD (j % 3) default) else none := by
    intro n
    induction n with
    | zero => intro j; simp [zer]
    | succ n ih =>
      intro j
      match j with
      | 0 => simp [zer]
      | 1 => simp only [zer]; rw [if_pos (by omega)]; rfl
      | 2 => simp only [zer]; rw [if_pos (by omega)]; rfl
      | j + 3 =>
        simp only [zer, List.getElem?_cons_succ]
        rw [ih j, show (j + 3) % 3 = j % 3 by omega]
        by_cases h : j < n * 3
        · rw [if_pos h, if_pos (by omega)]
        · rw [if_neg h, if_neg (by omega)]
  rw [hz]
  by_cases h : j < n * 3
  · simp [madeCells, h]
  · simp [madeCells, h]

/-- The texts of a row of elements, each a row of its own, none of them block g. -/
structure Txs (B : Nat) (w : World) (g : Nat) (doc : List Pc) (tvs : List Value) : Prop where
  len : tvs.length = doc.length
  own : ∀ (j : Nat) (p : Pc) (tv : Value), doc[j]? = some p → tvs[j]? = some tv → OwB B w tv p.t ∧ tv.ownBlock ≠ some g
  apart : tvs.Pairwise (fun a b => ∀ g, a.ownBlock = some g → b.ownBlock ≠ some g)

theorem Txs.keep {B : Nat} {w w' : World} {g : Nat} {doc : List Pc} {tvs : List Value} (h : Txs B w g doc tvs) (hg : w.grownBy w' none) : Txs B w' g doc tvs :=
  ⟨h.len, fun j p tv h1 h2 => ⟨(h.own j p tv h1 h2).1.later hg, (h.own j p tv h1 h2).2⟩, h.apart⟩
theorem Txs.set {B : Nat} {w : World} {g : Nat} {doc : List Pc} {tvs : List Value} (h : Txs B w g doc tvs) (o : Nat) (u : Value) : Txs B (w.setCell ⟨g, o, none⟩ u) g doc tvs :=
  ⟨h.len, fun j p tv h1 h2 => ⟨row_set (h.own j p tv h1 h2).1 _ _ (h.own j p tv h1 h2).2, (h.own j p tv h1 h2).2⟩, h.apart⟩

theorem Txs.snoc {B : Nat} {w w1 : World} {g : Nat} {doc : List Pc} {tvs : List Value} {p : Pc} {tv : Value} (h : Txs B w g doc tvs) (hB : B ≤ w.heap.size) (hgs : g < w.heap.size) (hg : w.grownBy w1 none) (ho : OwB w.heap.size w1 tv p.t) :
    Txs B w1 g (doc ++ [p]) (tvs ++ [tv]) := by
  have hl := h.len
  refine ⟨by simp [hl], fun j q u h1 h2 => ?_, ?_⟩
  · by_cases hj : j < doc.length
    · rw [List.getElem?_append_left hj] at h1
      rw [List.getElem?_append_left (by omega)] at h2
      exact (h.keep hg).own j q u h1 h2
    · have hj2 : j = doc.length := by
        have := (List.getElem?_eq_some_iff.1 h1).1
        simp at this; omega
      subst hj2
      simp at h1
      rw [← hl] at h2
      simp at h2
      subst h1 h2
      refine ⟨row_base hB ho, fun e => ?_⟩
      have := World.ownsRow.lt ho _ e
      omega
  · rw [List.pairwise_append]
    refine ⟨h.apart, by simp, ?_⟩
    intro a ha b hb g' hg' hb'
    simp at hb
    subst hb
    obtain ⟨j, hj, hja⟩ := List.getElem_of_mem ha
    have h1 := (h.own j (doc[j]'(by omega)) a (by simp [show j < doc.length by omega]) (by rw [← hja]; simp [hj])).1
    have := World.ownsRow.lt h1 _ hg'
    have := World.ownsRow.lt ho _ hb'
    omega

/-- A row of elements of one's own. -/
def OwP (B : Nat) (w : World) (v : Value) (doc : List Pc) : Prop :=
  ∃ (g : Nat) (tvs : List Value), v = .slice (some ⟨g, 0, none⟩) doc.length doc.length ∧ doc.length ≤ maxLen ∧ w.ownsRow B 49 3 v doc.length (cells3 doc tvs) ∧ Txs B w g doc tvs

theorem OwP.later {B : Nat} {w w' : World} {v : Value} {doc : List Pc} (h : OwP B w v doc) (hg : w.grownBy w' none) : OwP B w' v doc := by
  obtain ⟨g, tvs, hv, hm, ho, ht⟩ := h
  exact ⟨g, tvs, hv, hm, World.ownsRow.kept ho hg (by cases v.ownBlock <;> simp), ht.keep hg⟩

theorem OwP.rd {B : Nat} {w : World} {v : Value} {doc : List Pc} (h : OwP B w v doc) : RdP w.heap.size w v doc := by
  obtain ⟨g, tvs, hv, hm, ho, ht⟩ := h
  have hlt := World.ownsRow.lt ho g (by rw [hv]; rfl)
  refine ⟨_, _, hv, Nat.le_refl _, hm, fun h0 => ⟨g, 0, rfl, hlt.2, fun j p hp => ?_⟩⟩
  obtain ⟨tv, h1, h2, h3, h4⟩ := cells3_at doc tvs j p ht.len hp
  have hj := (List.getElem?_eq_some_iff.1 hp).1
  have hown := (ht.own j p tv hp h1).1
  rw [hv] at ho
  refine ⟨tv, ?_, ?_, ?_, hown.rd, hown.sl⟩
  · rw [Nat.zero_add, World.ownsRow.cellAt ho (j * 3) (by omega)]; exact h2
  · rw [Nat.zero_add, World.ownsRow.cellAt ho (j * 3 + 1) (by omega)]; exact h3
  · rw [Nat.zero_add, World.ownsRow.cellAt ho (j * 3 + 2) (by omega)]; exact h4

theorem set3 (A R : List Value) (x y z x' y' z' : Value) (k : Nat) (hA : A.length = k * 3) :
    (((A ++ x :: y :: z :: R).set (k * 3) x').set (k * 3 + 1) y').set (k * 3 + 2) z' = A ++ x' :: y' :: z' :: R := by
  rw [List.set_append_right _ _ (by omega), List.set_append_right _ _ (by omega), List.set_append_right _ _ (by omega)]
  rw [show k * 3 - A.length = 0 by omega, show k * 3 + 1 - A.length = 1 by omega, show k * 3 + 2 - A.length = 2 by omega]
  rfl

set_option maxHeartbeats 1000000 in
set_option maxRecDepth 100000 in
theorem toPieceS_any (v : Value) (doc : List Pc) (w : World) (hv : RdP w.heap.size w v doc) (hn : doc.length ≤ 1048576) (ht : ∀ p ∈ doc, p.t.length ≤ 1048576) :
    Calls Tryd.prog 11 #[v] w fun e w' => ∃ v', e = .returned v' ∧ OwP w.heap.size w' v' doc ∧ w.grownBy w' none := by
  obtain ⟨i0, hi, hz0, hz1, hz2⟩ := info_parts info39
  obtain ⟨a, cap, hv0, _⟩ := id hv
  subst hv0
  go_enter Tryd.func11, Tryd.ntmps11
  go_wp2_with (at_make; refine wpList_make_full _ rfl _ _ 28 rfl w.heap.size 49 i0 (.agg #[.int .i64 0, .slice none 0 0, .int .i64 0]) 3 Tryd.underlying28 hi hz0 hz1 _ _ _ _ doc.length rfl rfl (by omega) (by omega) ?b2 ?b3 (Nat.le_refl _) ?_)
  case b2 => rw [hz2]; omega
  case b3 => unfold maxLen; omega
  intro w0 hown0 hgrow0
  go_wp2
  go_loopw [4] (fun i wr => ∃ (k : Nat) (tvs : List Value), k ≤ doc.length ∧ i = .int .i64 k ∧ wr.ownsRow w.heap.size 49 3 (.slice (some ⟨w.heap.size, 0, none⟩) doc.length doc.length) doc.length (cells3 (doc.take k) tvs ++ zer (doc.length - k)) ∧ Txs w.heap.size wr w.heap.size (doc.take k) tvs ∧ w.grownBy wr none)
    (fun i _ => doc.length - (intOf i).toNat)
  case atStart =>
    refine ⟨0, [], Nat.zero_le _, rfl, ?_, ⟨rfl, fun j p tv h _ => by simp at h, by simp⟩, hgrow0⟩
    simpa [zer_made, Value.cells, cells3] using hown0
  case round =>
    obtain ⟨k, tvs, hk, rfl, hown, hT, hgr⟩ := hrel
    by_cases hlt : k < doc.length
    · obtain ⟨b, off, cap', tv, hva, hb, hp⟩ := (hv.keep hgr).at k hlt
      cases hva
      have hk0 := hp.k; have ht0 := hp.t; have hn0 := hp.n
      have hlk : (doc.take k).length = k := by simp; omega
      have hsz : w.heap.size < wr.heap.size := (World.ownsRow.lt hown w.heap.size rfl).2
      have hcl := cells3_len (doc.take k) tvs hT.len
      have hto := toPiece_any doc[k] tv wr (hp.rd.wide (by omega)) (ht _ (List.getElem_mem hlt))
      obtain ⟨ta, tcap, htv, htl, htm⟩ := hp.sl
      subst htv
      have htk : doc.take (k + 1) = doc.take k ++ [doc[k]] := by rw [List.take_add_one]; simp [hlt]
      have hzr : zer (doc.length - k) = .int .i64 0 :: .slice none 0 0 :: .int .i64 0 :: zer (doc.length - (k + 1)) := by
        rw [show doc.length - k = (doc.length - (k + 1)) + 1 by omega]; rfl
      rw [hzr] at hown
      clear hzr hv hp
      have A : Hid (doc.take (k + 1) = doc.take k ++ [doc[k]]) := htk
      clear htk
      generalize doc[k] = p at hk0 ht0 hn0 hto A
      go_wp2_with fail
      refine hto.mono ?_
      rintro e w1 ⟨tv', rfl, o1, g1⟩
      have hown1 := World.ownsRow.kept hown g1 (.inr (by simp [Value.ownBlock]))
      have hc0 := World.ownsRow.cellAt hown1 (k * 3) (by omega)
      have hc1 := World.ownsRow.cellAt hown1 (k * 3 + 1) (by omega)
      have hc2 := World.ownsRow.cellAt hown1 (k * 3 + 2) (by omega)
      rw [List.getElem?_append_right (by omega), show k * 3 - (cells3 (doc.take k) tvs).length = 0 by omega] at hc0
      rw [List.getElem?_append_right (by omega), show k * 3 + 1 - (cells3 (doc.take k) tvs).length = 1 by omega] at hc1
      rw [List.getElem?_append_right (by omega), show k * 3 + 2 - (cells3 (doc.take k) tvs).length = 2 by omega] at hc2
      simp only [List.getElem?_cons_zero, List.getElem?_cons_succ] at hc0 hc1 hc2
      have hf0 := World.ownsRow.frozenAt hown1 (k * 3)
      have hf1 := World.ownsRow.frozenAt hown1 (k * 3 + 1)
      have hf2 := World.ownsRow.frozenAt hown1 (k * 3 + 2)
      have hs0 := World.ownsRow.stored hown1 (k * 3) (.int .i64 p.k)
      have hs1 := World.ownsRow.stored hs0.1 (k * 3 + 1) tv'
      have hs2 := World.ownsRow.stored hs1.1 (k * 3 + 2) (.int .i64 p.n)
      have hrow := hs2.1
      rw [set3 _ _ _ _ _ _ _ _ k (by omega)] at hrow
      have hT1 := (((hT.snoc (by omega) hsz g1 o1).set (k * 3) (.int .i64 p.k)).set (k * 3 + 1) tv').set (k * 3 + 2) (.int .i64 p.n)
      have hg3 : w.grownBy (((w1.setCell ⟨w.heap.size, k * 3, none⟩ (.int .i64 p.k)).setCell ⟨w.heap.size, k * 3 + 1, none⟩ tv').setCell ⟨w.heap.size, k * 3 + 2, none⟩ (.int .i64 p.n)) none :=
        grown_of_below ((((below_of_grown (grown_trans hgr g1)).setCell (by simp) _).setCell (by simp) _).setCell (by simp) _)
      have hrow2 := cells3_snoc (doc.take k) tvs p tv' hT.len
      rw [← A.out] at hT1 hrow2
      have HR : Hid ((((w1.setCell ⟨w.heap.size, k * 3, none⟩ (.int .i64 p.k)).setCell ⟨w.heap.size, k * 3 + 1, none⟩ tv').setCell ⟨w.heap.size, k * 3 + 2, none⟩ (.int .i64 p.n)).ownsRow w.heap.size 49 3 (.slice (some ⟨w.heap.size, 0, none⟩) doc.length doc.length) doc.length (cells3 (doc.take (k + 1)) (tvs ++ [tv']) ++ zer (doc.length - (k + 1)))) := by
        unfold Hid; rw [hrow2]; simpa using hrow
      have HT : Hid (Txs _ _ _ _ _) := hT1
      obtain ⟨a1, cap1, hv1, _⟩ := o1.rd
      clear hs0 hs1 hs2 hrow hrow2 hT1 hown hown1 hT o1 g1 hcl hlk
      subst hv1
      go_wp2
      go_roundw
      case rel => exact ⟨k + 1, _, by omega, by go_num, HR.out, HT.out, hg3⟩
      case measure => simp [intOf]; omega
    · go_wp2
      go_ret
      have hkn : k = doc.length := by omega
      subst hkn
      simp only [List.take_length, Nat.sub_self, zer, List.append_nil] at hown hT
      exact ⟨_, rfl, ⟨_, _, rfl, by unfold maxLen; omega, hown, hT⟩, hgr⟩

end Go.Proofs.YtbiiopiaglkicaaDoor
