import Derived.Handy
import Derived.Deep.RegionWith
import Derived.Maps.AppendAt
import Derived.Lib.BufferMore
import Derived.Deep.Slices
import Derived.Test.YtakkdniikhgpdaaGreatDoorMAA
import Derived.Test.YtakkdniikhgpdaaGreatDoorMAB
import Derived.Test.YtakkdniikhgpdaaGreatDoorMAF
import Derived.Test.YtakkdniikhgpdaaGreatDoorMAS
import Derived.Test.YtakkdniikhgpdaaGreatDoorNAB
namespace Go.Proofs.YtakkdniikhgpdaaGreatDoor
open Go.RowKit

theorem infoCm : (Tryz.prog.info? 127).map (fun i => (i.zero, i.size, i.bytes)) = some (some (.agg #[.bool false, .slice none 0 0]), 2, 32) := by kernel_rfl
theorem row_setC {B : Nat} {w : World} {e : TypeId} {size n : Nat} {v : Value} {xs : List Value} (h : w.ownsRow B e size v n xs) (a : Addr) (u : Value) (hb : v.ownBlock ≠ some a.block) : (w.setCell a u).ownsRow B e size v n xs :=
  World.ownsRow.kept h ⟨rfl, rfl, rfl, by simp, fun i _ hn => Below.heap_setCell _ _ _ _ (fun e => hn (by rw [e]))⟩ (by
    cases hv : v.ownBlock with
    | none => exact .inl rfl
    | some k => exact .inr (fun e => hb (by rw [hv, e])))
theorem Ow.setC {q : IntKind} {t : TypeId} {B : Nat} {w : World} {v : Value} {zs : List Int} (h : Ow q t B w v zs) (a : Addr) (u : Value) (hb : a.block < B) : Ow q t B (w.setCell a u) v zs :=
  row_setC h a u (fun e => by have := World.ownsRow.lt h _ e; omega)
theorem grown_bothC {W w1 : World} {a : Addr} {v : Value} (hg : W.grownBy w1 none) (h : W.cell? a = some v) (hf : W.frozen? a = false) : w1.cell? a = some v ∧ w1.frozen? a = false :=
  ⟨hg.cell h (by simp), (World.frozen?_of_block (hg.block a.block (World.block_lt_of_cell? W a h) (by simp))).trans hf⟩

/-- The cells of a row of elements. -/
def cells2 : List Cm → List Value → List Value
  | p :: ps, tv :: tvs => .bool p.b :: tv :: cells2 ps tvs
  | _, _ => []
def zerC : Nat → List Value
  | 0 => []
  | m + 1 => .bool false :: .slice none 0 0 :: zerC m

theorem cells2_len : ∀ (ps : List Cm) (tvs : List Value), tvs.length = ps.length → (cells2 ps tvs).length = ps.length * 2
  | [], [], _ => rfl
  | _ :: ps, _ :: tvs, h => by simp only [List.length_cons, Nat.add_right_cancel_iff] at h; simp only [cells2, List.length_cons, cells2_len ps tvs h]; omega
  | [], _ :: _, h => by simp at h
  | _ :: _, [], h => by simp at h

theorem cells2_snoc : ∀ (ps : List Cm) (tvs : List Value) (p : Cm) (tv : Value), tvs.length = ps.length → cells2 (ps ++ [p]) (tvs ++ [tv]) = cells2 ps tvs ++ [.bool p.b, tv]
  | [], [], _, _, _ => rfl
  | _ :: ps, _ :: tvs, p, tv, h => by simp only [List.length_cons, Nat.add_right_cancel_iff] at h; simp only [List.cons_append, cells2, cells2_snoc ps tvs p tv h]
  | [], _ :: _, _, _, h => by simp at h
  | _ :: _, [], _, _, h => by simp at h

theorem cells2_at : ∀ (ps : List Cm) (tvs : List Value) (j : Nat) (p : Cm), tvs.length = ps.length → ps[j]? = some p → ∃ tv, tvs[j]? = some tv ∧ (cells2 ps tvs)[j * 2]? = some (.bool p.b) ∧ (cells2 ps tvs)[j * 2 + 1]? = some tv
  | p0 :: ps, tv :: tvs, 0, p, h, hp => by simp at hp; subst hp; exact ⟨tv, rfl, rfl, rfl⟩
  | p0 :: ps, tv :: tvs, j + 1, p, h, hp => by
    simp only [List.length_cons, Nat.add_right_cancel_iff] at h
    obtain ⟨u, h1, h2, h3⟩ := cells2_at ps tvs j p h (by simpa using hp)
    refine ⟨u, by simpa using h1, ?_, ?_⟩
    · rw [show (j + 1) * 2 = j * 2 + 2 by omega]; simpa [cells2] using h2
    · rw [show (j + 1) * 2 + 1 = (j * 2 + 1) + 2 by omega]; simpa [cells2] using h3
  | [], _, _, _, _, hp => by simp at hp
  | _ :: _, [], _, _, h, _ => by simp at h

theorem zerC_made : ∀ (n : Nat), (madeCells #[Value.bool false, .slice none 0 0] (n * 2)).toList = zerC n := by
  intro n
  apply List.ext_getElem?
  intro j
  have hz : ∀ (n j : Nat), (zerC n)[j]? = if j < n * 2 then some ((#[Value.bool false, .slice none 0 0] : Array Value).getD (j % 2) default) else none := by
    intro n
    induction n with
    | zero => intro j; simp [zerC]
    | succ n ih =>
      intro j
      match j with
      | 0 => simp [zerC]
      | 1 => simp only [zerC]; rw [if_pos (by omega)]; rfl
      | j + 2 =>
        simp only [zerC, List.getElem?_cons_succ]
        rw [ih j, show (j + 2) % 2 = j % 2 by omega]
        by_cases h : j < n * 2
        · rw [if_pos h, if_pos (by omega)]
        · rw [if_neg h, if_neg (by omega)]
  rw [hz]
  by_cases h : j < n * 2
  · simp [madeCells, h]
  · simp [madeCells, h]

/-- The texts of a row of elements, each a row of its own, none of them block g. -/
structure TxsC (B : Nat) (w : World) (g : Nat) (doc : List Cm) (tvs : List Value) : Prop where
  len : tvs.length = doc.length
  own : ∀ (j : Nat) (p : Cm) (tv : Value), doc[j]? = some p → tvs[j]? = some tv → OwB B w tv p.t ∧ tv.ownBlock ≠ some g
  apart : tvs.Pairwise (fun a b => ∀ g, a.ownBlock = some g → b.ownBlock ≠ some g)

theorem TxsC.keep {B : Nat} {w w' : World} {g : Nat} {doc : List Cm} {tvs : List Value} (h : TxsC B w g doc tvs) (hg : w.grownBy w' none) : TxsC B w' g doc tvs :=
  ⟨h.len, fun j p tv h1 h2 => ⟨(h.own j p tv h1 h2).1.later hg, (h.own j p tv h1 h2).2⟩, h.apart⟩
theorem TxsC.set {B : Nat} {w : World} {g : Nat} {doc : List Cm} {tvs : List Value} (h : TxsC B w g doc tvs) (o : Nat) (u : Value) : TxsC B (w.setCell ⟨g, o, none⟩ u) g doc tvs :=
  ⟨h.len, fun j p tv h1 h2 => ⟨row_setC (h.own j p tv h1 h2).1 _ _ (h.own j p tv h1 h2).2, (h.own j p tv h1 h2).2⟩, h.apart⟩

theorem TxsC.snoc {B : Nat} {w w1 : World} {g : Nat} {doc : List Cm} {tvs : List Value} {p : Cm} {tv : Value} (h : TxsC B w g doc tvs) (hB : B ≤ w.heap.size) (hgs : g < w.heap.size) (hg : w.grownBy w1 none) (ho : OwB w.heap.size w1 tv p.t) :
    TxsC B w1 g (doc ++ [p]) (tvs ++ [tv]) := by
  have hl := h.len
  refine ⟨by simp [hl], fun j q u h1 h2 => ?_, ?_⟩
  · by_cases hj : j < doc.length
    · rw [List.getElem?_append_left hj] at h1
      rw [List.getElem?_append_left (by omega)] at h2
      exact (h.keep hg).own j q u h1 h2
    · have hj2 : j = doc.length := by
        have := (List.getElem?_eq_some_iff.1 h1).1
        simp at this; omega
      subst hj2
      simp at h1
      rw [← hl] at h2
      simp at h2
      subst h1 h2
      refine ⟨row_base hB ho, fun e => ?_⟩
      have := World.ownsRow.lt ho _ e
      omega
  · rw [List.pairwise_append]
    refine ⟨h.apart, by simp, ?_⟩
    intro a ha b hb g' hg' hb'
    simp at hb
    subst hb
    obtain ⟨j, hj, hja⟩ := List.getElem_of_mem ha
    have h1 := (h.own j (doc[j]'(by omega)) a (by simp [show j < doc.length by omega]) (by rw [← hja]; simp [hj])).1
    have := World.ownsRow.lt h1 _ hg'
    have := World.ownsRow.lt ho _ hb'
    omega

/-- A row of elements of one's own. -/
def OwC (B : Nat) (w : World) (v : Value) (doc : List Cm) : Prop :=
  ∃ (g : Nat) (tvs : List Value), v = .slice (some ⟨g, 0, none⟩) doc.length doc.length ∧ doc.length ≤ maxLen ∧ w.ownsRow B 127 2 v doc.length (cells2 doc tvs) ∧ TxsC B w g doc tvs

theorem OwC.later {B : Nat} {w w' : World} {v : Value} {doc : List Cm} (h : OwC B w v doc) (hg : w.grownBy w' none) : OwC B w' v doc := by
  obtain ⟨g, tvs, hv, hm, ho, ht⟩ := h
  exact ⟨g, tvs, hv, hm, World.ownsRow.kept ho hg (by cases v.ownBlock <;> simp), ht.keep hg⟩

theorem OwC.rd {B : Nat} {w : World} {v : Value} {doc : List Cm} (h : OwC B w v doc) : RdC w.heap.size w v doc := by
  obtain ⟨g, tvs, hv, hm, ho, ht⟩ := h
  have hlt := World.ownsRow.lt ho g (by rw [hv]; rfl)
  refine ⟨_, _, hv, Nat.le_refl _, hm, fun h0 => ⟨g, 0, rfl, hlt.2, fun j p hp => ?_⟩⟩
  obtain ⟨tv, h1, h2, h3⟩ := cells2_at doc tvs j p ht.len hp
  have hj := (List.getElem?_eq_some_iff.1 hp).1
  have hown := (ht.own j p tv hp h1).1
  rw [hv] at ho
  refine ⟨tv, ?_, ?_, hown.rd, hown.sl⟩
  · rw [Nat.zero_add, World.ownsRow.cellAt ho (j * 2) (by omega)]; exact h2
  · rw [Nat.zero_add, World.ownsRow.cellAt ho (j * 2 + 1) (by omega)]; exact h3

theorem set2 (A R : List Value) (x y x' y' : Value) (k : Nat) (hA : A.length = k * 2) :
    ((A ++ x :: y :: R).set (k * 2) x').set (k * 2 + 1) y' = A ++ x' :: y' :: R := by
  rw [List.set_append_right _ _ (by omega), List.set_append_right _ _ (by omega)]
  rw [show k * 2 - A.length = 0 by omega, show k * 2 + 1 - A.length = 1 by omega]
  rfl

end Go.Proofs.YtakkdniikhgpdaaGreatDoor

namespace Go.Proofs.YtakkdniikhgpdaaGreatDoor
open Go.RowKit

end Go.Proofs.YtakkdniikhgpdaaGreatDoor

namespace Go.Proofs.YtakkdniikhgpdaaGreatDoor
open Go.RowKit

end Go.Proofs.YtakkdniikhgpdaaGreatDoor

namespace Go.Proofs.YtakkdniikhgpdaaGreatDoor
open Go.RowKit

theorem eqIntS_false_of {za zb : List Int} (k : Nat) (h : za[k]?.getD 0 ≠ zb[k]?.getD 0) : decide (za = zb) = false := by
  simp only [decide_eq_false_iff_not]; intro e; exact h (by rw [e])

end Go.Proofs.YtakkdniikhgpdaaGreatDoor

namespace Go.Proofs.YtakkdniikhgpdaaGreatDoor
open Go.RowKit

/-- Lists that are not too long. -/
structure NOk (p : Nod) : Prop where
  lead : p.lead.length ≤ 1048576
  leads : ∀ c ∈ p.lead, c.t.length ≤ 1048576
  key : p.key.length ≤ 1048576
  text : p.text.length ≤ 1048576
  units : p.units.length ≤ 1048576
  tail : p.tail.length ≤ 1048576
  tails : ∀ c ∈ p.tail, c.t.length ≤ 1048576

/-- A node's lists read. -/
structure NRd (B : Nat) (w : World) (p : Nod) (lv kv xv uv tv : Value) : Prop where
  rl : RdC B w lv p.lead
  rk : RdI B w kv p.key
  rx : RdB B w xv p.text
  ru : RdI B w uv p.units
  rt : RdC B w tv p.tail
theorem NRd.keep {B : Nat} {w w' : World} {p : Nod} {lv kv xv uv tv : Value} (h : NRd B w p lv kv xv uv tv) (hg : w.grownBy w' none) : NRd B w' p lv kv xv uv tv :=
  ⟨h.rl.keep hg, h.rk.keep hg, h.rx.keep hg, h.ru.keep hg, h.rt.keep hg⟩
theorem NRd.wide {B B' : Nat} {w : World} {p : Nod} {lv kv xv uv tv : Value} (h : NRd B w p lv kv xv uv tv) (hB : B ≤ B') : NRd B' w p lv kv xv uv tv :=
  ⟨h.rl.wide hB, h.rk.wideC hB, h.rx.wideC hB, h.ru.wideC hB, h.rt.wide hB⟩
theorem NodAt.rd {B : Nat} {w : World} {b o : Nat} {p : Nod} {lv kv xv uv tv : Value} (h : NodAt B w b o p lv kv xv uv tv) : NRd B w p lv kv xv uv tv := ⟨h.rl, h.rk, h.rx, h.ru, h.rt⟩

/-- The cells of two nodes that were laid for a call. -/
theorem node_cells2 {w w1 : World} {a b c d e f g h a' b' c' d' e' f' g' h' : Value} {t t' : TypeId} (hg : ((w.alloc (.cells #[a, b, c, d, e, f, g, h] t)).alloc (.cells #[a', b', c', d', e', f', g', h'] t')).grownBy w1 none) :
    (w1.cell? ⟨w.heap.size, 0, none⟩ = some a ∧ w1.cell? ⟨w.heap.size, 1, none⟩ = some b ∧ w1.cell? ⟨w.heap.size, 2, none⟩ = some c ∧ w1.cell? ⟨w.heap.size, 3, none⟩ = some d ∧
    w1.cell? ⟨w.heap.size, 4, none⟩ = some e ∧ w1.cell? ⟨w.heap.size, 5, none⟩ = some f ∧ w1.cell? ⟨w.heap.size, 6, none⟩ = some g ∧ w1.cell? ⟨w.heap.size, 7, none⟩ = some h) ∧
    (w1.cell? ⟨w.heap.size + 1, 0, none⟩ = some a' ∧ w1.cell? ⟨w.heap.size + 1, 1, none⟩ = some b' ∧ w1.cell? ⟨w.heap.size + 1, 2, none⟩ = some c' ∧ w1.cell? ⟨w.heap.size + 1, 3, none⟩ = some d' ∧
    w1.cell? ⟨w.heap.size + 1, 4, none⟩ = some e' ∧ w1.cell? ⟨w.heap.size + 1, 5, none⟩ = some f' ∧ w1.cell? ⟨w.heap.size + 1, 6, none⟩ = some g' ∧ w1.cell? ⟨w.heap.size + 1, 7, none⟩ = some h') :=
  ⟨⟨hg.cell (by simp [go_sem]) (by simp), hg.cell (by simp [go_sem]) (by simp), hg.cell (by simp [go_sem]) (by simp), hg.cell (by simp [go_sem]) (by simp),
    hg.cell (by simp [go_sem]) (by simp), hg.cell (by simp [go_sem]) (by simp), hg.cell (by simp [go_sem]) (by simp), hg.cell (by simp [go_sem]) (by simp)⟩,
   ⟨hg.cell (by simp [go_sem]) (by simp), hg.cell (by simp [go_sem]) (by simp), hg.cell (by simp [go_sem]) (by simp), hg.cell (by simp [go_sem]) (by simp),
    hg.cell (by simp [go_sem]) (by simp), hg.cell (by simp [go_sem]) (by simp), hg.cell (by simp [go_sem]) (by simp), hg.cell (by simp [go_sem]) (by simp)⟩⟩

end Go.Proofs.YtakkdniikhgpdaaGreatDoor

namespace Go.Proofs.YtakkdniikhgpdaaGreatDoor
open Go.RowKit

theorem OwC.set {B : Nat} {w : World} {v : Value} {cs : List Cm} (h : OwC B w v cs) (b j : Nat) (x : Value) (hb : b < B) : OwC B (w.setCell ⟨b, j, none⟩ x) v cs := by
  obtain ⟨g, tvs, hv, hm, ho, ht⟩ := h
  refine ⟨g, tvs, hv, hm, row_setC ho _ _ (fun e => by have := World.ownsRow.lt ho _ e; simp only at this; omega), ht.len, fun i p tv h1 h2 => ?_, ht.apart⟩
  have := ht.own i p tv h1 h2
  exact ⟨this.1.setC _ _ (by simpa using hb), this.2⟩
theorem OwC.base {B B' : Nat} {w : World} {v : Value} {cs : List Cm} (h : OwC B w v cs) (hB : B' ≤ B) : OwC B' w v cs := by
  obtain ⟨g, tvs, hv, hm, ho, ht⟩ := h
  exact ⟨g, tvs, hv, hm, row_base hB ho, ht.len, fun i p tv h1 h2 => ⟨row_base hB (ht.own i p tv h1 h2).1, (ht.own i p tv h1 h2).2⟩, ht.apart⟩

/-- Eight cells of a block. -/
structure C8 (w : World) (b : Nat) (a0 a1 a2 a3 a4 a5 a6 a7 : Value) : Prop where
  c0 : w.cell? ⟨b, 0, none⟩ = some a0
  c1 : w.cell? ⟨b, 1, none⟩ = some a1
  c2 : w.cell? ⟨b, 2, none⟩ = some a2
  c3 : w.cell? ⟨b, 3, none⟩ = some a3
  c4 : w.cell? ⟨b, 4, none⟩ = some a4
  c5 : w.cell? ⟨b, 5, none⟩ = some a5
  c6 : w.cell? ⟨b, 6, none⟩ = some a6
  c7 : w.cell? ⟨b, 7, none⟩ = some a7
  fz : ∀ j, w.frozen? ⟨b, j, none⟩ = false
theorem C8.keep {w w' : World} {b : Nat} {a0 a1 a2 a3 a4 a5 a6 a7 : Value} (h : C8 w b a0 a1 a2 a3 a4 a5 a6 a7) (hg : w.grownBy w' none) : C8 w' b a0 a1 a2 a3 a4 a5 a6 a7 :=
  ⟨hg.cell h.c0 (by simp), hg.cell h.c1 (by simp), hg.cell h.c2 (by simp), hg.cell h.c3 (by simp), hg.cell h.c4 (by simp), hg.cell h.c5 (by simp), hg.cell h.c6 (by simp), hg.cell h.c7 (by simp),
    fun j => (World.frozen?_of_block (hg.block b (World.block_lt_of_cell? w _ h.c0) (by simp))).trans (h.fz j)⟩

theorem C8.p1 {w : World} {b : Nat} {a0 a1 a2 a3 a4 a5 a6 a7 : Value} (h : C8 w b a0 a1 a2 a3 a4 a5 a6 a7) (x : Value) : C8 (w.setCell ⟨b, 1, none⟩ x) b a0 x a2 a3 a4 a5 a6 a7 := by
  obtain ⟨c0, c1, c2, c3, c4, c5, c6, c7, fz⟩ := h
  exact ⟨by simp [go_sem, c0], by simp [go_sem, c1], by simp [go_sem, c2], by simp [go_sem, c3], by simp [go_sem, c4], by simp [go_sem, c5], by simp [go_sem, c6], by simp [go_sem, c7], fun j => by simpa using fz j⟩
theorem C8.p2 {w : World} {b : Nat} {a0 a1 a2 a3 a4 a5 a6 a7 : Value} (h : C8 w b a0 a1 a2 a3 a4 a5 a6 a7) (x : Value) : C8 (w.setCell ⟨b, 2, none⟩ x) b a0 a1 x a3 a4 a5 a6 a7 := by
  obtain ⟨c0, c1, c2, c3, c4, c5, c6, c7, fz⟩ := h
  exact ⟨by simp [go_sem, c0], by simp [go_sem, c1], by simp [go_sem, c2], by simp [go_sem, c3], by simp [go_sem, c4], by simp [go_sem, c5], by simp [go_sem, c6], by simp [go_sem, c7], fun j => by simpa using fz j⟩
theorem C8.p3 {w : World} {b : Nat} {a0 a1 a2 a3 a4 a5 a6 a7 : Value} (h : C8 w b a0 a1 a2 a3 a4 a5 a6 a7) (x : Value) : C8 (w.setCell ⟨b, 3, none⟩ x) b a0 a1 a2 x a4 a5 a6 a7 := by
  obtain ⟨c0, c1, c2, c3, c4, c5, c6, c7, fz⟩ := h
  exact ⟨by simp [go_sem, c0], by simp [go_sem, c1], by simp [go_sem, c2], by simp [go_sem, c3], by simp [go_sem, c4], by simp [go_sem, c5], by simp [go_sem, c6], by simp [go_sem, c7], fun j => by simpa using fz j⟩
theorem C8.p4 {w : World} {b : Nat} {a0 a1 a2 a3 a4 a5 a6 a7 : Value} (h : C8 w b a0 a1 a2 a3 a4 a5 a6 a7) (x : Value) : C8 (w.setCell ⟨b, 4, none⟩ x) b a0 a1 a2 a3 x a5 a6 a7 := by
  obtain ⟨c0, c1, c2, c3, c4, c5, c6, c7, fz⟩ := h
  exact ⟨by simp [go_sem, c0], by simp [go_sem, c1], by simp [go_sem, c2], by simp [go_sem, c3], by simp [go_sem, c4], by simp [go_sem, c5], by simp [go_sem, c6], by simp [go_sem, c7], fun j => by simpa using fz j⟩
theorem C8.p5 {w : World} {b : Nat} {a0 a1 a2 a3 a4 a5 a6 a7 : Value} (h : C8 w b a0 a1 a2 a3 a4 a5 a6 a7) (x : Value) : C8 (w.setCell ⟨b, 5, none⟩ x) b a0 a1 a2 a3 a4 x a6 a7 := by
  obtain ⟨c0, c1, c2, c3, c4, c5, c6, c7, fz⟩ := h
  exact ⟨by simp [go_sem, c0], by simp [go_sem, c1], by simp [go_sem, c2], by simp [go_sem, c3], by simp [go_sem, c4], by simp [go_sem, c5], by simp [go_sem, c6], by simp [go_sem, c7], fun j => by simpa using fz j⟩
theorem C8.p6 {w : World} {b : Nat} {a0 a1 a2 a3 a4 a5 a6 a7 : Value} (h : C8 w b a0 a1 a2 a3 a4 a5 a6 a7) (x : Value) : C8 (w.setCell ⟨b, 6, none⟩ x) b a0 a1 a2 a3 a4 a5 x a7 := by
  obtain ⟨c0, c1, c2, c3, c4, c5, c6, c7, fz⟩ := h
  exact ⟨by simp [go_sem, c0], by simp [go_sem, c1], by simp [go_sem, c2], by simp [go_sem, c3], by simp [go_sem, c4], by simp [go_sem, c5], by simp [go_sem, c6], by simp [go_sem, c7], fun j => by simpa using fz j⟩
theorem C8.p7 {w : World} {b : Nat} {a0 a1 a2 a3 a4 a5 a6 a7 : Value} (h : C8 w b a0 a1 a2 a3 a4 a5 a6 a7) (x : Value) : C8 (w.setCell ⟨b, 7, none⟩ x) b a0 a1 a2 a3 a4 a5 a6 x := by
  obtain ⟨c0, c1, c2, c3, c4, c5, c6, c7, fz⟩ := h
  exact ⟨by simp [go_sem, c0], by simp [go_sem, c1], by simp [go_sem, c2], by simp [go_sem, c3], by simp [go_sem, c4], by simp [go_sem, c5], by simp [go_sem, c6], by simp [go_sem, c7], fun j => by simpa using fz j⟩
theorem C8.other {w : World} {b : Nat} {a0 a1 a2 a3 a4 a5 a6 a7 : Value} (h : C8 w b a0 a1 a2 a3 a4 a5 a6 a7) (b' j : Nat) (x : Value) (hb : b ≠ b') : C8 (w.setCell ⟨b', j, none⟩ x) b a0 a1 a2 a3 a4 a5 a6 a7 := by
  have hg : w.grownBy (w.setCell ⟨b', j, none⟩ x) (some b') := ⟨rfl, rfl, rfl, by simp, fun i _ hn => Below.heap_setCell _ _ _ _ (fun e => hn (by rw [e]))⟩
  have hn : some b ≠ some b' := fun e => hb (Option.some.inj e)
  exact ⟨hg.cell h.c0 hn, hg.cell h.c1 hn, hg.cell h.c2 hn, hg.cell h.c3 hn, hg.cell h.c4 hn, hg.cell h.c5 hn, hg.cell h.c6 hn, hg.cell h.c7 hn,
    fun i => (World.frozen?_of_block (hg.block b (World.block_lt_of_cell? w _ h.c0) hn)).trans (h.fz i)⟩

end Go.Proofs.YtakkdniikhgpdaaGreatDoor

namespace Go.Proofs.YtakkdniikhgpdaaGreatDoor
open Go.RowKit

theorem run_noneF {P : Program} {w : World} (base : Nat) (t ty e : TypeId) (i : TypeInfo) (size : Nat) (ht : P.underlying t = some (.slice e)) (hi : P.info? e = some i)
    (v : Value) (n : Nat) (xs : List Value) (hown : w.ownsRow base e size v n xs) (c : Nat) : (Builtin.append_ #[t, t] ty #[v, .slice none 0 c]).run P w = .ok v w := by
  rcases hown.2 with ⟨rfl, rfl⟩ | ⟨g, cap, cur, rfl, _, _, hnc, _⟩
  · simp [Builtin.append_, run_underlying ht, sizeOf, typeInfo, hi, Builtin.lenOf, Builtin.firstCells]
  · simp [Builtin.append_, run_underlying ht, sizeOf, typeInfo, hi, Builtin.lenOf, Builtin.firstCells, hnc, storeCells]

theorem wpList_append_knownF {P : Program} {w : World} {ops : Array Oper} {rest : List Oper} {o : Oper} {a : Act} {Q : Exit → Act → World → Prop} (hgd : o.guard = none) (s x : Operand) (t : TypeId)
    (ho : o.op = .call { callee := .builtin .append, args := #[s, x], argTypes := #[t, t] }) (v xv v' : Value) (w' : World) (hs : a.eval s = v) (hx : a.eval x = xv)
    (hrun : (Builtin.append_ #[t, t] o.type #[v, xv]).run P w = .ok v' w') (h : wpList P ops Q rest (a.put o.dst v') w') : wpList P ops Q (o :: rest) a w := by
  refine wpList_plain hgd fun K hK => ?_
  unfold Oper.wp
  simp only [execOp, ho, resolve, invoke, builtin, Sem.run_bind, Sem.run_pure, Result.andThen_ok, List.map_toArray, List.map_cons, List.map_nil, hs, hx, hrun]
  exact hK _ _ h

/-- An empty row that has just been laid. -/
theorem row_new (w : World) (e : TypeId) (size : Nat) : (w.alloc (Obj.cells #[] e)).ownsRow w.heap.size e size (.slice (some ⟨w.heap.size, 0, none⟩) 0 0) 0 [] :=
  ⟨by simp, .inr ⟨w.heap.size, 0, #[], rfl, Nat.le_refl _, by show (w.heap.push _)[w.heap.size]? = _; simp, Nat.le_refl _, by unfold maxLen; omega, by simp, by simp⟩⟩

/-- 'append(v, t...)' of numbers that are read. -/
theorem append_bytes (B B' : Nat) (w : World) (v tv : Value) (ys t : List Int) (hown : Ow .u8 5 B w v ys) (hrd : Rd .u8 B' w tv t) (hB : B ≤ w.heap.size) (hn : ys.length + t.length ≤ 100000000000) :
    ∃ v' w', (Builtin.append_ #[22, 22] 22 #[v, tv]).run Tryz.prog w = .ok v' w' ∧ Ow .u8 5 B w' v' (ys ++ t) ∧ w.grownBy w' v.ownBlock ∧ (v'.ownBlock = v.ownBlock ∨ v'.ownBlock = some w.heap.size) := by
  obtain ⟨i0, hi, hz0, hz1, hz2⟩ := info_parts info5
  obtain ⟨a, cap, htv, hr⟩ := hrd
  subst htv
  cases a with
  | none =>
    have ht : t = [] := by
      rcases t with _ | ⟨z, zs⟩
      · rfl
      · obtain ⟨b, off, ha, _⟩ := hr (by simp); cases ha
    subst ht
    exact ⟨v, w, run_noneF B _ _ _ i0 1 Tryz.underlying22 hi v _ _ hown cap, by simpa using hown, World.grownBy.refl _ _, .inl rfl⟩
  | some ad =>
    have hnews : ∀ j u, (t.map (Value.int .u8))[j]? = some u → w.cell? (ad.add j) = some u := by
      intro j u hj
      have hjl : j < t.length := by have := (List.getElem?_eq_some_iff.1 hj).1; simpa using this
      obtain ⟨b2, off2, ha, _, hc⟩ := hr (fun e => by rw [e] at hjl; simp at hjl)
      cases ha
      rw [Addr.add_lit, hc j hjl]
      simpa [hjl] using hj
    obtain ⟨v', w', hrun, h1, h2, _, h4⟩ := run_append_own_at (P := Tryz.prog) w B 22 22 5 i0 (.int .u8 0) 1 1 Tryz.underlying22 hi hz0 hz1 hz2 rfl (by decide) v ys.length (ys.map (Value.int .u8)) hown ad t.length cap (t.map (Value.int .u8)) (by simp) hnews
      (by intro u hu; simp only [List.mem_map] at hu; obtain ⟨z, _, rfl⟩ := hu; rfl) (by unfold maxLen; omega) (by omega) hB
    exact ⟨v', w', hrun, by unfold Ow; simpa using h1, h2, h4⟩

set_option maxHeartbeats 1000000 in
theorem l1copy_exact (a : Option Addr) (n cap : Nat) (v' : Value) (w w' : World) (hrun : (Builtin.append_ #[22, 22] 22 #[.slice none 0 0, .slice a n cap]).run Tryz.prog w = .ok v' w') :
    Calls Tryz.prog 24 #[.slice a n cap] w fun e w2 => e = .returned v' ∧ w' = w2 := by
  go_enter Tryz.func24, Tryz.ntmps24
  go_wp2_with (at_builtin; refine wpList_append_knownF rfl _ _ _ rfl _ _ _ _ rfl rfl hrun ?_)
  go_ret
  exact ⟨rfl, rfl⟩

theorem l1copy_any (v : Value) (zs : List Int) (w : World) (hv : Rd .u8 w.heap.size w v zs) (hn : zs.length ≤ 4194304) :
    Calls Tryz.prog 24 #[v] w fun e w' => ∃ v', e = .returned v' ∧ Ow .u8 5 w.heap.size w' v' zs ∧ w.grownBy w' none := by
  obtain ⟨v', w', hrun, o', g', _⟩ := append_bytes w.heap.size w.heap.size w (.slice none 0 0) v [] zs ⟨by simp, .inl ⟨rfl, rfl⟩⟩ hv (Nat.le_refl _) (by simp; omega)
  obtain ⟨a, cap, hv0, _⟩ := id hv
  subst hv0
  refine (l1copy_exact a zs.length cap v' w w' hrun).mono ?_
  rintro e w2 ⟨rfl, rfl⟩
  exact ⟨v', rfl, by simpa using o', g'⟩

end Go.Proofs.YtakkdniikhgpdaaGreatDoor

namespace Go.Proofs.YtakkdniikhgpdaaGreatDoor
open Go.RowKit

theorem grown_set (w : World) (a : Addr) (u : Value) : w.grownBy (w.setCell a u) (some a.block) :=
  ⟨rfl, rfl, rfl, by simp, fun k _ hk => heap_setCell_other w a k u (fun e => hk (by simp [e]))⟩
theorem row_set {B : Nat} {w : World} {e : TypeId} {size n : Nat} {v : Value} {xs : List Value} (h : w.ownsRow B e size v n xs) (a : Addr) (u : Value) (hb : v.ownBlock ≠ some a.block) : (w.setCell a u).ownsRow B e size v n xs :=
  World.ownsRow.kept h (grown_set w a u) (.inr hb)
theorem Ow.set {q : IntKind} {t : TypeId} {B : Nat} {w : World} {v : Value} {zs : List Int} (h : Ow q t B w v zs) (a : Addr) (u : Value) (hb : a.block < B) : Ow q t B (w.setCell a u) v zs :=
  row_set h a u (fun e => by have := World.ownsRow.lt h _ e; omega)
theorem grown_both {W w1 : World} {a : Addr} {v : Value} (hg : W.grownBy w1 none) (h : W.cell? a = some v) (hf : W.frozen? a = false) : w1.cell? a = some v ∧ w1.frozen? a = false :=
  ⟨hg.cell h (by simp), (World.frozen?_of_block (hg.block a.block (World.block_lt_of_cell? W a h) (by simp))).trans hf⟩

/-- One element lies at block b from cell o on; its Text's value is tv. -/
structure PcAt (B : Nat) (w : World) (b o : Nat) (p : Pc) (tv : Value) : Prop where
  k : w.cell? ⟨b, o, none⟩ = some (.int .i64 p.k)
  t : w.cell? ⟨b, o + 1, none⟩ = some tv
  n : w.cell? ⟨b, o + 2, none⟩ = some (.int .i64 p.n)
  rd : RdB B w tv p.t
  sl : Sl tv p.t.length

/-- The slice value v reads as the elements doc; all lies below block B. -/
def RdP (B : Nat) (w : World) (v : Value) (doc : List Pc) : Prop :=
  ∃ a cap, v = .slice a doc.length cap ∧ doc.length ≤ cap ∧ cap ≤ maxLen ∧ (doc ≠ [] → ∃ b off, a = some ⟨b, off, none⟩ ∧ b < B ∧ ∀ j p, doc[j]? = some p → ∃ tv, PcAt B w b (off + j * 3) p tv)

theorem PcAt.beside {B : Nat} {w w' : World} {b o : Nat} {p : Pc} {tv : Value} {row : Option Nat} (h : PcAt B w b o p tv) (hb : b < B) (hg : w.grownBy w' row) (hr : ∀ k, row = some k → B ≤ k) : PcAt B w' b o p tv :=
  have hn : some b ≠ row := fun e => by have := hr b e.symm; omega
  ⟨hg.cell h.k hn, hg.cell h.t hn, hg.cell h.n hn, h.rd.beside hg hr, h.sl⟩

theorem RdP.beside {B : Nat} {w w' : World} {v : Value} {doc : List Pc} {row : Option Nat} (h : RdP B w v doc) (hg : w.grownBy w' row) (hr : ∀ k, row = some k → B ≤ k) : RdP B w' v doc := by
  obtain ⟨a, cap, hv, h1, h2, hh⟩ := h
  refine ⟨a, cap, hv, h1, h2, fun h0 => ?_⟩
  obtain ⟨b, off, ha, hb, hc⟩ := hh h0
  refine ⟨b, off, ha, hb, fun j p hp => ?_⟩
  obtain ⟨tv, ht⟩ := hc j p hp
  exact ⟨tv, ht.beside hb hg hr⟩

theorem RdP.keep {B : Nat} {w w' : World} {v : Value} {doc : List Pc} (h : RdP B w v doc) (hg : w.grownBy w' none) : RdP B w' v doc := h.beside hg (fun _ e => by cases e)

theorem Rd.wide {q : IntKind} {B B' : Nat} {w : World} {v : Value} {zs : List Int} (h : Rd q B w v zs) (hB : B ≤ B') : Rd q B' w v zs := by
  obtain ⟨a, cap, hv, hr⟩ := h
  refine ⟨a, cap, hv, fun h0 => ?_⟩
  obtain ⟨b, off, ha, hb, hc⟩ := hr h0
  exact ⟨b, off, ha, by omega, hc⟩

theorem RdP.wide {B B' : Nat} {w : World} {v : Value} {doc : List Pc} (h : RdP B w v doc) (hB : B ≤ B') : RdP B' w v doc := by
  obtain ⟨a, cap, hv, h1, h2, hh⟩ := h
  refine ⟨a, cap, hv, h1, h2, fun h0 => ?_⟩
  obtain ⟨b, off, ha, hb, hc⟩ := hh h0
  refine ⟨b, off, ha, by omega, fun j p hp => ?_⟩
  obtain ⟨tv, ht⟩ := hc j p hp
  exact ⟨tv, ⟨ht.k, ht.t, ht.n, ht.rd.wide hB, ht.sl⟩⟩

theorem RdP.at {B : Nat} {w : World} {v : Value} {doc : List Pc} (h : RdP B w v doc) (j : Nat) (hj : j < doc.length) :
    ∃ b off cap tv, v = .slice (some ⟨b, off, none⟩) doc.length cap ∧ b < B ∧ PcAt B w b (off + j * 3) doc[j] tv := by
  obtain ⟨a, cap, hv, h1, h2, hh⟩ := h
  obtain ⟨b, off, ha, hb, hc⟩ := hh (fun e => by rw [e] at hj; simp at hj)
  obtain ⟨tv, ht⟩ := hc j doc[j] (by simp [hj])
  exact ⟨b, off, cap, tv, by rw [hv, ha], hb, ht⟩

end Go.Proofs.YtakkdniikhgpdaaGreatDoor

