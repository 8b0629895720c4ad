import Derived.Laws.BytesArg
import Derived.Laws.IdiomStrings
import Derived.Test.YtakkdniikhgpdaaGreatDoorMAA
import Derived.Test.YtakkdniikhgpdaaGreatDoorNAB
import Derived.Test.YtakkdniikhgpdaaGreatDoorNAC
namespace Go.Proofs.YtakkdniikhgpdaaGreatDoor
open Go.RowKit

/-! Documents and lists of documents in memory from block B on, none of it in block r. -/

def Zo (B : Nat) (w : World) (r : Option Nat) (b : Nat) : Prop := B ≤ b ∧ b < w.heap.size ∧ some b ≠ r
/-- The text tv reads as t. -/
def TxR (B : Nat) (w : World) (r : Option Nat) (tv : Value) (t : List Int) : Prop :=
  ∃ a cap, tv = .slice a t.length cap ∧ t.length ≤ cap ∧ cap ≤ maxLen ∧ (t ≠ [] → ∃ b off, a = some ⟨b, off, none⟩ ∧ Zo B w r b ∧ ∀ j, j < t.length → w.cell? ⟨b, off + j, none⟩ = some (.int .u8 (t[j]?.getD 0)))
/-- An element at block b from cell o on. -/
def PcR (B : Nat) (w : World) (r : Option Nat) (b o : Nat) (p : Pc) : Prop :=
  ∃ tv, w.cell? ⟨b, o, none⟩ = some (.int .i64 p.k) ∧ w.cell? ⟨b, o + 1, none⟩ = some tv ∧ w.cell? ⟨b, o + 2, none⟩ = some (.int .i64 p.n) ∧ TxR B w r tv p.t
/-- A document. -/
def PiR (B : Nat) (w : World) (r : Option Nat) (v : Value) (ps : List Pc) : Prop :=
  ∃ a cap, v = .slice a ps.length cap ∧ ps.length ≤ cap ∧ cap ≤ maxLen ∧ (ps ≠ [] → ∃ b off, a = some ⟨b, off, none⟩ ∧ Zo B w r b ∧ ∀ j p, ps[j]? = some p → PcR B w r b (off + j * 3) p)
/-- A list of documents. -/
def DiR (B : Nat) (w : World) (r : Option Nat) (v : Value) (dss : List (List Pc)) : Prop :=
  ∃ a cap, v = .slice a dss.length cap ∧ dss.length ≤ cap ∧ cap ≤ maxLen ∧ (dss ≠ [] → ∃ b off, a = some ⟨b, off, none⟩ ∧ Zo B w r b ∧ ∀ j ds, dss[j]? = some ds → ∃ u, w.cell? ⟨b, off + j, none⟩ = some u ∧ PiR B w r u ds)

theorem Zo.row {B b : Nat} {w w' : World} {r : Option Nat} (h : Zo B w r b) (g : w.grownBy w' r) : Zo B w' r b := ⟨h.1, Nat.lt_of_lt_of_le h.2.1 g.size, h.2.2⟩
theorem TxR.row {B : Nat} {w w' : World} {r : Option Nat} {tv : Value} {t : List Int} (h : TxR B w r tv t) (g : w.grownBy w' r) : TxR B w' r tv t := by
  obtain ⟨a, cap, e, h1, h2, h3⟩ := h
  refine ⟨a, cap, e, h1, h2, fun h0 => ?_⟩
  obtain ⟨b, off, ha, hz, hc⟩ := h3 h0
  exact ⟨b, off, ha, hz.row g, fun j hj => g.cell (hc j hj) hz.2.2⟩
theorem PcR.row {B : Nat} {w w' : World} {r : Option Nat} {b o : Nat} {p : Pc} (h : PcR B w r b o p) (hb : some b ≠ r) (g : w.grownBy w' r) : PcR B w' r b o p := by
  obtain ⟨tv, h1, h2, h3, h4⟩ := h
  exact ⟨tv, g.cell h1 hb, g.cell h2 hb, g.cell h3 hb, h4.row g⟩
theorem PiR.row {B : Nat} {w w' : World} {r : Option Nat} {v : Value} {ps : List Pc} (h : PiR B w r v ps) (g : w.grownBy w' r) : PiR B w' r v ps := by
  obtain ⟨a, cap, e, h1, h2, h3⟩ := h
  refine ⟨a, cap, e, h1, h2, fun h0 => ?_⟩
  obtain ⟨b, off, ha, hz, hc⟩ := h3 h0
  exact ⟨b, off, ha, hz.row g, fun j p hp => (hc j p hp).row hz.2.2 g⟩
theorem DiR.row {B : Nat} {w w' : World} {r : Option Nat} {v : Value} {dss : List (List Pc)} (h : DiR B w r v dss) (g : w.grownBy w' r) : DiR B w' r v dss := by
  obtain ⟨a, cap, e, h1, h2, h3⟩ := h
  refine ⟨a, cap, e, h1, h2, fun h0 => ?_⟩
  obtain ⟨b, off, ha, hz, hc⟩ := h3 h0
  refine ⟨b, off, ha, hz.row g, fun j ds hp => ?_⟩
  obtain ⟨u, hu, hd⟩ := hc j ds hp
  exact ⟨u, g.cell hu hz.2.2, hd.row g⟩

/-- The same memory for another base and another block to be left alone. -/
theorem TxR.turn {B B' : Nat} {w : World} {r r' : Option Nat} {tv : Value} {t : List Int} (h : TxR B w r tv t) (f : ∀ b, Zo B w r b → Zo B' w r' b) : TxR B' w r' tv t := by
  obtain ⟨a, cap, e, h1, h2, h3⟩ := h
  refine ⟨a, cap, e, h1, h2, fun h0 => ?_⟩
  obtain ⟨b, off, ha, hz, hc⟩ := h3 h0
  exact ⟨b, off, ha, f b hz, hc⟩
theorem PcR.turn {B B' : Nat} {w : World} {r r' : Option Nat} {b o : Nat} {p : Pc} (h : PcR B w r b o p) (f : ∀ b, Zo B w r b → Zo B' w r' b) : PcR B' w r' b o p := by
  obtain ⟨tv, h1, h2, h3, h4⟩ := h
  exact ⟨tv, h1, h2, h3, h4.turn f⟩
theorem PiR.turn {B B' : Nat} {w : World} {r r' : Option Nat} {v : Value} {ps : List Pc} (h : PiR B w r v ps) (f : ∀ b, Zo B w r b → Zo B' w r' b) : PiR B' w r' v ps := by
  obtain ⟨a, cap, e, h1, h2, h3⟩ := h
  refine ⟨a, cap, e, h1, h2, fun h0 => ?_⟩
  obtain ⟨b, off, ha, hz, hc⟩ := h3 h0
  exact ⟨b, off, ha, f b hz, fun j p hp => (hc j p hp).turn f⟩
theorem DiR.turn {B B' : Nat} {w : World} {r r' : Option Nat} {v : Value} {dss : List (List Pc)} (h : DiR B w r v dss) (f : ∀ b, Zo B w r b → Zo B' w r' b) : DiR B' w r' v dss := by
  obtain ⟨a, cap, e, h1, h2, h3⟩ := h
  refine ⟨a, cap, e, h1, h2, fun h0 => ?_⟩
  obtain ⟨b, off, ha, hz, hc⟩ := h3 h0
  refine ⟨b, off, ha, f b hz, fun j ds hp => ?_⟩
  obtain ⟨u, hu, hd⟩ := hc j ds hp
  exact ⟨u, hu, hd.turn f⟩
theorem Zo.base {B B' : Nat} {w : World} {r : Option Nat} (hB : B' ≤ B) : ∀ b, Zo B w r b → Zo B' w r b := fun _ h => ⟨Nat.le_trans hB h.1, h.2.1, h.2.2⟩
theorem Zo.off {B : Nat} {w : World} {r : Option Nat} : ∀ b, Zo B w r b → Zo B w none b := fun _ h => ⟨h.1, h.2.1, by simp⟩
/-- A block beyond all of it, or before it. -/
theorem Zo.on {B B' : Nat} {w : World} {r : Option Nat} (x : Option Nat) (hB : B' ≤ B) (hx : ∀ k, x = some k → k < B ∨ w.heap.size ≤ k) : ∀ b, Zo B w r b → Zo B' w x b :=
  fun b h => ⟨Nat.le_trans hB h.1, h.2.1, fun e => by have := hx b e.symm; have h1 := h.1; have h2 := h.2.1; omega⟩
theorem TxR.keep {B : Nat} {w w' : World} {r : Option Nat} {tv : Value} {t : List Int} (h : TxR B w r tv t) (g : w.grownBy w' none) : TxR B w' r tv t := by
  obtain ⟨a, cap, e, h1, h2, h3⟩ := h
  refine ⟨a, cap, e, h1, h2, fun h0 => ?_⟩
  obtain ⟨b, off, ha, hz, hc⟩ := h3 h0
  exact ⟨b, off, ha, ⟨hz.1, Nat.lt_of_lt_of_le hz.2.1 g.size, hz.2.2⟩, fun j hj => g.cell (hc j hj) (by simp)⟩
theorem PcR.keep {B : Nat} {w w' : World} {r : Option Nat} {b o : Nat} {p : Pc} (h : PcR B w r b o p) (g : w.grownBy w' none) : PcR B w' r b o p := by
  obtain ⟨tv, h1, h2, h3, h4⟩ := h
  exact ⟨tv, g.cell h1 (by simp), g.cell h2 (by simp), g.cell h3 (by simp), h4.keep g⟩
theorem PiR.keep {B : Nat} {w w' : World} {r : Option Nat} {v : Value} {ps : List Pc} (h : PiR B w r v ps) (g : w.grownBy w' none) : PiR B w' r v ps := by
  obtain ⟨a, cap, e, h1, h2, h3⟩ := h
  refine ⟨a, cap, e, h1, h2, fun h0 => ?_⟩
  obtain ⟨b, off, ha, hz, hc⟩ := h3 h0
  exact ⟨b, off, ha, ⟨hz.1, Nat.lt_of_lt_of_le hz.2.1 g.size, hz.2.2⟩, fun j p hp => (hc j p hp).keep g⟩
theorem DiR.keep {B : Nat} {w w' : World} {r : Option Nat} {v : Value} {dss : List (List Pc)} (h : DiR B w r v dss) (g : w.grownBy w' none) : DiR B w' r v dss := by
  obtain ⟨a, cap, e, h1, h2, h3⟩ := h
  refine ⟨a, cap, e, h1, h2, fun h0 => ?_⟩
  obtain ⟨b, off, ha, hz, hc⟩ := h3 h0
  refine ⟨b, off, ha, ⟨hz.1, Nat.lt_of_lt_of_le hz.2.1 g.size, hz.2.2⟩, fun j ds hp => ?_⟩
  obtain ⟨u, hu, hd⟩ := hc j ds hp
  exact ⟨u, g.cell hu (by simp), hd.keep g⟩

theorem TxR.nil (B : Nat) (w : World) (r : Option Nat) : TxR B w r (.slice none 0 0) [] := ⟨none, 0, rfl, Nat.le_refl _, by unfold maxLen; omega, fun h => absurd rfl h⟩
theorem TxR.rd {B : Nat} {w : World} {r : Option Nat} {tv : Value} {t : List Int} (h : TxR B w r tv t) : RdB w.heap.size w tv t := by
  obtain ⟨a, cap, e, h1, h2, h3⟩ := h
  refine ⟨a, cap, e, fun h0 => ?_⟩
  obtain ⟨b, off, ha, hz, hc⟩ := h3 h0
  exact ⟨b, off, ha, hz.2.1, hc⟩
theorem TxR.sl {B : Nat} {w : World} {r : Option Nat} {tv : Value} {t : List Int} (h : TxR B w r tv t) : Sl tv t.length := by
  obtain ⟨a, cap, e, h1, h2, h3⟩ := h
  exact ⟨a, cap, e, h1, h2⟩
theorem txR_of {B : Nat} {w : World} {r : Option Nat} {tv : Value} {t : List Int} (h : OwB B w tv t) (hr : ∀ b, tv.ownBlock = some b → some b ≠ r) : TxR B w r tv t := by
  obtain ⟨a, cap, e, h1, h2⟩ := h.sl
  refine ⟨a, cap, e, h1, h2, fun h0 => ?_⟩
  obtain ⟨a', cap', e', hr'⟩ := h.rd
  rw [e] at e'
  simp only [Value.slice.injEq] at e'
  obtain ⟨rfl, _, rfl⟩ := e'
  obtain ⟨b, off, ha, hb, hc⟩ := hr' h0
  rcases h.2 with ⟨hv, hn⟩ | ⟨g, cap2, cur, hv, hg, _⟩
  · rw [e] at hv; simp only [Value.slice.injEq] at hv; rw [hv.1] at ha; cases ha
  · rw [e] at hv
    simp only [Value.slice.injEq] at hv
    obtain ⟨hv, _, _⟩ := hv
    rw [ha] at hv
    simp only [Option.some.injEq, Addr.mk.injEq] at hv
    refine ⟨b, off, ha, ⟨by omega, hb, ?_⟩, hc⟩
    refine hr b ?_
    rw [e, ha]
    rw [hv.2.1]
    rfl
theorem PiR.rdP {B : Nat} {w : World} {r : Option Nat} {v : Value} {ps : List Pc} (h : PiR B w r v ps) : RdP w.heap.size w v ps := by
  obtain ⟨a, cap, e, h1, h2, h3⟩ := h
  refine ⟨a, cap, e, h1, h2, fun h0 => ?_⟩
  obtain ⟨b, off, ha, hz, hc⟩ := h3 h0
  refine ⟨b, off, ha, hz.2.1, fun j p hp => ?_⟩
  obtain ⟨tv, c1, c2, c3, c4⟩ := hc j p hp
  exact ⟨tv, c1, c2, c3, c4.rd, c4.sl⟩

/-- A row of elements of one's own; the texts lie elsewhere. -/
def PoR (B : Nat) (w : World) (v : Value) (ps : List Pc) : Prop :=
  ∃ xs : List Value, w.ownsRow B 156 3 v ps.length xs ∧ ∀ (j : Nat) (p : Pc), ps[j]? = some p → ∃ tv, xs[j * 3]? = some (.int .i64 p.k) ∧ xs[j * 3 + 1]? = some tv ∧ xs[j * 3 + 2]? = some (.int .i64 p.n) ∧ TxR B w v.ownBlock tv p.t
/-- A row of documents of one's own; the documents lie elsewhere. -/
def DoR (B : Nat) (w : World) (v : Value) (dss : List (List Pc)) : Prop :=
  ∃ xs : List Value, w.ownsRow B 138 1 v dss.length xs ∧ ∀ (j : Nat) (ds : List Pc), dss[j]? = some ds → ∃ u, xs[j]? = some u ∧ PiR B w v.ownBlock u ds

theorem PoR.keep {B : Nat} {w w' : World} {v : Value} {ps : List Pc} (h : PoR B w v ps) (g : w.grownBy w' none) : PoR B w' v ps := by
  obtain ⟨xs, ho, ht⟩ := h
  refine ⟨xs, World.ownsRow.kept ho g (by cases v.ownBlock <;> simp), fun j p hp => ?_⟩
  obtain ⟨tv, h1, h2, h3, h4⟩ := ht j p hp
  exact ⟨tv, h1, h2, h3, h4.keep g⟩
theorem DoR.keep {B : Nat} {w w' : World} {v : Value} {dss : List (List Pc)} (h : DoR B w v dss) (g : w.grownBy w' none) : DoR B w' v dss := by
  obtain ⟨xs, ho, ht⟩ := h
  refine ⟨xs, World.ownsRow.kept ho g (by cases v.ownBlock <;> simp), fun j p hp => ?_⟩
  obtain ⟨u, h1, h2⟩ := ht j p hp
  exact ⟨u, h1, h2.keep g⟩
theorem PoR.nil (B : Nat) (w : World) : PoR B w (.slice none 0 0) [] := ⟨[], ⟨by simp, .inl ⟨rfl, rfl⟩⟩, fun j p h => by simp at h⟩
theorem DoR.nil (B : Nat) (w : World) : DoR B w (.slice none 0 0) [] := ⟨[], ⟨by simp, .inl ⟨rfl, rfl⟩⟩, fun j p h => by simp at h⟩
theorem row_sliceB {B : Nat} {w : World} {e : TypeId} {size n : Nat} {v : Value} {xs : List Value} (h : w.ownsRow B e size v n xs) : ∃ a cap, v = .slice a n cap := by
  rcases h.2 with ⟨hv, hn⟩ | ⟨g, cap, cur, hv, _⟩
  · exact ⟨none, 0, by rw [hv, hn]⟩
  · exact ⟨_, cap, hv⟩
theorem PoR.base {B B' : Nat} {w : World} {v : Value} {ps : List Pc} (h : PoR B w v ps) (hB : B' ≤ B) : PoR B' w v ps := by
  obtain ⟨xs, ho, ht⟩ := h
  refine ⟨xs, row_base hB ho, fun j p hp => ?_⟩
  obtain ⟨tv, h1, h2, h3, h4⟩ := ht j p hp
  exact ⟨tv, h1, h2, h3, h4.turn (Zo.base hB)⟩
theorem PoR.pi {B : Nat} {w : World} {v : Value} {ps : List Pc} (h : PoR B w v ps) : PiR B w none v ps := by
  obtain ⟨xs, ho, ht⟩ := h
  rcases id ho.2 with ⟨hv, hn⟩ | ⟨g, cap, cur, hv, hg, hcur, hnc, hcm, _⟩
  · refine ⟨none, 0, by rw [hv, hn], by omega, by unfold maxLen; omega, fun h0 => absurd (List.eq_nil_of_length_eq_zero hn) h0⟩
  · refine ⟨_, cap, hv, hnc, hcm, fun h0 => ⟨g, 0, rfl, ?_, fun j p hp => ?_⟩⟩
    · have := World.ownsRow.lt ho g (by rw [hv]; rfl)
      exact ⟨this.1, this.2, by simp⟩
    · obtain ⟨tv, h1, h2, h3, h4⟩ := ht j p hp
      have hj := (List.getElem?_eq_some_iff.1 hp).1
      rw [hv] at ho
      refine ⟨tv, ?_, ?_, ?_, h4.turn Zo.off⟩
      · rw [Nat.zero_add, World.ownsRow.cellAt ho (j * 3) (by omega)]; exact h1
      · rw [Nat.zero_add, World.ownsRow.cellAt ho (j * 3 + 1) (by omega)]; exact h2
      · rw [Nat.zero_add, World.ownsRow.cellAt ho (j * 3 + 2) (by omega)]; exact h3
theorem DoR.di {B : Nat} {w : World} {v : Value} {dss : List (List Pc)} (h : DoR B w v dss) : DiR B w none v dss := by
  obtain ⟨xs, ho, ht⟩ := h
  rcases id ho.2 with ⟨hv, hn⟩ | ⟨g, cap, cur, hv, hg, hcur, hnc, hcm, _⟩
  · refine ⟨none, 0, by rw [hv, hn], by omega, by unfold maxLen; omega, fun h0 => absurd (List.eq_nil_of_length_eq_zero hn) h0⟩
  · refine ⟨_, cap, hv, hnc, hcm, fun h0 => ⟨g, 0, rfl, ?_, fun j p hp => ?_⟩⟩
    · have := World.ownsRow.lt ho g (by rw [hv]; rfl)
      exact ⟨this.1, this.2, by simp⟩
    · obtain ⟨u, h1, h2⟩ := ht j p hp
      have hj := (List.getElem?_eq_some_iff.1 hp).1
      rw [hv] at ho
      exact ⟨u, by rw [Nat.zero_add, World.ownsRow.cellAt ho j (by omega)]; exact h1, h2.turn Zo.off⟩

theorem infoPc : (Tryz.prog.info? 156).map (fun i => (i.zero, i.size, i.bytes)) = some (some (.agg #[.int .i64 0, .slice none 0 0, .int .i64 0]), 3, 40) := by kernel_rfl
theorem infoDc : (Tryz.prog.info? 138).map (fun i => (i.zero, i.size, i.bytes)) = some (some (.slice none 0 0), 1, 24) := by kernel_rfl

def pcC (p : Pc) (tv : Value) : List Value := [.int .i64 p.k, tv, .int .i64 p.n]
def pcCs : List Pc → List Value → List Value
  | p :: ps, tv :: tvs => pcC p tv ++ pcCs ps tvs
  | _, _ => []
theorem pcCs_len : ∀ (ps : List Pc) (tvs : List Value), tvs.length = ps.length → (pcCs ps tvs).length = ps.length * 3
  | [], [], _ => rfl
  | _ :: ps, _ :: tvs, h => by simp only [List.length_cons, Nat.add_right_cancel_iff] at h; simp only [pcCs, pcC, List.length_append, List.length_cons, List.length_nil, pcCs_len ps tvs h]; omega
  | [], _ :: _, h => by simp at h
  | _ :: _, [], h => by simp at h
theorem pcCs_at : ∀ (ps : List Pc) (tvs : List Value) (j : Nat) (p : Pc) (tv : Value), ps[j]? = some p → tvs[j]? = some tv → (pcCs ps tvs)[j * 3]? = some (.int .i64 p.k) ∧ (pcCs ps tvs)[j * 3 + 1]? = some tv ∧ (pcCs ps tvs)[j * 3 + 2]? = some (.int .i64 p.n)
  | p0 :: ps, t0 :: tvs, 0, p, tv, hp, ht => by simp at hp ht; subst hp ht; exact ⟨rfl, rfl, rfl⟩
  | p0 :: ps, t0 :: tvs, j + 1, p, tv, hp, ht => by
    obtain ⟨h2, h3, h4⟩ := pcCs_at ps tvs j p tv (by simpa using hp) (by simpa using ht)
    refine ⟨?_, ?_, ?_⟩
    · rw [show (j + 1) * 3 = j * 3 + 3 by omega]; simpa [pcCs, pcC] using h2
    · rw [show (j + 1) * 3 + 1 = (j * 3 + 1) + 3 by omega]; simpa [pcCs, pcC] using h3
    · rw [show (j + 1) * 3 + 2 = (j * 3 + 2) + 3 by omega]; simpa [pcCs, pcC] using h4
  | [], _, _, _, _, hp, _ => by simp at hp
  | _ :: _, [], _, _, _, _, ht => by simp at ht
/-- Which element a cell is of. -/
theorem pcCs_mem : ∀ (ps : List Pc) (tvs : List Value), tvs.length = ps.length → ∀ (i : Nat) (u : Value), (pcCs ps tvs)[i]? = some u → ∃ (j : Nat) (p : Pc) (tv : Value), ps[j]? = some p ∧ tvs[j]? = some tv ∧ ((i = j * 3 ∧ u = .int .i64 p.k) ∨ (i = j * 3 + 1 ∧ u = tv) ∨ (i = j * 3 + 2 ∧ u = .int .i64 p.n))
  | [], [], _, i, u, h => by simp [pcCs] at h
  | p :: ps, tv :: tvs, hl, i, u, h => by
    simp only [List.length_cons, Nat.add_right_cancel_iff] at hl
    match i, h with
    | 0, h => simp [pcCs, pcC] at h; exact ⟨0, p, tv, rfl, rfl, .inl ⟨rfl, h.symm⟩⟩
    | 1, h => simp [pcCs, pcC] at h; exact ⟨0, p, tv, rfl, rfl, .inr (.inl ⟨rfl, h.symm⟩)⟩
    | 2, h => simp [pcCs, pcC] at h; exact ⟨0, p, tv, rfl, rfl, .inr (.inr ⟨rfl, h.symm⟩)⟩
    | i + 3, h =>
      obtain ⟨j, q, t, h1, h2, h3⟩ := pcCs_mem ps tvs hl i u (by simpa [pcCs, pcC] using h)
      refine ⟨j + 1, q, t, by simpa using h1, by simpa using h2, ?_⟩
      rcases h3 with ⟨e, h3⟩ | ⟨e, h3⟩ | ⟨e, h3⟩
      · exact .inl ⟨by omega, h3⟩
      · exact .inr (.inl ⟨by omega, h3⟩)
      · exact .inr (.inr ⟨by omega, h3⟩)
  | [], _ :: _, h, _, _, _ => by simp at h
  | _ :: _, [], h, _, _, _ => by simp at h

/-- The cells of a document that is read. -/
theorem piR_cells {B : Nat} {w : World} {r : Option Nat} {b off : Nat} : ∀ (ps : List Pc) (o : Nat), (∀ (j : Nat) (p : Pc), ps[j]? = some p → PcR B w r b (off + (o + j) * 3) p) → ∃ tvs : List Value, tvs.length = ps.length ∧ ∀ (j : Nat) (p : Pc) (tv : Value), ps[j]? = some p → tvs[j]? = some tv →
    w.cell? ⟨b, off + (o + j) * 3, none⟩ = some (.int .i64 p.k) ∧ w.cell? ⟨b, off + (o + j) * 3 + 1, none⟩ = some tv ∧ w.cell? ⟨b, off + (o + j) * 3 + 2, none⟩ = some (.int .i64 p.n) ∧ TxR B w r tv p.t
  | [], o, _ => ⟨[], rfl, fun j p tv h _ => by simp at h⟩
  | p :: ps, o, h => by
    obtain ⟨tv, h1, h2, h3, h4⟩ := h 0 p rfl
    obtain ⟨tvs, hl, ht⟩ := piR_cells ps (o + 1) (fun j q hq => by rw [show o + 1 + j = o + (j + 1) by omega]; exact h (j + 1) q (by simpa using hq))
    refine ⟨tv :: tvs, by simp [hl], fun j q u hq hu => ?_⟩
    match j, hq, hu with
    | 0, hq, hu => simp at hq hu; subst hq hu; exact ⟨h1, h2, h3, h4⟩
    | j + 1, hq, hu => rw [show o + (j + 1) = o + 1 + j by omega]; exact ht j q u (by simpa using hq) (by simpa using hu)

theorem oneCell_slice {v : Value} {n : Nat} (h : Sl v n) : v.oneCell' = true := by
  obtain ⟨a, cap, rfl, _⟩ := h; rfl

/-- 'append(v, u...)' of elements. -/
theorem append_pcs (B : Nat) (w : World) (v u : Value) (ps qs : List Pc) (hv : PoR B w v ps) (hu : PiR B w v.ownBlock u qs) (hB : B ≤ w.heap.size) (hn : ps.length + qs.length ≤ 1000000000000) :
    ∃ v' w', (Builtin.append_ #[138, 138] 138 #[v, u]).run Tryz.prog w = .ok v' w' ∧ PoR B w' v' (ps ++ qs) ∧ w.grownBy w' v.ownBlock ∧ (v'.ownBlock = v.ownBlock ∨ v'.ownBlock = some w.heap.size) := by
  obtain ⟨i0, hi, hz0, hz1, hz2⟩ := info_parts infoPc
  obtain ⟨xs, ho, ht⟩ := hv
  obtain ⟨a, cap, rfl, hc1, hc2, hq⟩ := hu
  cases a with
  | none =>
    have hq0 : qs = [] := by
      rcases qs with _ | ⟨z, zs⟩
      · rfl
      · obtain ⟨b, off, ha, _⟩ := hq (by simp); cases ha
    subst hq0
    exact ⟨v, w, run_noneF B _ _ _ i0 3 Tryz.underlying138 hi v _ _ ho cap, by rw [List.append_nil]; exact ⟨xs, ho, ht⟩, World.grownBy.refl _ _, .inl rfl⟩
  | some ad =>
    obtain ⟨tvs, htl, htv, hnews⟩ : ∃ tvs : List Value, tvs.length = qs.length ∧ (∀ (j : Nat) (p : Pc) (tv : Value), qs[j]? = some p → tvs[j]? = some tv → TxR B w v.ownBlock tv p.t) ∧ ∀ (j : Nat) (x : Value), (pcCs qs tvs)[j]? = some x → w.cell? (ad.add j) = some x := by
      by_cases h0 : qs = []
      · subst h0; exact ⟨[], rfl, fun j p tv h _ => by simp at h, fun j x h => by simp [pcCs] at h⟩
      · obtain ⟨b, off, ha, hz, hcc⟩ := hq h0
        cases ha
        obtain ⟨tvs, hl, hh⟩ := piR_cells (B := B) (w := w) (r := v.ownBlock) (b := b) (off := off) qs 0 (fun j p hp => by rw [Nat.zero_add]; exact hcc j p hp)
        refine ⟨tvs, hl, fun j p tv hp htv => (hh j p tv hp htv).2.2.2, fun i x hx => ?_⟩
        obtain ⟨j, p, tv, hp, htv, hcase⟩ := pcCs_mem qs tvs hl i x hx
        obtain ⟨c1, c2, c3, _⟩ := hh j p tv hp htv
        rw [Addr.add_lit]
        rw [Nat.zero_add] at c1 c2 c3
        rcases hcase with ⟨rfl, rfl⟩ | ⟨rfl, rfl⟩ | ⟨rfl, rfl⟩
        · exact c1
        · exact c2
        · exact c3
    obtain ⟨v', w', hrun, h1, h2, _, h4⟩ := run_append_own_at (P := Tryz.prog) w B 138 138 156 i0 (.agg #[.int .i64 0, .slice none 0 0, .int .i64 0]) 3 40 Tryz.underlying138 hi hz0 hz1 hz2 rfl (by decide) v ps.length xs ho ad qs.length cap (pcCs qs tvs) (pcCs_len qs tvs htl) hnews
      (by
        intro x hx
        obtain ⟨i, hi', rfl⟩ := List.getElem_of_mem hx
        obtain ⟨j, p, tv, hp, hjt, hcase⟩ := pcCs_mem qs tvs htl i _ (List.getElem?_eq_getElem hi')
        rcases hcase with ⟨_, e⟩ | ⟨_, e⟩ | ⟨_, e⟩
        · rw [e]; rfl
        · rw [e]; exact oneCell_slice (htv j p tv hp hjt).sl
        · rw [e]; rfl) (by unfold maxLen; omega) (by omega) hB
    refine ⟨v', w', hrun, ⟨xs ++ pcCs qs tvs, by rw [List.length_append]; exact h1, fun j p hp => ?_⟩, h2, h4⟩
    have hxl := ho.1
    have turn : ∀ tv, TxR B w v.ownBlock tv p.t → TxR B w' v'.ownBlock tv p.t := fun tv hT => by
      rcases h4 with e | e
      · rw [e]; exact hT.row h2
      · rw [e]
        obtain ⟨a2, cap2, e2, k1, k2, k3⟩ := hT
        refine ⟨a2, cap2, e2, k1, k2, fun h0 => ?_⟩
        obtain ⟨b, off, ha, hz, hcc⟩ := k3 h0
        exact ⟨b, off, ha, ⟨hz.1, Nat.lt_of_lt_of_le hz.2.1 h2.size, fun e => by have := hz.2.1; cases e; omega⟩, fun j hj => h2.cell (hcc j hj) hz.2.2⟩
    by_cases hj : j < ps.length
    · rw [List.getElem?_append_left hj] at hp
      obtain ⟨tv, k1, k2, k3, k4⟩ := ht j p hp
      refine ⟨tv, ?_, ?_, ?_, turn tv k4⟩
      · rw [List.getElem?_append_left (by omega)]; exact k1
      · rw [List.getElem?_append_left (by omega)]; exact k2
      · rw [List.getElem?_append_left (by omega)]; exact k3
    · rw [List.getElem?_append_right (by omega)] at hp
      have hjl := (List.getElem?_eq_some_iff.1 hp).1
      obtain ⟨tv, htv'⟩ : ∃ tv, tvs[j - ps.length]? = some tv := ⟨tvs[j - ps.length]'(by omega), List.getElem?_eq_getElem (by omega)⟩
      obtain ⟨k1, k2, k3⟩ := pcCs_at qs tvs (j - ps.length) p tv hp htv'
      refine ⟨tv, ?_, ?_, ?_, turn tv (htv _ p tv hp htv')⟩
      · rw [List.getElem?_append_right (by omega), show j * 3 - xs.length = (j - ps.length) * 3 by omega]; exact k1
      · rw [List.getElem?_append_right (by omega), show j * 3 + 1 - xs.length = (j - ps.length) * 3 + 1 by omega]; exact k2
      · rw [List.getElem?_append_right (by omega), show j * 3 + 2 - xs.length = (j - ps.length) * 3 + 2 by omega]; exact k3

theorem PiR.sl {B : Nat} {w : World} {r : Option Nat} {v : Value} {ps : List Pc} (h : PiR B w r v ps) : Sl v ps.length := by
  obtain ⟨a, cap, e, h1, h2, _⟩ := h
  exact ⟨a, cap, e, h1, h2⟩

/-- 'append(v, u)' of one document, whose cell lies in a block of its own. -/
theorem append_doc (B : Nat) (w : World) (v u : Value) (b : Nat) (dss : List (List Pc)) (ds : List Pc) (hv : DoR B w v dss) (hc : w.cell? ⟨b, 0, none⟩ = some u) (hu : PiR B w v.ownBlock u ds) (hB : B ≤ w.heap.size) (hn : dss.length ≤ 1000000000000) :
    ∃ v' w', (Builtin.append_ #[149, 149] 149 #[v, .slice (some ⟨b, 0, none⟩) 1 1]).run Tryz.prog w = .ok v' w' ∧ DoR B w' v' (dss ++ [ds]) ∧ w.grownBy w' v.ownBlock ∧ (v'.ownBlock = v.ownBlock ∨ v'.ownBlock = some w.heap.size) := by
  obtain ⟨i0, hi, hz0, hz1, hz2⟩ := info_parts infoDc
  obtain ⟨xs, ho, ht⟩ := hv
  have hnews : ∀ j x, ([u] : List Value)[j]? = some x → w.cell? ((⟨b, 0, none⟩ : Addr).add j) = some x := by
    intro j x hj
    rw [Addr.add_lit, Nat.zero_add]
    match j, hj with
    | 0, hj => simp at hj; subst hj; exact hc
    | j + 1, hj => simp at hj
  obtain ⟨v', w', hrun, h1, h2, _, h4⟩ := run_append_own_at (P := Tryz.prog) w B 149 149 138 i0 (.slice none 0 0) 1 24 Tryz.underlying149 hi hz0 hz1 hz2 rfl (by decide) v dss.length xs ho ⟨b, 0, none⟩ 1 1 [u] rfl hnews
      (by intro x hx; simp at hx; subst hx; exact oneCell_slice hu.sl) (by unfold maxLen; omega) (by omega) hB
  refine ⟨v', w', hrun, ⟨xs ++ [u], by simpa using h1, fun j p hp => ?_⟩, h2, h4⟩
  have hxl := ho.1
  have turn : ∀ x (q : List Pc), PiR B w v.ownBlock x q → PiR B w' v'.ownBlock x q := fun x q hT => by
    have h3 := hT.row h2
    rcases h4 with e | e
    · rw [e]; exact h3
    · rw [e]
      obtain ⟨a2, cap2, e2, k1, k2, k3⟩ := hT
      exact (⟨a2, cap2, e2, k1, k2, fun h0 => by
        obtain ⟨b, off, ha, hz, hcc⟩ := k3 h0
        have hz' : ∀ b, Zo B w v.ownBlock b → Zo B w' (some w.heap.size) b := fun b hz => ⟨hz.1, Nat.lt_of_lt_of_le hz.2.1 h2.size, fun e => by have := hz.2.1; cases e; omega⟩
        refine ⟨b, off, ha, hz' b hz, fun j p hp => ?_⟩
        obtain ⟨tv, c1, c2, c3, c4⟩ := hcc j p hp
        refine ⟨tv, h2.cell c1 hz.2.2, h2.cell c2 hz.2.2, h2.cell c3 hz.2.2, ?_⟩
        obtain ⟨a5, cap5, e5, m1, m2, m3⟩ := c4
        refine ⟨a5, cap5, e5, m1, m2, fun h0 => ?_⟩
        obtain ⟨b6, off6, ha6, hz6, hc6⟩ := m3 h0
        exact ⟨b6, off6, ha6, hz' b6 hz6, fun j hj => h2.cell (hc6 j hj) hz6.2.2⟩⟩ : PiR B w' (some w.heap.size) x q)
  by_cases hj : j < dss.length
  · rw [List.getElem?_append_left hj] at hp
    obtain ⟨x, k1, k2⟩ := ht j p hp
    exact ⟨x, by rw [List.getElem?_append_left (by omega)]; exact k1, turn x p k2⟩
  · have hjl := (List.getElem?_eq_some_iff.1 hp).1
    simp at hjl
    have hje : j = dss.length := by omega
    subst hje
    simp at hp
    subst hp
    exact ⟨u, by rw [show dss.length = xs.length by omega]; simp, turn u ds hu⟩

end Go.Proofs.YtakkdniikhgpdaaGreatDoor

namespace Go.Proofs.YtakkdniikhgpdaaGreatDoor
open Go.RowKit

/-- One element just laid. -/
theorem one_pc (w : World) (k n : Int) (tv : Value) (t : List Int) (B : Nat) (hB : B ≤ w.heap.size) (ht : TxR B (w.alloc (Obj.cells #[.int .i64 k, tv, .int .i64 n] 156)) (some w.heap.size) tv t) :
    PoR B (w.alloc (Obj.cells #[.int .i64 k, tv, .int .i64 n] 156)) (.slice (some ⟨w.heap.size, 0, none⟩) 1 1) [⟨k, t, n⟩] := by
  refine ⟨[.int .i64 k, tv, .int .i64 n], ⟨by simp, .inr ⟨w.heap.size, 1, #[.int .i64 k, tv, .int .i64 n], rfl, hB, by show (w.heap.push _)[w.heap.size]? = _; simp, Nat.le_refl _, by unfold maxLen; omega, by simp, by simp⟩⟩, fun j p hp => ?_⟩
  match j, hp with
  | 0, hp => simp at hp; subst hp; exact ⟨tv, rfl, rfl, rfl, ht⟩
  | j + 1, hp => simp at hp

set_option maxHeartbeats 1000000 in
set_option maxRecDepth 100000 in
theorem l2leaf_any (k : Int) (w : World) :
    Calls Tryz.prog 99 #[.int .i64 k] w fun e w' => ∃ v', e = .returned v' ∧ PoR w.heap.size w' v' (leafP k) ∧ w.grownBy w' none := by
  go_enter Tryz.func99, Tryz.ntmps99
  go_wp2
  go_ret
  exact ⟨_, rfl, one_pc w k 0 _ [] _ (Nat.le_refl _) (TxR.nil _ _ _), World.grownBy_alloc _ _ _⟩

theorem bytes_rowB (w : World) (wl : List Int) (hb : Bys wl) (c : Nat) :
    RdB (w.alloc (.cells (bytesRow (strOfNums wl) c) 5 ((bytesRow (strOfNums wl) c).size, (bytesRow (strOfNums wl) c).size + 1))).heap.size (w.alloc (.cells (bytesRow (strOfNums wl) c) 5 ((bytesRow (strOfNums wl) c).size, (bytesRow (strOfNums wl) c).size + 1))) (.slice (some ⟨w.heap.size, 0, none⟩) wl.length c) wl := by
  refine ⟨_, c, rfl, fun _ => ⟨w.heap.size, 0, rfl, by simp, fun j hj => ?_⟩⟩
  have := World.cell?_alloc_mark w (bytesRow (strOfNums wl) c) 5 ((bytesRow (strOfNums wl) c).size, (bytesRow (strOfNums wl) c).size + 1) j
  rw [Nat.zero_add, this]
  have hz := hb _ (List.getElem_mem hj)
  unfold bytesRow
  rw [Array.getElem?_append_left (by simp [strOfNums, hj])]
  simp [strOfNums, hj]
  omega
/-- '[]byte(s)'. -/
theorem conv_bytes (wl : List Int) (hb : Bys wl) (hn : wl.length ≤ 1000000000) (w : World) :
    ∃ cap w', (convert 9 22 (.string (strOfNums wl))).run Tryz.prog w = .ok (.slice (some ⟨w.heap.size, 0, none⟩) wl.length cap) w' ∧ TxR w.heap.size w' none (.slice (some ⟨w.heap.size, 0, none⟩) wl.length cap) wl ∧ w.grownBy w' none ∧ w'.heap.size = w.heap.size + 1 ∧ ∀ j, j < wl.length → w'.frozen? ⟨w.heap.size, j, none⟩ = false := by
  have h := run_bytes_of_string (P := Tryz.prog) w 9 22 5 (strOfNums wl) Tryz.underlying9 Tryz.underlying22 Tryz.underlying5
  rw [strOfNums_size] at h
  refine ⟨_, _, h, ?_, ?_, ?_, ?_⟩
  · obtain ⟨a, cap, e, hr⟩ := bytes_rowB w.drew wl hb (grownCap w wl.length 0 5)
    simp only [Value.slice.injEq] at e
    obtain ⟨rfl, _, rfl⟩ := e
    refine ⟨_, _, rfl, grownCap_ge _ _ _ _, grownCap_le_maxLen _ _ _ _ (by unfold maxLen; omega), fun h0 => ?_⟩
    obtain ⟨b, off, ha, hb', hc⟩ := hr h0
    exact ⟨b, off, ha, ⟨by cases ha; exact Nat.le_refl _, hb', by simp⟩, hc⟩
  · have gd : w.grownBy w.drew none := ⟨rfl, rfl, rfl, Nat.le_refl _, fun _ _ _ => rfl⟩
    exact grown_trans gd (World.grownBy_alloc _ _ _)
  · simp
  · intro j hj
    have hg := grownCap_ge w wl.length 0 5
    have hs : (bytesRow (strOfNums wl) (grownCap w wl.length 0 5)).size = grownCap w wl.length 0 5 := by
      simp only [bytesRow, Array.size_append, Array.size_replicate, strOfNums, ByteArray.size, List.map_toArray, List.size_toArray, List.length_map]
      omega
    have := World.frozen?_alloc_mark w.drew (bytesRow (strOfNums wl) (grownCap w wl.length 0 5)) 5 (bytesRow (strOfNums wl) (grownCap w wl.length 0 5)).size ((bytesRow (strOfNums wl) (grownCap w wl.length 0 5)).size + 1) j
    refine Eq.trans this ?_
    rw [hs]
    simp
    omega

set_option maxHeartbeats 1000000 in
set_option maxRecDepth 100000 in
theorem l2text_any (wl : List Int) (hb : Bys wl) (hn : wl.length ≤ 1000000000) (w : World) :
    Calls Tryz.prog 94 #[.string (strOfNums wl)] w fun e w' => ∃ v', e = .returned v' ∧ PoR w.heap.size w' v' (textP wl) ∧ w.grownBy w' none := by
  obtain ⟨cap, w1, hrun, hT, g1, hs, _⟩ := conv_bytes wl hb hn w
  go_enter Tryz.func94, Tryz.ntmps94
  go_wp2
  go_ret
  rw [← hs]
  have g2 := World.grownBy_alloc w1 (Obj.cells #[.int .i64 1, .slice (some ⟨w.heap.size, 0, none⟩) wl.length cap, .int .i64 0] 156) none
  exact ⟨_, rfl, one_pc w1 1 0 _ wl _ g1.size ((hT.turn (Zo.on (some w1.heap.size) (Nat.le_refl _) (fun k e => by cases e; exact .inr (Nat.le_refl _)))).keep g2), grown_trans g1 g2⟩

set_option maxHeartbeats 1000000 in
set_option maxRecDepth 100000 in
theorem l6text_any (v : Value) (zs : List Int) (w : World) (hv : RdB w.heap.size w v zs) (hn : zs.length ≤ 4194304) :
    Calls Tryz.prog 95 #[v] w fun e w' => ∃ v', e = .returned v' ∧ PoR w.heap.size w' v' (textP zs) ∧ w.grownBy w' none := by
  have HC := hide (l1copy_any v zs w hv hn)
  obtain ⟨a, cap, hv0, _⟩ := id hv
  subst hv0
  clear hv
  go_enter Tryz.func95, Tryz.ntmps95
  go_wp2_with fail
  refine HC.out.mono ?_
  rintro e w1 ⟨v1, rfl, o1, g1⟩
  obtain ⟨a1, c1, hv1, _, _⟩ := o1.sl
  have hlt : ∀ b, v1.ownBlock = some b → b < w1.heap.size := fun b e => (World.ownsRow.lt o1 b e).2
  have HT := hide (txR_of (r := some w1.heap.size) o1 (fun b e h => by cases h; have := hlt _ e; omega))
  subst hv1
  clear HC o1 hlt
  go_wp2
  go_ret
  have g2 := World.grownBy_alloc w1 (Obj.cells #[.int .i64 1, .slice a1 zs.length c1, .int .i64 0] 156) none
  exact ⟨_, rfl, one_pc w1 1 0 _ zs _ g1.size (HT.out.keep g2), grown_trans g1 g2⟩

end Go.Proofs.YtakkdniikhgpdaaGreatDoor

namespace Go.Proofs.YtakkdniikhgpdaaGreatDoor
open Go.RowKit
attribute [-go_sem] Builtin.append_

theorem PiR.at {B : Nat} {w : World} {r : Option Nat} {v : Value} {ps : List Pc} (h : PiR B w r v ps) (j : Nat) (hj : j < ps.length) :
    ∃ b off cap, v = .slice (some ⟨b, off, none⟩) ps.length cap ∧ Zo B w r b ∧ PcR B w r b (off + j * 3) ps[j] := by
  obtain ⟨a, cap, hv, h1, h2, hh⟩ := h
  obtain ⟨b, off, ha, hz, hc⟩ := hh (fun e => by rw [e] at hj; simp at hj)
  exact ⟨b, off, cap, by rw [hv, ha], hz, hc j ps[j] (by simp [hj])⟩
theorem PoR.sl {B : Nat} {w : World} {v : Value} {ps : List Pc} (h : PoR B w v ps) : Sl v ps.length := h.pi.sl
theorem PoR.lt {B : Nat} {w : World} {v : Value} {ps : List Pc} (h : PoR B w v ps) : ∀ k, v.ownBlock = some k → B ≤ k ∧ k < w.heap.size := by
  obtain ⟨xs, ho, _⟩ := h
  exact fun k e => World.ownsRow.lt ho k e
/-- One more element, laid in a block of its own. -/
theorem PoR.push {B : Nat} {w : World} {v : Value} {ps : List Pc} (k n : Int) (tv : Value) (t : List Int) (hv : PoR B w v ps) (hB : B ≤ w.heap.size) (ht : TxR B w v.ownBlock tv t) (hn : ps.length ≤ 100000000000) :
    ∃ v' w', (Builtin.append_ #[138, 138] 138 #[v, .slice (some ⟨w.heap.size, 0, none⟩) 1 1]).run Tryz.prog (w.alloc (Obj.cells #[.int .i64 k, tv, .int .i64 n] 156)) = .ok v' w' ∧ PoR B w' v' (ps ++ [⟨k, t, n⟩]) ∧ w.grownBy w' v.ownBlock ∧ (∃ a cap, v' = .slice a (ps.length + 1) cap) ∧ ∀ x, v'.ownBlock = some x → v.ownBlock = some x ∨ w.heap.size ≤ x := by
  have g := World.grownBy_alloc w (Obj.cells #[.int .i64 k, tv, .int .i64 n] 156) none
  have g' := World.grownBy_alloc w (Obj.cells #[.int .i64 k, tv, .int .i64 n] 156) v.ownBlock
  obtain ⟨v', w', h1, h2, h3, h4⟩ := append_pcs B (w.alloc (Obj.cells #[.int .i64 k, tv, .int .i64 n] 156)) v (.slice (some ⟨w.heap.size, 0, none⟩) 1 1) ps [⟨k, t, n⟩] (hv.keep g)
    ⟨_, 1, rfl, Nat.le_refl _, by unfold maxLen; omega, fun _ => ⟨w.heap.size, 0, rfl, ⟨hB, by simp, fun e => by have := hv.lt _ e.symm; omega⟩, fun j p hp => by
      match j, hp with
      | 0, hp => simp at hp; subst hp; exact ⟨tv, by simp [go_sem], by simp [go_sem], by simp [go_sem], ht.keep g⟩
      | j + 1, hp => simp at hp⟩⟩ (by simp; omega) (by simp; omega)
  refine ⟨v', w', h1, h2, grown_trans g' h3, ?_⟩
  obtain ⟨a, cap, e, _⟩ := h2.sl
  refine ⟨⟨a, cap, by simpa using e⟩, fun x hx => ?_⟩
  rcases h4 with h | h
  · exact .inl (by rw [← h]; exact hx)
  · rw [h] at hx; cases hx; right; simp

set_option maxHeartbeats 4000000 in
set_option maxRecDepth 100000 in
theorem l2copy_any (v : Value) (ps : List Pc) (B : Nat) (w : World) (hv : PiR B w none v ps) (hn : mes ps ≤ 4194304) :
    Calls Tryz.prog 104 #[v] w fun e w' => ∃ v', e = .returned v' ∧ PoR w.heap.size w' v' ps ∧ w.grownBy w' none := by
  have HV := hide hv
  obtain ⟨a, cap, hv0, _⟩ := id hv
  subst hv0
  have hl := mes_len ps
  clear hv
  go_enter Tryz.func104, Tryz.ntmps104
  go_wp2
  go_loopw [3, 4] (fun o i W => ∃ (k : Nat), k ≤ ps.length ∧ i = .int .i64 k ∧ PoR w.heap.size W o (ps.take k) ∧ w.grownBy W none)
    (fun _ i _ => ps.length - (intOf i).toNat)
  case atStart => exact ⟨0, Nat.zero_le _, rfl, PoR.nil _ _, World.grownBy.refl _ _⟩
  case round =>
    obtain ⟨k, hk, rfl, ho, hg⟩ := hrel
    by_cases hlt : k < ps.length
    · obtain ⟨b, off, cap', hva, hz, tv, c0, c1, c2, hT⟩ := (HV.out.keep hg).at k hlt
      cases hva
      have hzb : b < w.heap.size := by have := ((HV.out).at k hlt); obtain ⟨b', off', cap', e, hz', _⟩ := this; cases e; exact hz'.2.1
      have hm := mes_mem ps ps[k] (List.getElem_mem hlt)
      have gd : wr.grownBy wr.drew none := ⟨rfl, rfl, rfl, Nat.le_refl _, fun _ _ _ => rfl⟩
      have HC := hide (l1copy_any tv ps[k].t wr.drew (hT.keep gd).rd (by omega))
      have HP := hide (show ps.take (k + 1) = ps.take k ++ [ps[k]] by rw [List.take_add_one]; simp [hlt])
      obtain ⟨ta, tcap, htv, _, _⟩ := hT.sl
      subst htv
      obtain ⟨oa, oc, hov, _, _⟩ := ho.sl
      have HO := hide ho
      have hlk : (ps.take k).length = k := by simp; omega
      rw [hlk] at hov
      subst hov
      clear hT ho
      generalize ps[k] = p at *
      obtain ⟨I, hI⟩ : ∃ I : World → Prop, I = (fun W : World => W.cell? ⟨b, off + k * 3, none⟩ = some (.int .i64 p.k) ∧ W.cell? ⟨b, off + k * 3 + 1, none⟩ = some (.slice ta p.t.length tcap) ∧ W.cell? ⟨b, off + k * 3 + 2, none⟩ = some (.int .i64 p.n)) := ⟨_, rfl⟩
      have HI0 : I wr.drew := by rw [hI]; exact ⟨c0, c1, c2⟩
      go_wp2
      refine region_anyI I (fun _ => false) (by kernel_rfl) ?_
      show anyI _ _ _ _ _ _ 21 (Array.replicate 21 false) _ _
      refine anyI_take (i := 0) (.slice oa k oc) rfl (by kernel_rfl) (by kernel_rfl) (by kernel_rfl) (by kernel_rfl) (fun _ _ _ h => h) HI0 (yldI rfl (fun W hW => by go_simp)) ?_
      refine anyI_take (i := 1) (.slice (some ⟨b, off, none⟩) ps.length cap) rfl (by kernel_rfl) (by kernel_rfl) (by kernel_rfl) (by kernel_rfl) (fun _ _ _ h => h) HI0 (yldI rfl (fun W hW => by go_simp)) ?_
      refine anyI_take (i := 2) (.int .i64 k) rfl (by kernel_rfl) (by kernel_rfl) (by kernel_rfl) (by kernel_rfl) (fun _ _ _ h => h) HI0 (yldI rfl (fun W hW => by go_simp)) ?_
      refine anyI_take (i := 3) (.pointer (some ⟨b, off + k * 3, none⟩)) rfl (by kernel_rfl) (by kernel_rfl) (by kernel_rfl) (by kernel_rfl) (fun _ _ _ h => h) HI0 (yldI rfl (fun W hW => by go_simp)) ?_
      refine anyI_take (i := 4) (.pointer (some ⟨b, off + k * 3, none⟩)) rfl (by kernel_rfl) (by kernel_rfl) (by kernel_rfl) (by kernel_rfl) (fun _ _ _ h => h) HI0 (yldI rfl (fun W hW => by go_simp)) ?_
      refine anyI_take (i := 5) (.int .i64 p.k) rfl (by kernel_rfl) (by kernel_rfl) (by kernel_rfl) (by kernel_rfl) (fun _ _ _ h => h) HI0 (yldI rfl (fun W hW => by rw [hI] at hW; obtain ⟨h1, h2, h3⟩ := hW; go_simp)) ?_
      refine anyI_take (i := 6) (.slice (some ⟨b, off, none⟩) ps.length cap) rfl (by kernel_rfl) (by kernel_rfl) (by kernel_rfl) (by kernel_rfl) (fun _ _ _ h => h) HI0 (yldI rfl (fun W hW => by go_simp)) ?_
      refine anyI_take (i := 7) (.int .i64 k) rfl (by kernel_rfl) (by kernel_rfl) (by kernel_rfl) (by kernel_rfl) (fun _ _ _ h => h) HI0 (yldI rfl (fun W hW => by go_simp)) ?_
      refine anyI_take (i := 8) (.pointer (some ⟨b, off + k * 3, none⟩)) rfl (by kernel_rfl) (by kernel_rfl) (by kernel_rfl) (by kernel_rfl) (fun _ _ _ h => h) HI0 (yldI rfl (fun W hW => by go_simp)) ?_
      refine anyI_take (i := 9) (.pointer (some ⟨b, off + k * 3 + 1, none⟩)) rfl (by kernel_rfl) (by kernel_rfl) (by kernel_rfl) (by kernel_rfl) (fun _ _ _ h => h) HI0 (yldI rfl (fun W hW => by go_simp)) ?_
      refine anyI_take (i := 10) (.slice ta p.t.length tcap) rfl (by kernel_rfl) (by kernel_rfl) (by kernel_rfl) (by kernel_rfl) (fun _ _ _ h => h) HI0 (yldI rfl (fun W hW => by rw [hI] at hW; obtain ⟨h1, h2, h3⟩ := hW; go_simp)) ?_
      refine anyI_take (i := 12) (.slice (some ⟨b, off, none⟩) ps.length cap) rfl (by kernel_rfl) (by kernel_rfl) (by kernel_rfl) (by kernel_rfl) (fun _ _ _ h => h) HI0 (yldI rfl (fun W hW => by go_simp)) ?_
      refine anyI_take (i := 13) (.int .i64 k) rfl (by kernel_rfl) (by kernel_rfl) (by kernel_rfl) (by kernel_rfl) (fun _ _ _ h => h) HI0 (yldI rfl (fun W hW => by go_simp)) ?_
      refine anyI_take (i := 14) (.pointer (some ⟨b, off + k * 3, none⟩)) rfl (by kernel_rfl) (by kernel_rfl) (by kernel_rfl) (by kernel_rfl) (fun _ _ _ h => h) HI0 (yldI rfl (fun W hW => by go_simp)) ?_
      refine anyI_take (i := 15) (.pointer (some ⟨b, off + k * 3 + 2, none⟩)) rfl (by kernel_rfl) (by kernel_rfl) (by kernel_rfl) (by kernel_rfl) (fun _ _ _ h => h) HI0 (yldI rfl (fun W hW => by go_simp)) ?_
      refine anyI_take (i := 16) (.int .i64 p.n) rfl (by kernel_rfl) (by kernel_rfl) (by kernel_rfl) (by kernel_rfl) (fun _ _ _ h => h) HI0 (yldI rfl (fun W hW => by rw [hI] at hW; obtain ⟨h1, h2, h3⟩ := hW; go_simp)) ?_
      generalize hG : Act.put _ _ _ = A0
      simp [Act.put] at hG
      subst hG
      refine anyI_one (i := 11) (by kernel_rfl) (wpOp_call rfl rfl (by go_simp) HC.out ?_)
      rintro e w1 ⟨v1, rfl, o1, g1⟩
      have HI1 : I w1 := by rw [hI]; exact ⟨(grown_trans gd g1).cell c0 (by simp), (grown_trans gd g1).cell c1 (by simp), (grown_trans gd g1).cell c2 (by simp)⟩
      refine ⟨_, rfl, .inr HI1, ?_⟩
      replace g1 := grown_trans gd g1
      have hs := g1.size
      have hw := hg.size
      have hlt1 : ∀ b, v1.ownBlock = some b → wr.heap.size ≤ b := fun b e => (World.ownsRow.lt o1 b e).1
      have hT1 : TxR w.heap.size w1 (Value.slice oa k oc).ownBlock v1 p.t := txR_of (row_base hw o1) (fun b e h => by have := (HO.out.lt b h.symm).2; have := hlt1 b e; omega)
      obtain ⟨v2, w2, hrun, ho2, g2, ⟨a2, c2', hv2⟩, _⟩ := (HO.out.keep g1).push p.k p.n v1 p.t (by omega) hT1 (by omega)
      rw [hlk] at hv2
      obtain ⟨a1, c1', hv1, _, _⟩ := o1.sl
      have HP2 : Hid (PoR w.heap.size w2 v2 (ps.take (k + 1))) := by unfold Hid; rw [HP.out]; exact ho2
      have HG : Hid (w.grownBy w2 none) := grown_new (grown_trans hg g1) g2 (fun j e => (HO.out.lt j e).1)
      have hbs : ∀ x, (Value.slice oa k oc).ownBlock = some x → some b ≠ some x := fun x e h => by cases h; have := (HO.out.lt b e).1; have := hzb; omega
      have HI2 : I (w1.alloc (Obj.cells #[.int .i64 p.k, v1, .int .i64 p.n] 156)) := by
        have g := World.grownBy_alloc w1 (Obj.cells #[.int .i64 p.k, v1, .int .i64 p.n] 156) none
        rw [hI] at HI1 ⊢; exact ⟨g.cell HI1.1 (by simp), g.cell HI1.2.1 (by simp), g.cell HI1.2.2 (by simp)⟩
      have HI3 : I w2 := by
        have hne : some b ≠ (Value.slice oa k oc).ownBlock := fun e => hbs b e.symm rfl
        rw [hI] at HI1 ⊢; exact ⟨g2.cell HI1.1 hne, g2.cell HI1.2.1 hne, g2.cell HI1.2.2 hne⟩
      subst hv1 hv2
      clear HC hT1 ho2 g2 o1 hlt1 HP c0 c1 c2 hbs
      refine anyI_one (i := 17) (by kernel_rfl) (wpOp_val (w' := w1) (v := .agg #[.int .i64 p.k, .slice a1 p.t.length c1', .int .i64 p.n]) rfl rfl (by go_simp) ⟨.inr HI1, ?_⟩)
      refine anyI_one (i := 18) (by kernel_rfl) (wpOp_val (w' := w1.alloc (Obj.cells #[.int .i64 p.k, .slice a1 p.t.length c1', .int .i64 p.n] 156)) (v := .slice (some ⟨w1.heap.size, 0, none⟩) 1 1) rfl rfl (by go_simp) ⟨.inr HI2, ?_⟩)
      refine anyI_one (i := 19) (by kernel_rfl) (wpOp_val (w' := w2) (v := .slice a2 (k + 1) c2') rfl rfl (by go_simp) ⟨.inr HI3, ?_⟩)
      refine anyI_one (i := 20) (by kernel_rfl) (wpOp_val (w' := w2) (v := .slice a2 (k + 1) c2') rfl rfl (by go_simp) ⟨.inr HI3, ?_⟩)
      refine anyI_done (by kernel_rfl) ?_ _
      subst hI
      go_wp2
      go_roundw
      case rel => exact ⟨k + 1, by omega, by go_num, HP2.out, HG.out⟩
      case measure => simp [intOf]; omega
    · have hkn : k = ps.length := by omega
      subst hkn
      rw [List.take_length] at ho
      go_wp2
      go_ret
      exact ⟨_, rfl, ho, hg⟩
end Go.Proofs.YtakkdniikhgpdaaGreatDoor

