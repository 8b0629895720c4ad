import Derived.Test.YtbiiopiaglkicaaDoorDocPure
namespace Go.Proofs.YtbiiopiaglkicaaDoor
open Go.RowKit

theorem grown_set (w : World) (a : Addr) (u : Value) : w.grownBy (w.setCell a u) (some a.block) :=
  ⟨rfl, rfl, rfl, by simp, fun k _ hk => heap_setCell_other w a k u (fun e => hk (by simp [e]))⟩
theorem row_set {B : Nat} {w : World} {e : TypeId} {size n : Nat} {v : Value} {xs : List Value} (h : w.ownsRow B e size v n xs) (a : Addr) (u : Value) (hb : v.ownBlock ≠ some a.block) : (w.setCell a u).ownsRow B e size v n xs :=
  World.ownsRow.kept h (grown_set w a u) (.inr hb)
theorem Ow.set {q : IntKind} {t : TypeId} {B : Nat} {w : World} {v : Value} {zs : List Int} (h : Ow q t B w v zs) (a : Addr) (u : Value) (hb : a.block < B) : Ow q t B (w.setCell a u) v zs :=
  row_set h a u (fun e => by have := World.ownsRow.lt h _ e; omega)
theorem grown_both {W w1 : World} {a : Addr} {v : Value} (hg : W.grownBy w1 none) (h : W.cell? a = some v) (hf : W.frozen? a = false) : w1.cell? a = some v ∧ w1.frozen? a = false :=
  ⟨hg.cell h (by simp), (World.frozen?_of_block (hg.block a.block (World.block_lt_of_cell? W a h) (by simp))).trans hf⟩

/-- One element lies at block b from cell o on; its Text's value is tv. -/
structure PcAt (B : Nat) (w : World) (b o : Nat) (p : Pc) (tv : Value) : Prop where
  k : w.cell? ⟨b, o, none⟩ = some (.int .i64 p.k)
  t : w.cell? ⟨b, o + 1, none⟩ = some tv
  n : w.cell? ⟨b, o + 2, none⟩ = some (.int .i64 p.n)
  rd : RdB B w tv p.t
  sl : Sl tv p.t.length

/-- The slice value v reads as the elements doc; all lies below block B. -/
def RdP (B : Nat) (w : World) (v : Value) (doc : List Pc) : Prop :=
  ∃ a cap, v = .slice a doc.length cap ∧ doc.length ≤ cap ∧ cap ≤ maxLen ∧ (doc ≠ [] → ∃ b off, a = some ⟨b, off, none⟩ ∧ b < B ∧ ∀ j p, doc[j]? = some p → ∃ tv, PcAt B w b (off + j * 3) p tv)

theorem PcAt.beside {B : Nat} {w w' : World} {b o : Nat} {p : Pc} {tv : Value} {row : Option Nat} (h : PcAt B w b o p tv) (hb : b < B) (hg : w.grownBy w' row) (hr : ∀ k, row = some k → B ≤ k) : PcAt B w' b o p tv :=
  have hn : some b ≠ row := fun e => by have := hr b e.symm; omega
  ⟨hg.cell h.k hn, hg.cell h.t hn, hg.cell h.n hn, h.rd.beside hg hr, h.sl⟩

theorem RdP.beside {B : Nat} {w w' : World} {v : Value} {doc : List Pc} {row : Option Nat} (h : RdP B w v doc) (hg : w.grownBy w' row) (hr : ∀ k, row = some k → B ≤ k) : RdP B w' v doc := by
  obtain ⟨a, cap, hv, h1, h2, hh⟩ := h
  refine ⟨a, cap, hv, h1, h2, fun h0 => ?_⟩
  obtain ⟨b, off, ha, hb, hc⟩ := hh h0
  refine ⟨b, off, ha, hb, fun j p hp => ?_⟩
  obtain ⟨tv, ht⟩ := hc j p hp
  exact ⟨tv, ht.beside hb hg hr⟩

theorem RdP.keep {B : Nat} {w w' : World} {v : Value} {doc : List Pc} (h : RdP B w v doc) (hg : w.grownBy w' none) : RdP B w' v doc := h.beside hg (fun _ e => by cases e)

theorem Rd.wide {q : IntKind} {B B' : Nat} {w : World} {v : Value} {zs : List Int} (h : Rd q B w v zs) (hB : B ≤ B') : Rd q B' w v zs := by
  obtain ⟨a, cap, hv, hr⟩ := h
  refine ⟨a, cap, hv, fun h0 => ?_⟩
  obtain ⟨b, off, ha, hb, hc⟩ := hr h0
  exact ⟨b, off, ha, by omega, hc⟩

theorem RdP.wide {B B' : Nat} {w : World} {v : Value} {doc : List Pc} (h : RdP B w v doc) (hB : B ≤ B') : RdP B' w v doc := by
  obtain ⟨a, cap, hv, h1, h2, hh⟩ := h
  refine ⟨a, cap, hv, h1, h2, fun h0 => ?_⟩
  obtain ⟨b, off, ha, hb, hc⟩ := hh h0
  refine ⟨b, off, ha, by omega, fun j p hp => ?_⟩
  obtain ⟨tv, ht⟩ := hc j p hp
  exact ⟨tv, ⟨ht.k, ht.t, ht.n, ht.rd.wide hB, ht.sl⟩⟩

theorem RdP.at {B : Nat} {w : World} {v : Value} {doc : List Pc} (h : RdP B w v doc) (j : Nat) (hj : j < doc.length) :
    ∃ b off cap tv, v = .slice (some ⟨b, off, none⟩) doc.length cap ∧ b < B ∧ PcAt B w b (off + j * 3) doc[j] tv := by
  obtain ⟨a, cap, hv, h1, h2, hh⟩ := h
  obtain ⟨b, off, ha, hb, hc⟩ := hh (fun e => by rw [e] at hj; simp at hj)
  obtain ⟨tv, ht⟩ := hc j doc[j] (by simp [hj])
  exact ⟨b, off, cap, tv, by rw [hv, ha], hb, ht⟩

end Go.Proofs.YtbiiopiaglkicaaDoor
