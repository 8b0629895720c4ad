import Derived.Test.YtkkcnpokobndcaaDoorFsLawK
import Derived.Test.YtkkcnpokobndcaaDoorFsMk
namespace Go.Proofs.YtkkcnpokobndcaaDoor
open Go.RowKit

theorem totM_bd : ∀ fs : List Fl, totM fs = fs.length + tot fs
  | [] => rfl
  | p :: ps => by simp only [totM, tot, totM_bd ps, List.length_cons]; omega
/-- Over a write into one block that is none of the row's and none of its texts'. -/
theorem owF_beside {B : Nat} {w w' : World} {v : Value} {fs : List Fl} {row : Option Nat} (h : OwF B w v fs) (hg : w.grownBy w' row) (hr : ∀ k, row = some k → ∀ b, B ≤ b → b < w.heap.size → b ≠ k) : OwF B w' v fs := by
  obtain ⟨xs, ho, ht⟩ := h
  have keep : ∀ {e : TypeId} {size n : Nat} {u : Value} {l : List Value}, w.ownsRow B e size u n l → w'.ownsRow B e size u n l := by
    intro e size n u l hu
    refine World.ownsRow.kept hu hg ?_
    cases hv : u.ownBlock with
    | none => exact .inl rfl
    | some k => exact .inr (fun e => by have := World.ownsRow.lt hu k hv; exact hr k e.symm k this.1 this.2 rfl)
  exact ⟨xs, keep ho, ht.len, fun j p x h1 h2 => by obtain ⟨o1, o2, o3⟩ := ht.own j p x h1 h2; exact ⟨keep o1, keep o2, o3⟩, ht.apart⟩

theorem grown_cellF {w w' : World} {row : Option Nat} (g : w.grownBy w' row) {b o : Nat} {u : Value} (hc : w.cell? ⟨b, o, none⟩ = some u) (hn : ∀ k, row = some k → k ≠ b) : w'.cell? ⟨b, o, none⟩ = some u :=
  g.cell hc (fun e => hn b e.symm rfl)
theorem FrP.cellF {B H : Nat} {w w' : World} (h : FrP B H w w') {b o : Nat} {u : Value} (hc : w.cell? ⟨b, o, none⟩ = some u) (hx : b < B ∨ H ≤ b) : w'.cell? ⟨b, o, none⟩ = some u :=
  (World.cell?_of_block (h.block b (World.block_lt_of_cell? w _ hc) hx)).trans hc
theorem OwFH.keepF {b0 h0 : Nat} {w w' : World} {v : Value} {fs : List Fl} (h : OwFH b0 h0 w v fs) (hk : ∀ {e : TypeId} {size n : Nat} {u : Value} {l : List Value}, w.ownsRow b0 e size u n l → (∀ g, u.ownBlock = some g → b0 ≤ g ∧ g < h0) → w'.ownsRow b0 e size u n l) : OwFH b0 h0 w' v fs := by
  obtain ⟨xs, ho, ht, h1, h2⟩ := h
  refine ⟨xs, hk ho (fun g hg => ⟨(World.ownsRow.lt ho g hg).1, h1 g hg⟩), ⟨ht.len, fun j p x hp hx => ?_, ht.apart⟩, h1, h2⟩
  obtain ⟨o1, o2, o3⟩ := ht.own j p x hp hx
  obtain ⟨m1, m2⟩ := pairs_at xs j x hx
  exact ⟨hk o1 (fun g hg => ⟨(World.ownsRow.lt o1 g hg).1, h2 _ (List.mem_of_getElem? m1) g hg⟩), hk o2 (fun g hg => ⟨(World.ownsRow.lt o2 g hg).1, h2 _ (List.mem_of_getElem? m2) g hg⟩), o3⟩
theorem FrP.ofFH {B H b0 h0 : Nat} {w w' : World} (h : FrP B H w w') {v : Value} {fs : List Fl} (ho : OwFH b0 h0 w v fs) (hx : h0 ≤ B ∨ H ≤ b0) : OwFH b0 h0 w' v fs :=
  ho.keepF (fun hu hg => h.row hu (fun g e => by have := hg g e; omega))
theorem owFH_beside {b0 h0 : Nat} {w w' : World} {v : Value} {fs : List Fl} {row : Option Nat} (h : OwFH b0 h0 w v fs) (hg : w.grownBy w' row) (hr : ∀ k, row = some k → k < b0 ∨ h0 ≤ k) : OwFH b0 h0 w' v fs :=
  h.keepF (fun {_ _ _ u _} hu hb => World.ownsRow.kept hu hg (by
    cases hv : u.ownBlock with
    | none => exact .inl rfl
    | some k => exact .inr (fun e => by have := hb k hv; have := hr k e.symm; omega)))

end Go.Proofs.YtkkcnpokobndcaaDoor
