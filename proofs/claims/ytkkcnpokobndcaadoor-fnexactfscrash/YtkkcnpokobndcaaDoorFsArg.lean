import Derived.Test.YtkkcnpokobndcaaDoorFsWith
namespace Go.Proofs.YtkkcnpokobndcaaDoor
open Go.RowKit

def okArg (fs : List Fl) (n : List Int) : Bool := validF fs && nameOK n
theorem valid_len {fs : List Fl} (h : validF fs = true) : fs.length ≤ 50 := by unfold validF at h; simp at h; exact h.1
theorem OwB.nil (B : Nat) (w : World) : OwB B w (.slice none 0 0) [] := ⟨by simp, .inl ⟨rfl, rfl⟩⟩
structure FsCtx (w W : World) (pv : Value) : Prop where
  p : W.cell? ⟨w.heap.size, 0, none⟩ = some pv
  r : W.cell? ⟨w.heap.size + 1, 0, none⟩ = some (.slice none 0 0)
  f : W.frozen? ⟨w.heap.size + 1, 0, none⟩ = false
  g : w.grownBy W none
  s : w.heap.size + 2 ≤ W.heap.size
theorem FsCtx.start (w : World) (pv : Value) : FsCtx w ((w.alloc (Obj.cells #[pv] 31)).alloc (Obj.cells #[.slice none 0 0] 31)) pv :=
  ⟨by simp [go_sem], by simp [go_sem], by simp [go_sem], grown_trans (World.grownBy_alloc _ _ _) (World.grownBy_alloc _ _ _), by simp⟩
theorem FsCtx.later {w W W' : World} {pv : Value} (h : FsCtx w W pv) (g : W.grownBy W' none) : FsCtx w W' pv :=
  ⟨g.cell h.p (by simp), g.cell h.r (by simp), (grown_bothF g h.r h.f).2, grown_trans h.g g, Nat.le_trans h.s g.size⟩
theorem FsCtx.ends {w W : World} {pv v : Value} {X : List Fl} {B : Nat} (h : FsCtx w W pv) (o : OwF B W v X) (hB : w.heap.size + 2 ≤ B) (u : Value) : OwF w.heap.size (W.setCell ⟨w.heap.size + 1, 0, none⟩ u) v X ∧ w.grownBy (W.setCell ⟨w.heap.size + 1, 0, none⟩ u) none :=
  ⟨(o.setLow _ _ (by simp; omega)).base (by omega), grown_of_below ((below_of_grown h.g).setCell (by simp) _)⟩
theorem FsCtx.high {w W : World} {pv : Value} (h : FsCtx w W pv) (a : Addr) (u : Value) (ha : w.heap.size + 2 ≤ a.block) : FsCtx w (W.setCell a u) pv := by
  have hb := (Below.refl (w.heap.size + 2) W).setCell (p := a) ha u
  refine ⟨(hb.cell (by simp)).trans h.p, (hb.cell (by simp)).trans h.r, (hb.frozen (by simp)).trans h.f, grown_of_below ((below_of_grown h.g).setCell (by omega) _), by have := h.s; simp; omega⟩
theorem Fss.fl {fs : List Fl} (h : Fss fs) {f : Fl} (hf : f ∈ fs) : (f.n.length ≤ 1048576 ∧ f.d.length ≤ 1048576) ∧ Byt f.n ∧ Byt f.d := ⟨h.tlen f hf, h.byt f hf⟩
def remC (fs : List Fl) (n : List Int) : Int := if okArg fs n then (match findF fs n with | some _ => 0 | none => 5) else 1
theorem find_none_without {fs : List Fl} {n : List Int} (h : findF fs n = none) : withoutF fs n = fs := by
  unfold findF at h
  rw [List.find?_eq_none] at h
  unfold withoutF
  rw [List.filter_eq_self]
  intro x hx
  have := h x hx
  simpa using this

end Go.Proofs.YtkkcnpokobndcaaDoor
