import Derived.Test.YtbiiopiaglkicaaDoorBuilder
namespace Go.Proofs.YtbiiopiaglkicaaDoor
open Go.RowKit

theorem mCells_last (rs : List Mk) (x : Mk) : (mCells (rs ++ [x]))[rs.length * 2]? = some x.v ∧ (mCells (rs ++ [x]))[rs.length * 2 + 1]? = some (.int .i64 x.n) := by
  rw [mCells_app]
  constructor
  · rw [List.getElem?_append_right (by rw [mCells_len]; omega), mCells_len]; simp [mCells]
  · rw [List.getElem?_append_right (by rw [mCells_len]; omega), mCells_len]; simp [mCells]

set_option maxHeartbeats 1000000 in
set_option maxRecDepth 100000 in
theorem pop_any (B : Nat) (w : World) (bb : Nat) (nv rv : Value) (rs : List Mk) (ns : List Value) (room : Int) (x : Mk) (hS : Bst B w bb nv rv (rs ++ [x]) ns room) (hB : B ≤ w.heap.size) (hl : rs.length ≤ 1048576) :
    Calls Tryd.prog 99 #[.pointer (some ⟨bb, 0, none⟩)] w fun e w' => e = .returned (.agg #[x.v, .int .i64 x.n]) ∧ ∃ rv', Bst B w' bb nv rv' rs ns room ∧ Fr B bb nv rv nv rv' w w' := by
  obtain ⟨t, u, hxv⟩ := (hS.rep x (by simp)).form
  rcases hS.row.2 with ⟨_, h0⟩ | ⟨g, cap, cur, hrv, hbg, hg, hnc, hcm, hcs, htake⟩
  · simp at h0
  subst hrv
  have hrow := hS.row
  have m0 := World.ownsRow.cellAt hrow (rs.length * 2) (by simp <;> omega)
  have m1 := World.ownsRow.cellAt hrow (rs.length * 2 + 1) (by simp <;> omega)
  rw [(mCells_last rs x).1, hxv] at m0
  rw [(mCells_last rs x).2] at m1
  have c1 := hS.c1; have f1 := hS.f1
  have hbl := hS.lt
  have HS : Hid (Bst B w bb nv (.slice (some ⟨g, 0, none⟩) (rs ++ [x]).length cap) (rs ++ [x]) ns room) := hS
  have hne : g ≠ bb := fun e => hS.ap (by rw [e]; rfl)
  have hgs := (Array.getElem?_eq_some_iff.1 hg).1
  have hle : (rs ++ [x]).length = rs.length + 1 := by simp
  rw [hle] at c1 hnc
  unfold maxLen at hcm
  have hcut := row_cut hrow (m := rs.length) (by simp)
  clear hS hrow hg hcs htake hbg
  rw [hxv]
  go_enter Tryd.func99, Tryd.ntmps99
  go_wp2
  go_returns
  have hS := HS.out
  have bel0 : Below B w (w.setCell ⟨bb, 1, none⟩ (.slice (some ⟨g, 0, none⟩) rs.length cap)) := (Below.refl B w).setCell hS.big _
  have fr : Fr B bb nv (.slice (some ⟨g, 0, none⟩) (rs ++ [x]).length cap) nv (.slice (some ⟨g, 0, none⟩) rs.length cap) w (w.setCell ⟨bb, 1, none⟩ (.slice (some ⟨g, 0, none⟩) rs.length cap)) := by
    refine ⟨bel0, ?_, fun _ _ h => h⟩
    intro b hb hnx
    exact heap_setCell_other _ _ _ _ (fun e => hnx (.inl (by simpa using e)))
  have hb0 : Bst B (w.setCell ⟨bb, 1, none⟩ (.slice (some ⟨g, 0, none⟩) rs.length cap)) bb nv (.slice (some ⟨g, 0, none⟩) rs.length cap) rs ns room := by
    refine ⟨hS.big, ?_, by simpa using hS.f0, World.cell?_setCell_same' _ _ _ (by rw [c1]; rfl), by simpa using f1, ?_, by simpa using hS.f2, row_set hS.nrow _ _ hS.nap, ?_, by simpa [Value.ownBlock] using hne, hS.nap, hS.nr, hS.once.turn fr.blk fr.mono, fun y hy => fr.rep (hS.rep y (by simp [hy])), fun y hy => fr.post (hS.rep y (by simp [hy])) (hS.post y (by simp [hy]))⟩
    · have := hS.c0; simp [go_sem, this]
    · have := hS.c2; simp [go_sem, this]
    · refine row_set ?_ _ _ (by simpa [Value.ownBlock] using hne)
      have e1 : (mCells (rs ++ [x])).take (rs.length * 2) = mCells rs := by rw [mCells_app, ← mCells_len rs]; exact List.take_left
      rw [e1] at hcut
      exact hcut
  have gg : ∀ (W : World) (o1 o2 : Obj), W.grownBy ((W.alloc o1).alloc o2) none := fun _ _ _ => grown_trans (World.grownBy_alloc _ _ _) (World.grownBy_alloc _ _ _)
  exact ⟨rfl, _, hb0.keep (gg _ _ _), fr.grown (gg _ _ _) hB⟩

end Go.Proofs.YtbiiopiaglkicaaDoor
