import Derived.Test.YtbiiopiaglkicaaDoorBase
namespace Go.Proofs.YtbiiopiaglkicaaDoor
open Go.RowKit

/-- The table of the forms' ends, as it lies in block 0. -/
structure Tab (w : World) : Prop where
  c0 : w.cell? ⟨0, 0, none⟩ = some (.int .i32 0)
  c1 : w.cell? ⟨0, 1, none⟩ = some (.int .i32 128)
  c2 : w.cell? ⟨0, 2, none⟩ = some (.int .i32 2048)
  c3 : w.cell? ⟨0, 3, none⟩ = some (.int .i32 65536)
  c4 : w.cell? ⟨0, 4, none⟩ = some (.int .i32 2097152)
theorem Tab.keep {w w' : World} (h : Tab w) (hg : w.grownBy w' none) : Tab w' :=
  ⟨hg.cell h.c0 (by simp), hg.cell h.c1 (by simp), hg.cell h.c2 (by simp), hg.cell h.c3 (by simp), hg.cell h.c4 (by simp)⟩
theorem Tab.pos {w : World} (h : Tab w) : 0 < w.heap.size := World.block_lt_of_cell? w _ h.c0
theorem Tab.below {B : Nat} {w w' : World} (h : Tab w) (hg : Below B w w') (hB : 0 < B) : Tab w' :=
  ⟨(hg.cell hB).trans h.c0, (hg.cell hB).trans h.c1, (hg.cell hB).trans h.c2, (hg.cell hB).trans h.c3, (hg.cell hB).trans h.c4⟩

end Go.Proofs.YtbiiopiaglkicaaDoor
