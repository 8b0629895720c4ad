import Derived.Test.YtbiiopiaglkicaaDoorMeth
namespace Go.Proofs.YtbiiopiaglkicaaDoor
open Go.RowKit

set_option maxRecDepth 100000
theorem fi_text : (Tryd.t89.methods.find? fun x => x.name == pushN) = some { name := pushN, sig := 133, path := #[{ struct := 93, index := 0, deref := true }], func := some (129, false) } := by kernel_rfl
theorem fi_group : (Tryd.t146.methods.find? fun x => x.name == pushN) = some { name := pushN, sig := 133, path := #[{ struct := 148, index := 0, deref := true }], func := some (130, false) } := by kernel_rfl
theorem fi_nest : (Tryd.t141.methods.find? fun x => x.name == pushN) = some { name := pushN, sig := 133, path := #[{ struct := 145, index := 0, deref := true }], func := some (130, false) } := by kernel_rfl

theorem me_group (b : Nat) (u : Value) (w : World) (h : w.cell? ⟨b, 0, none⟩ = some u) : (method 303 146 (.pointer (some ⟨b, 0, none⟩)) pushN).run Tryd.prog w = .ok (130, .agg #[u]) w := by
  unfold method
  simp [go_sem]
  rw [fi_group]
  simp [go_sem, follow, receiverAt, Place.get, h, fieldPlace]
theorem me_nest (b : Nat) (u : Value) (w : World) (h : w.cell? ⟨b, 0, none⟩ = some u) : (method 303 141 (.pointer (some ⟨b, 0, none⟩)) pushN).run Tryd.prog w = .ok (130, .agg #[u]) w := by
  unfold method
  simp [go_sem]
  rw [fi_nest]
  simp [go_sem, follow, receiverAt, Place.get, h, fieldPlace]
theorem part_zero (b : Nat) (w : World) (cs : Array Value) (h : w.heap[b]? = some (.cells cs 93)) : (partAt ⟨b, 0, none⟩ 0 0).run Tryd.prog w = .ok ⟨b, 0, none⟩ w := by
  have hs : w.shape? b = some (93, cs.size) := by simp [World.shape?, h]
  have h1 : Tryd.prog.cellsOf 93 = 2 := by kernel_rfl
  have h2 : byteOfCell Tryd.prog Tryd.prog.depth 93 0 = some 0 := by kernel_rfl
  unfold partAt byteOf noView viewAt
  simp [go_sem, hs, h1, h2]
theorem me_text (b : Nat) (w : World) (cs : Array Value) (h : w.heap[b]? = some (.cells cs 93)) : (method 303 89 (.pointer (some ⟨b, 0, none⟩)) pushN).run Tryd.prog w = .ok (129, .agg #[]) w := by
  unfold method
  simp [go_sem]
  rw [fi_text]
  simp [go_sem, follow, Place.get, fieldPlace, part_zero b w cs h]
  simp [go_sem, receiverAt, Place.get]
end Go.Proofs.YtbiiopiaglkicaaDoor
