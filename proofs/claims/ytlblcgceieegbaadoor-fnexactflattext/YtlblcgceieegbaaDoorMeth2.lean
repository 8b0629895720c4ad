import Derived.Test.YtlblcgceieegbaaDoorMeth
namespace Go.Proofs.YtlblcgceieegbaaDoor
open Go.RowKit

set_option maxRecDepth 100000
theorem fi_text : (Tryd.t54.methods.find? fun x => x.name == pushN) = some { name := pushN, sig := 75, path := #[{ struct := 58, index := 0, deref := true }], func := some (69, false) } := by kernel_rfl
theorem fi_group : (Tryd.t95.methods.find? fun x => x.name == pushN) = some { name := pushN, sig := 75, path := #[{ struct := 97, index := 0, deref := true }], func := some (72, false) } := by kernel_rfl
theorem fi_nest : (Tryd.t98.methods.find? fun x => x.name == pushN) = some { name := pushN, sig := 75, path := #[{ struct := 100, index := 0, deref := true }], func := some (72, false) } := by kernel_rfl

theorem me_group (b : Nat) (u : Value) (w : World) (h : w.cell? ⟨b, 0, none⟩ = some u) : (method 231 95 (.pointer (some ⟨b, 0, none⟩)) pushN).run Tryd.prog w = .ok (72, .agg #[u]) w := by
  unfold method
  simp [go_sem]
  rw [fi_group]
  simp [go_sem, follow, receiverAt, Place.get, h, fieldPlace]
theorem me_nest (b : Nat) (u : Value) (w : World) (h : w.cell? ⟨b, 0, none⟩ = some u) : (method 231 98 (.pointer (some ⟨b, 0, none⟩)) pushN).run Tryd.prog w = .ok (72, .agg #[u]) w := by
  unfold method
  simp [go_sem]
  rw [fi_nest]
  simp [go_sem, follow, receiverAt, Place.get, h, fieldPlace]
theorem part_zero (b : Nat) (w : World) (cs : Array Value) (h : w.heap[b]? = some (.cells cs 58)) : (partAt ⟨b, 0, none⟩ 0 0).run Tryd.prog w = .ok ⟨b, 0, none⟩ w := by
  have hs : w.shape? b = some (58, cs.size) := by simp [World.shape?, h]
  have h1 : Tryd.prog.cellsOf 58 = 2 := by kernel_rfl
  have h2 : byteOfCell Tryd.prog Tryd.prog.depth 58 0 = some 0 := by kernel_rfl
  unfold partAt byteOf noView viewAt
  simp [go_sem, hs, h1, h2]
theorem me_text (b : Nat) (w : World) (cs : Array Value) (h : w.heap[b]? = some (.cells cs 58)) : (method 231 54 (.pointer (some ⟨b, 0, none⟩)) pushN).run Tryd.prog w = .ok (69, .agg #[]) w := by
  unfold method
  simp [go_sem]
  rw [fi_text]
  simp [go_sem, follow, Place.get, fieldPlace, part_zero b w cs h]
  simp [go_sem, receiverAt, Place.get]
end Go.Proofs.YtlblcgceieegbaaDoor
