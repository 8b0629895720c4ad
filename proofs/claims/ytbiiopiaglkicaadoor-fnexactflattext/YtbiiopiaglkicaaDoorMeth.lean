import Derived.Test.YtbiiopiaglkicaaDoorRangeOwn
namespace Go.Proofs.YtbiiopiaglkicaaDoor
open Go.RowKit

abbrev pushN : String := "loop.example/s02863/impl.push"

theorem na_leaf (t : TypeId) (h : t = 139 ∨ t = 95 ∨ t = 103 ∨ t = 96 ∨ t = 97) (w : World) : (nilAhead 303 t (.agg #[]) pushN).run Tryd.prog w = .ok (some false) w := by
  rcases h with rfl | rfl | rfl | rfl | rfl <;> kernel_rfl
theorem na_ptr (t : TypeId) (h : t = 89 ∨ t = 146 ∨ t = 141 ∨ t = 149 ∨ t = 153) (a : Addr) (w : World) : (nilAhead 303 t (.pointer (some a)) pushN).run Tryd.prog w = .ok (some false) w := by
  rcases h with rfl | rfl | rfl | rfl | rfl <;> kernel_rfl
theorem me_leaf (t : TypeId) (h : t = 139 ∨ t = 95 ∨ t = 103 ∨ t = 96 ∨ t = 97) (w : World) : (method 303 t (.agg #[]) pushN).run Tryd.prog w = .ok (129, .agg #[]) w := by
  rcases h with rfl | rfl | rfl | rfl | rfl <;> kernel_rfl
theorem me_cat (a : Addr) (w : World) : (method 303 149 (.pointer (some a)) pushN).run Tryd.prog w = .ok (131, .pointer (some a)) w := by kernel_rfl
theorem me_alt (a : Addr) (w : World) : (method 303 153 (.pointer (some a)) pushN).run Tryd.prog w = .ok (132, .pointer (some a)) w := by kernel_rfl
end Go.Proofs.YtbiiopiaglkicaaDoor
