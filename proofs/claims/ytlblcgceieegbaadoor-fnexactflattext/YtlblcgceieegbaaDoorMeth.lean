import Derived.Test.YtlblcgceieegbaaDoorRangeOwn
namespace Go.Proofs.YtlblcgceieegbaaDoor
open Go.RowKit

abbrev pushN : String := "loop.example/s02863/impl.push"

theorem na_leaf (t : TypeId) (h : t = 80 ∨ t = 60 ∨ t = 61 ∨ t = 62 ∨ t = 63) (w : World) : (nilAhead 231 t (.agg #[]) pushN).run Tryd.prog w = .ok (some false) w := by
  rcases h with rfl | rfl | rfl | rfl | rfl <;> kernel_rfl
theorem na_ptr (t : TypeId) (h : t = 54 ∨ t = 95 ∨ t = 98 ∨ t = 90 ∨ t = 87) (a : Addr) (w : World) : (nilAhead 231 t (.pointer (some a)) pushN).run Tryd.prog w = .ok (some false) w := by
  rcases h with rfl | rfl | rfl | rfl | rfl <;> kernel_rfl
theorem me_leaf (t : TypeId) (h : t = 80 ∨ t = 60 ∨ t = 61 ∨ t = 62 ∨ t = 63) (w : World) : (method 231 t (.agg #[]) pushN).run Tryd.prog w = .ok (69, .agg #[]) w := by
  rcases h with rfl | rfl | rfl | rfl | rfl <;> kernel_rfl
theorem me_cat (a : Addr) (w : World) : (method 231 90 (.pointer (some a)) pushN).run Tryd.prog w = .ok (71, .pointer (some a)) w := by kernel_rfl
theorem me_alt (a : Addr) (w : World) : (method 231 87 (.pointer (some a)) pushN).run Tryd.prog w = .ok (70, .pointer (some a)) w := by kernel_rfl
end Go.Proofs.YtlblcgceieegbaaDoor
