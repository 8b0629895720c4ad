import Derived.Test.YtlblcgceieegbaaDoorRangeOwn
namespace Go.Proofs.YtlblcgceieegbaaDoor
open Go.RowKit

/-- What a type assertion of the switch answers. -/
abbrev TaNo (T C : TypeId) (v z : Value) : Prop := ∀ w : World, (Instr.typeAssert (.iface T v) 46 C true).run Tryd.prog w = .ok (.tuple #[z, .bool false]) w
abbrev TaYes (T C : TypeId) (v : Value) : Prop := ∀ w : World, (Instr.typeAssert (.iface T v) 46 C true).run Tryd.prog w = .ok (.tuple #[v, .bool true]) w

theorem ta_text (v : Value) : TaYes 54 54 v := fun w => by kernel_rfl

def Quiet (T : TypeId) : Prop := T = 80 ∨ T = 95 ∨ T = 98 ∨ T = 90 ∨ T = 87
theorem ta_quiet {T : TypeId} (h : Quiet T) (v : Value) :
    TaNo T 54 v (.pointer none) ∧ TaNo T 60 v (.agg #[]) ∧ TaNo T 61 v (.agg #[]) ∧ TaNo T 62 v (.agg #[]) ∧ TaNo T 63 v (.agg #[]) := by
  rcases h with rfl | rfl | rfl | rfl | rfl <;> exact ⟨fun w => by kernel_rfl, fun w => by kernel_rfl, fun w => by kernel_rfl, fun w => by kernel_rfl, fun w => by kernel_rfl⟩

theorem ta_line : TaNo 60 54 (.agg #[]) (.pointer none) ∧ TaYes 60 60 (.agg #[]) ∧ TaNo 60 61 (.agg #[]) (.agg #[]) ∧ TaNo 60 62 (.agg #[]) (.agg #[]) ∧ TaNo 60 63 (.agg #[]) (.agg #[]) :=
  ⟨fun w => by kernel_rfl, fun w => by kernel_rfl, fun w => by kernel_rfl, fun w => by kernel_rfl, fun w => by kernel_rfl⟩
theorem ta_soft : TaNo 61 54 (.agg #[]) (.pointer none) ∧ TaNo 61 60 (.agg #[]) (.agg #[]) ∧ TaYes 61 61 (.agg #[]) ∧ TaNo 61 62 (.agg #[]) (.agg #[]) ∧ TaNo 61 63 (.agg #[]) (.agg #[]) :=
  ⟨fun w => by kernel_rfl, fun w => by kernel_rfl, fun w => by kernel_rfl, fun w => by kernel_rfl, fun w => by kernel_rfl⟩
theorem ta_hard : TaNo 62 54 (.agg #[]) (.pointer none) ∧ TaNo 62 60 (.agg #[]) (.agg #[]) ∧ TaNo 62 61 (.agg #[]) (.agg #[]) ∧ TaYes 62 62 (.agg #[]) ∧ TaNo 62 63 (.agg #[]) (.agg #[]) :=
  ⟨fun w => by kernel_rfl, fun w => by kernel_rfl, fun w => by kernel_rfl, fun w => by kernel_rfl, fun w => by kernel_rfl⟩
theorem ta_raw : TaNo 63 54 (.agg #[]) (.pointer none) ∧ TaNo 63 60 (.agg #[]) (.agg #[]) ∧ TaNo 63 61 (.agg #[]) (.agg #[]) ∧ TaNo 63 62 (.agg #[]) (.agg #[]) ∧ TaYes 63 63 (.agg #[]) :=
  ⟨fun w => by kernel_rfl, fun w => by kernel_rfl, fun w => by kernel_rfl, fun w => by kernel_rfl, fun w => by kernel_rfl⟩
end Go.Proofs.YtlblcgceieegbaaDoor
