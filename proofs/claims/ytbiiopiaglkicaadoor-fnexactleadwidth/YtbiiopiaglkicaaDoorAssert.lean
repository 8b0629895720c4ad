import Derived.Test.YtbiiopiaglkicaaDoorRangeOwn
namespace Go.Proofs.YtbiiopiaglkicaaDoor
open Go.RowKit

/-- What a type assertion of the switch answers. -/
abbrev TaNo (T C : TypeId) (v z : Value) : Prop := ∀ w : World, (Instr.typeAssert (.iface T v) 84 C true).run Tryd.prog w = .ok (.tuple #[z, .bool false]) w
abbrev TaYes (T C : TypeId) (v : Value) : Prop := ∀ w : World, (Instr.typeAssert (.iface T v) 84 C true).run Tryd.prog w = .ok (.tuple #[v, .bool true]) w

theorem ta_text (v : Value) : TaYes 89 89 v := fun w => by kernel_rfl

def Quiet (T : TypeId) : Prop := T = 139 ∨ T = 146 ∨ T = 141 ∨ T = 149 ∨ T = 153
theorem ta_quiet {T : TypeId} (h : Quiet T) (v : Value) :
    TaNo T 89 v (.pointer none) ∧ TaNo T 95 v (.agg #[]) ∧ TaNo T 103 v (.agg #[]) ∧ TaNo T 96 v (.agg #[]) ∧ TaNo T 97 v (.agg #[]) := by
  rcases h with rfl | rfl | rfl | rfl | rfl <;> exact ⟨fun w => by kernel_rfl, fun w => by kernel_rfl, fun w => by kernel_rfl, fun w => by kernel_rfl, fun w => by kernel_rfl⟩

theorem ta_line : TaNo 95 89 (.agg #[]) (.pointer none) ∧ TaYes 95 95 (.agg #[]) ∧ TaNo 95 103 (.agg #[]) (.agg #[]) ∧ TaNo 95 96 (.agg #[]) (.agg #[]) ∧ TaNo 95 97 (.agg #[]) (.agg #[]) :=
  ⟨fun w => by kernel_rfl, fun w => by kernel_rfl, fun w => by kernel_rfl, fun w => by kernel_rfl, fun w => by kernel_rfl⟩
theorem ta_soft : TaNo 103 89 (.agg #[]) (.pointer none) ∧ TaNo 103 95 (.agg #[]) (.agg #[]) ∧ TaYes 103 103 (.agg #[]) ∧ TaNo 103 96 (.agg #[]) (.agg #[]) ∧ TaNo 103 97 (.agg #[]) (.agg #[]) :=
  ⟨fun w => by kernel_rfl, fun w => by kernel_rfl, fun w => by kernel_rfl, fun w => by kernel_rfl, fun w => by kernel_rfl⟩
theorem ta_hard : TaNo 96 89 (.agg #[]) (.pointer none) ∧ TaNo 96 95 (.agg #[]) (.agg #[]) ∧ TaNo 96 103 (.agg #[]) (.agg #[]) ∧ TaYes 96 96 (.agg #[]) ∧ TaNo 96 97 (.agg #[]) (.agg #[]) :=
  ⟨fun w => by kernel_rfl, fun w => by kernel_rfl, fun w => by kernel_rfl, fun w => by kernel_rfl, fun w => by kernel_rfl⟩
theorem ta_raw : TaNo 97 89 (.agg #[]) (.pointer none) ∧ TaNo 97 95 (.agg #[]) (.agg #[]) ∧ TaNo 97 103 (.agg #[]) (.agg #[]) ∧ TaNo 97 96 (.agg #[]) (.agg #[]) ∧ TaYes 97 97 (.agg #[]) :=
  ⟨fun w => by kernel_rfl, fun w => by kernel_rfl, fun w => by kernel_rfl, fun w => by kernel_rfl, fun w => by kernel_rfl⟩
end Go.Proofs.YtbiiopiaglkicaaDoor
