import Derived.Test.YtjbnjecacmphhaaDoorRangeOwn
namespace Go.Proofs.YtjbnjecacmphhaaDoor
open Go.RowKit

/-- What a type assertion of the switch answers. -/
abbrev TaNo (T C : TypeId) (v z : Value) : Prop := ∀ w : World, (Instr.typeAssert (.iface T v) 65 C true).run Tryd.prog w = .ok (.tuple #[z, .bool false]) w
abbrev TaYes (T C : TypeId) (v : Value) : Prop := ∀ w : World, (Instr.typeAssert (.iface T v) 65 C true).run Tryd.prog w = .ok (.tuple #[v, .bool true]) w

theorem ta_text (v : Value) : TaYes 73 73 v := fun w => by kernel_rfl

def Quiet (T : TypeId) : Prop := T = 139 ∨ T = 146 ∨ T = 141 ∨ T = 149 ∨ T = 153
theorem ta_quiet {T : TypeId} (h : Quiet T) (v : Value) :
    TaNo T 73 v (.pointer none) ∧ TaNo T 79 v (.agg #[]) ∧ TaNo T 80 v (.agg #[]) ∧ TaNo T 81 v (.agg #[]) ∧ TaNo T 82 v (.agg #[]) := by
  rcases h with rfl | rfl | rfl | rfl | rfl <;> exact ⟨fun w => by kernel_rfl, fun w => by kernel_rfl, fun w => by kernel_rfl, fun w => by kernel_rfl, fun w => by kernel_rfl⟩

theorem ta_line : TaNo 79 73 (.agg #[]) (.pointer none) ∧ TaYes 79 79 (.agg #[]) ∧ TaNo 79 80 (.agg #[]) (.agg #[]) ∧ TaNo 79 81 (.agg #[]) (.agg #[]) ∧ TaNo 79 82 (.agg #[]) (.agg #[]) :=
  ⟨fun w => by kernel_rfl, fun w => by kernel_rfl, fun w => by kernel_rfl, fun w => by kernel_rfl, fun w => by kernel_rfl⟩
theorem ta_soft : TaNo 80 73 (.agg #[]) (.pointer none) ∧ TaNo 80 79 (.agg #[]) (.agg #[]) ∧ TaYes 80 80 (.agg #[]) ∧ TaNo 80 81 (.agg #[]) (.agg #[]) ∧ TaNo 80 82 (.agg #[]) (.agg #[]) :=
  ⟨fun w => by kernel_rfl, fun w => by kernel_rfl, fun w => by kernel_rfl, fun w => by kernel_rfl, fun w => by kernel_rfl⟩
theorem ta_hard : TaNo 81 73 (.agg #[]) (.pointer none) ∧ TaNo 81 79 (.agg #[]) (.agg #[]) ∧ TaNo 81 80 (.agg #[]) (.agg #[]) ∧ TaYes 81 81 (.agg #[]) ∧ TaNo 81 82 (.agg #[]) (.agg #[]) :=
  ⟨fun w => by kernel_rfl, fun w => by kernel_rfl, fun w => by kernel_rfl, fun w => by kernel_rfl, fun w => by kernel_rfl⟩
theorem ta_raw : TaNo 82 73 (.agg #[]) (.pointer none) ∧ TaNo 82 79 (.agg #[]) (.agg #[]) ∧ TaNo 82 80 (.agg #[]) (.agg #[]) ∧ TaNo 82 81 (.agg #[]) (.agg #[]) ∧ TaYes 82 82 (.agg #[]) :=
  ⟨fun w => by kernel_rfl, fun w => by kernel_rfl, fun w => by kernel_rfl, fun w => by kernel_rfl, fun w => by kernel_rfl⟩
end Go.Proofs.YtjbnjecacmphhaaDoor
