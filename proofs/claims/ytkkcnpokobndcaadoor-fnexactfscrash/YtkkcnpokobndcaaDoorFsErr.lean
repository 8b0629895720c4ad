import Derived.Test.YtkkcnpokobndcaaDoorFsStr
import Derived.LaidEql
import Derived.Stop.Asserts
import Derived.RowKitTokens
namespace Go.Proofs.YtkkcnpokobndcaaDoor
open Go.RowKit Go.Extern.Stop Go.Stop Go.Extern

/-- An error of errors.New's make. -/
abbrev Er (a : Addr) : Value := .iface 106 (.pointer (some a))

theorem tyEr (v : Value) (w : World) : (Extern.ReflectliteType.typeOf #[.iface 106 v]).run Tryd.prog w = .ok (.iface 96 (.agg #[.pointer (some ⟨4, 106, none⟩)])) w := by kernel_rfl
/-- What answers for the method Comparable. -/
def cmpEntry : Array Value → Sem Value := Extern.ReflectliteType.method fun t => do Go.Extern.Rtype.noPackHeld "Comparable" t; pure (.bool (← typeInfo t).comparable)
theorem cmEr (w : World) : (cmpEntry #[.agg #[.pointer (some ⟨4, 106, none⟩)]]).run Tryd.prog w = .ok (.bool true) w := by kernel_rfl
theorem meEr (v : Value) (w : World) : (Go.method 250 96 v "Comparable").run Tryd.prog w = .ok (95, v) w := by kernel_rfl
theorem coEr : (Tryd.prog.info? 106).map (·.comparable) = some true := by kernel_rfl
theorem szEr : (Tryd.prog.info? 138).map (·.size) = some 1 := by kernel_rfl
theorem noIs (v : Value) (xT : TypeId) (w : World) : (Instr.typeAssert (.iface 106 v) xT 98 true).run Tryd.prog w = .ok (.tuple #[.nilIface, .bool false]) w := run_typeAssert_lacksB Tryd.underlying98 (by kernel_rfl) (by kernel_rfl) v xT w
theorem noUn (v : Value) (xT : TypeId) (w : World) : (Instr.typeAssert (.iface 106 v) xT 101 true).run Tryd.prog w = .ok (.tuple #[.nilIface, .bool false]) w := run_typeAssert_lacksB Tryd.underlying101 (by kernel_rfl) (by kernel_rfl) v xT w
theorem noUs (v : Value) (xT : TypeId) (w : World) : (Instr.typeAssert (.iface 106 v) xT 103 true).run Tryd.prog w = .ok (.tuple #[.nilIface, .bool false]) w := run_typeAssert_lacksB Tryd.underlying103 (by kernel_rfl) (by kernel_rfl) v xT w

theorem is_it (a : Addr) (w : World) : Calls Tryd.prog 57 #[Er a, Er a] w fun e w' => e = .returned (.bool true) ∧ w = w' := by
  obtain ⟨i, hi, hcmp⟩ := Option.map_eq_some_iff.1 coEr
  obtain ⟨j, hj, hjs⟩ := Option.map_eq_some_iff.1 szEr
  have h8 := @run_callFunc_extern Tryd.prog 63 _ Extern.ReflectliteType.typeOf Tryd.func63 (by kernel_rfl) (by kernel_rfl) (by kernel_rfl) (by kernel_rfl)
  have h32 := @run_callFunc_extern Tryd.prog 95 _ cmpEntry Tryd.func95 (by kernel_rfl) (by kernel_rfl) (by kernel_rfl) (by kernel_rfl)
  have tT := tyEr
  have cT := cmEr
  have mR := meEr
  have heq := run_eql_iface_ptr_same (P := Tryd.prog) w a Tryd.underlying54 Tryd.underlying106 hi hcmp hj
  go_enter Tryd.func57, Tryd.ntmps57
  go_wp2
  refine wp_loop_rounds 1 ?_
  rw [rounds_succ]
  go_wp2
  go_ret
  exact ⟨rfl, rfl⟩

theorem is_not (a b : Addr) (ca cb : Array Value) (ta tb : TypeId) (w : World) (hne : a ≠ b) (ha : w.heap[a.block]? = some (.cells ca ta (0, 0))) (hb : w.heap[b.block]? = some (.cells cb tb (0, 0))) :
    Calls Tryd.prog 57 #[Er a, Er b] w fun e w' => e = .returned (.bool false) ∧ w = w' := by
  obtain ⟨i, hi, hcmp⟩ := Option.map_eq_some_iff.1 coEr
  obtain ⟨j, hj, hjs⟩ := Option.map_eq_some_iff.1 szEr
  have h8 := @run_callFunc_extern Tryd.prog 63 _ Extern.ReflectliteType.typeOf Tryd.func63 (by kernel_rfl) (by kernel_rfl) (by kernel_rfl) (by kernel_rfl)
  have h32 := @run_callFunc_extern Tryd.prog 95 _ cmpEntry Tryd.func95 (by kernel_rfl) (by kernel_rfl) (by kernel_rfl) (by kernel_rfl)
  have tT := tyEr
  have cT := cmEr
  have mR := meEr
  have nE := noIs
  have uE := noUn
  have vE := noUs
  have heq := run_eql_iface_ptr_other (P := Tryd.prog) w Tryd.underlying54 Tryd.underlying106 hi hcmp hj (by rw [hjs]; decide) hne ha hb
  go_enter Tryd.func57, Tryd.ntmps57
  go_wp2
  refine wp_loop_rounds 1 ?_
  rw [rounds_succ]
  go_wp2
  go_ret
  exact ⟨rfl, rfl⟩

/-- The three errors of the file systems lie in their variables. -/
structure Errs (w : World) (a0 a1 a2 : Addr) : Prop where
  g0 : w.cell? ⟨0, 0, none⟩ = some (Er a0)
  g1 : w.cell? ⟨1, 0, none⟩ = some (Er a1)
  g2 : w.cell? ⟨2, 0, none⟩ = some (Er a2)
  n01 : a0 ≠ a1
  n02 : a0 ≠ a2
  n12 : a1 ≠ a2
  b0 : ∃ c t, w.heap[a0.block]? = some (.cells c t (0, 0))
  b1 : ∃ c t, w.heap[a1.block]? = some (.cells c t (0, 0))
  b2 : ∃ c t, w.heap[a2.block]? = some (.cells c t (0, 0))

theorem heap_lt {w : World} {b : Nat} {o : Obj} (h : w.heap[b]? = some o) : b < w.heap.size := (Array.getElem?_eq_some_iff.1 h).1
theorem Errs.below {w w' : World} {a0 a1 a2 : Addr} (h : Errs w a0 a1 a2) (hb : Below w.heap.size w w') : Errs w' a0 a1 a2 := by
  have cell : ∀ (g : Nat) (v : Value), w.cell? ⟨g, 0, none⟩ = some v → w'.cell? ⟨g, 0, none⟩ = some v := fun g v hc =>
    (World.cell?_of_block (hb.block g (World.block_lt_of_cell? w _ hc))).trans hc
  have blk : ∀ (a : Addr), (∃ c t, w.heap[a.block]? = some (.cells c t (0, 0))) → ∃ c t, w'.heap[a.block]? = some (.cells c t (0, 0)) := fun a ⟨c, t, hc⟩ => ⟨c, t, (hb.block _ (heap_lt hc)).trans hc⟩
  exact ⟨cell _ _ h.g0, cell _ _ h.g1, cell _ _ h.g2, h.n01, h.n02, h.n12, blk _ h.b0, blk _ h.b1, blk _ h.b2⟩
theorem Errs.keep {w w' : World} {a0 a1 a2 : Addr} (h : Errs w a0 a1 a2) (g : w.grownBy w' none) : Errs w' a0 a1 a2 := h.below (below_of_grown g)

theorem codeOf_nil (w : World) : Calls Tryd.prog 36 #[.nilIface] w fun e w' => e = .returned (.int .i64 0) ∧ w = w' := by
  go_enter Tryd.func36, Tryd.ntmps36
  go_wp2
  go_ret
  exact ⟨rfl, rfl⟩
theorem codeOf_none (w : World) (a0 a1 a2 : Addr) (h : Errs w a0 a1 a2) : Calls Tryd.prog 36 #[Er a1] w fun e w' => e = .returned (.int .i64 5) ∧ w = w' := by
  have hg1 := h.g1
  go_enter Tryd.func36, Tryd.ntmps36
  go_wp2_with (go_at_call 57; refine (is_it a1 _).mono ?_; rintro e w1 ⟨rfl, rfl⟩)
  go_ret
  exact ⟨rfl, rfl⟩
theorem codeOf_bad (w : World) (a0 a1 a2 : Addr) (h : Errs w a0 a1 a2) : Calls Tryd.prog 36 #[Er a0] w fun e w' => e = .returned (.int .i64 1) ∧ w = w' := by
  have hg1 := h.g1
  have hg2 := h.g2
  obtain ⟨c0, t0, hb0⟩ := h.b0
  obtain ⟨c1, t1, hb1⟩ := h.b1
  obtain ⟨c2, t2, hb2⟩ := h.b2
  have H1 := hide (is_not a0 a1 c0 c1 t0 t1 w h.n01 hb0 hb1)
  have H2 := hide (is_not a0 a2 c0 c2 t0 t2 w h.n02 hb0 hb2)
  clear hb0 hb1 hb2 h
  go_enter Tryd.func36, Tryd.ntmps36
  go_wp2_with fail
  refine H1.out.mono ?_
  rintro e w1 ⟨rfl, rfl⟩
  go_wp2_with fail
  refine H2.out.mono ?_
  rintro e w1 ⟨rfl, rfl⟩
  go_wp2
  go_ret
  exact ⟨rfl, rfl⟩

end Go.Proofs.YtkkcnpokobndcaaDoor
