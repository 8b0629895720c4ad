import Derived.Orders
import Derived.Deep.RegionWith
import Derived.Test.YtgmjpdejfdldlaaDoorMAA
namespace Go.Proofs.YtgmjpdejfdldlaaDoor

/-! A region that draws its order, in which the world turns: what only reads, and reads the same as long as I holds, may be taken first. -/

section
variable {P : Program} {ops : Array Oper} {Q : Exit → Act → World → Prop} {md : Region.Mode} {I : World → Prop} {ex : Nat → Bool}

/-- Every order from here on; behind each operation (but those of ex) I holds. -/
def anyI (P : Program) (md : Region.Mode) (ops : Array Oper) (Q : Exit → Act → World → Prop) (I : World → Prop) (ex : Nat → Bool) : Nat → Array Bool → Act → World → Prop
  | 0, listed, a, w => Region.ready md ops listed = [] ∧ Q .normal a w
  | fuel + 1, listed, a, w => (Region.ready md ops listed = [] → Q .normal a w) ∧
      ∀ i ∈ Region.ready md ops listed, wpOp P ops Q i (fun a' w' => (ex i = true ∨ I w') ∧ anyI P md ops Q I ex fuel (listed.setIfInBounds i true) a' w') a w

theorem any_of_anyI : ∀ (fuel : Nat) (listed : Array Bool) (a : Act) (w : World), anyI P md ops Q I ex fuel listed a w → wpAny P md ops Q fuel listed a w
  | 0, _, _, _, h => h
  | fuel + 1, _, _, _, h => ⟨h.1, fun i hi => wpOp_mono (fun a' w' h2 => any_of_anyI fuel _ a' w' h2.2) (h.2 i hi)⟩

theorem region_anyI (I : World → Prop) (ex : Nat → Bool) {id : Nat} {a : Act} {w : World} (hm : P.follows .mixedOrders = true) (h : anyI P .any ops Q I ex ops.size (Array.replicate ops.size false) a w.drew) : (Code.region id ops true).wp P Q a w :=
  wp_region_any hm (any_of_anyI _ _ _ _ h)

/-- What an operation does to the frame. -/
theorem wpOp_frame {j : Nat} {oj : Oper} {K : Act → World → Prop} {a : Act} {w : World} (hj : ops[j]? = some oj) (hh : wpOp P ops Q j K a w) :
    wpOp P ops Q j (fun a' w' => K a' w' ∧ ∃ ds u, a' = ({ a with defers := ds } : Act).put oj.dst u) a w := by
  unfold wpOp at *
  simp only [hj] at *
  split
  · rename_i hw
    simp only [hw, if_true] at hh
    rcases hh with hh | hh
    case inr => exact .inr hh
    refine .inl ?_
    unfold Oper.wp at *
    generalize (execOp a.eval oj).run P w = r at *
    cases r with
    | halt x w' => cases x <;> simp only [Oper.upon] at hh ⊢ <;> exact hh
    | ok n w' =>
      cases n <;> simp only [Oper.upon] at hh ⊢
      case value u => exact ⟨hh, a.defers, u, rfl⟩
      case skip => exact ⟨hh, a.defers, undef, rfl⟩
      case defer d => exact ⟨hh, d :: a.defers, undef, rfl⟩
      case enter f args =>
        refine Calls.mono hh fun e w'' he => ?_
        cases e with
        | returned u => exact ⟨he, a.defers, u, rfl⟩
        | panicked c => exact he
        | outgrown => exact he
      case row row args => exact Rows.mono hh fun u w'' he => ⟨he, a.defers, u, rfl⟩
  · rename_i hw
    simp only [hw] at hh
    exact ⟨hh, a.defers, undef, rfl⟩

/-- The operation yields v in every world in which I holds. -/
def YldI (P : Program) (ops : Array Oper) (I : World → Prop) (o : Oper) (v : Value) (a : Act) : Prop :=
  Region.wanted o (yielded ops a.tmps) = true ∧ ∀ w, I w → (execOp a.eval o).run P w = .ok (.value v) w

/-- What may break I is bound behind i. -/
def exOK (md : Region.Mode) (ops : Array Oper) (ex : Nat → Bool) (i : Nat) : Bool :=
  (List.range ops.size).all fun j => !ex j || match ops[j]? with
    | some o => o.after.any fun e => Region.binds md e && e.on == i
    | none => true
theorem exOK_spec {i j : Nat} {oj : Oper} (h : exOK md ops ex i = true) (hj : ops[j]? = some oj) (hno : ∀ e ∈ oj.after, Region.binds md e = true → e.on ≠ i) : ex j = false := by
  simp only [exOK, List.all_eq_true, List.mem_range] at h
  have h1 := h j (Array.getElem?_eq_some_iff.1 hj).1
  simp only [hj, Bool.or_eq_true, Bool.not_eq_true'] at h1
  rcases h1 with h1 | h1
  · exact h1
  · obtain ⟨e, he, hb⟩ := Array.any_eq_true'.1 h1
    simp only [Bool.and_eq_true, beq_iff_eq] at hb
    exact absurd hb.2 (hno e he hb.1)

/-- A plain operation with the same place for its value. -/
def plainOf (o : Oper) (v : Value) : Oper := { dst := o.dst, op := .move (.const v), type := o.type, pos := o.pos, after := #[], guard := none }
theorem plainOf_yields (o : Oper) (v : Value) (a : Act) : Yields P ops (plainOf o v) v a := .inl ⟨rfl, fun _ => rfl⟩
theorem plainOf_apart {o oj : Oper} {v : Value} (h : o.apart ops oj = true) : (plainOf o v).apart ops oj = true := by
  have hl : (plainOf o v).looksAt ops = [] := by simp [Oper.looksAt, plainOf, Op.operands]
  unfold Oper.apart at *
  rw [Bool.and_eq_true] at h
  rw [hl, Bool.and_eq_true]
  refine ⟨h.1, ?_⟩
  cases oj.dst <;> simp

theorem anyI_first {i : Nat} {oi : Oper} {v : Value} (hi : ops[i]? = some oi) (hsel : Region.noSelect ops = true) (hex : exOK md ops ex i = true)
    (hQ : ∀ c a w, Q (.panic c) (a.put oi.dst v) w → Q (.panic c) a w) :
    ∀ (fuel : Nat) (listed : Array Bool) (a : Act) (w : World),
      (∀ j oj, ops[j]? = some oj → j ≠ i → listed.getD j true = false → (∀ e ∈ oj.after, Region.binds md e = true → e.on ≠ i) → oi.apart ops oj = true) →
      i ∈ Region.ready md ops listed → YldI P ops I oi v a → I w →
      anyI P md ops Q I ex fuel (listed.setIfInBounds i true) (a.put oi.dst v) w → anyI P md ops Q I ex (fuel + 1) listed a w := by
  have take : ∀ (fuel : Nat) (listed : Array Bool) (a : Act) (w : World), YldI P ops I oi v a → I w → anyI P md ops Q I ex fuel (listed.setIfInBounds i true) (a.put oi.dst v) w →
      wpOp P ops Q i (fun a' w' => (ex i = true ∨ I w') ∧ anyI P md ops Q I ex fuel (listed.setIfInBounds i true) a' w') a w := by
    intro fuel listed a w hy hw H
    unfold wpOp
    simp only [hi, hy.1, if_true]
    refine .inl ?_
    unfold Oper.wp
    rw [hy.2 w hw]
    exact ⟨.inr hw, H⟩
  intro fuel
  induction fuel with
  | zero =>
    intro listed a w _ hr hy hw H
    refine ⟨fun h => (by rw [h] at hr; cases hr), fun j hj => ?_⟩
    by_cases hji : j = i
    · subst hji; exact take 0 listed a w hy hw H
    · have := ready_mono hj hji
      rw [H.1] at this
      cases this
  | succ fuel ih =>
    intro listed a w hfree hr hy hw H
    refine ⟨fun h => (by rw [h] at hr; cases hr), fun j hj => ?_⟩
    by_cases hji : j = i
    · subst hji; exact take _ listed a w hy hw H
    · have h1 := H.2 j (ready_mono hj hji)
      obtain ⟨hjun, oj, hoj, hall⟩ := mem_ready.1 hj
      have hnot : ∀ e ∈ oj.after, Region.binds md e = true → e.on ≠ i := fun e he hb heq => by
        have h2 := hall e he hb
        have h0 := (mem_ready.1 hr).1
        rw [heq] at h2
        rcases Nat.lt_or_ge i listed.size with h' | h'
        · simp [h'] at h0 h2; rw [h0] at h2; cases h2
        · simp [Array.getElem?_eq_none h'] at h2
      have hap := hfree j oj hoj hji hjun hnot
      have hexj := exOK_spec hex hoj hnot
      have h2 := wpOp_frame hoj (wpOp_put hoj (plainOf_apart (v := v) hap) (fun cs b => by simp [plainOf]) (fun cs b => Region.noSelect_spec hsel j oj cs b hoj) hQ (plainOf_yields oi v a) h1)
      obtain ⟨_, _, h3⟩ := Oper.apart_spec hap
      refine wpOp_mono (fun a' w' h4 => ?_) h2
      obtain ⟨⟨_, hI, hrest⟩, ds, u, rfl⟩ := h4
      have hIw : I w' := hI.resolve_left (by rw [hexj]; simp)
      refine ⟨.inr hIw, ih (listed.setIfInBounds j true) _ w' ?_ (ready_mono hr (Ne.symm hji)) ?_ hIw ?_⟩
      · intro k ok hk hki hun hno
        refine hfree k ok hk hki ?_ hno
        by_cases hjk : j = k
        · subst hjk; exact hjun
        · rw [getD_set_ne true hjk] at hun; exact hun
      · refine ⟨?_, ?_⟩
        · rw [wanted_put oi _ oj.dst u h3]; exact hy.1
        · rw [execOp_put oi (fun cs b => Region.noSelect_spec hsel i oi cs b hi) _ oj.dst u h3]; exact hy.2
      · rw [Array.setIfInBounds_comm _ _ hji]
        exact hrest

theorem anyI_take {i : Nat} {oi : Oper} (v : Value) {fuel : Nat} {listed : Array Bool} {a : Act} {w : World} (hi : ops[i]? = some oi) (hs : Region.noSelect ops = true) (hf : Region.free md ops listed i = true)
    (hr : (Region.ready md ops listed).contains i = true) (hex : exOK md ops ex i = true) (hQ : ∀ c a w, Q (.panic c) (a.put oi.dst v) w → Q (.panic c) a w) (hw : I w) (hy : YldI P ops I oi v a)
    (h : anyI P md ops Q I ex fuel (listed.setIfInBounds i true) (a.put oi.dst v) w) : anyI P md ops Q I ex (fuel + 1) listed a w :=
  anyI_first hi hs hex hQ fuel listed a w (Region.free_spec hi hf) (by simpa using hr) hy hw h

theorem anyT {i : Nat} {oi : Oper} (v : Value) {fuel : Nat} {listed : Array Bool} {a : Act} {w : World} (hi : ops[i]? = some oi) (hw : I w) (hy : YldI P ops I oi v a) (h : anyI P md ops Q I ex fuel (listed.setIfInBounds i true) (a.put oi.dst v) w) (hs : Region.noSelect ops = true := by kernel_rfl) (hf : Region.free md ops listed i = true := by kernel_rfl)
    (hr : (Region.ready md ops listed).contains i = true := by kernel_rfl) (hex : exOK md ops ex i = true := by kernel_rfl) (hQ : ∀ c a w, Q (.panic c) (a.put oi.dst v) w → Q (.panic c) a w := by exact fun _ _ _ h => h) : anyI P md ops Q I ex (fuel + 1) listed a w :=
  anyI_take v hi hs hf hr hex hQ hw hy h

theorem anyI_one {i : Nat} {fuel : Nat} {listed : Array Bool} {a : Act} {w : World} (hr : Region.ready md ops listed = [i])
    (h : wpOp P ops Q i (fun a' w' => (ex i = true ∨ I w') ∧ anyI P md ops Q I ex fuel (listed.setIfInBounds i true) a' w') a w) : anyI P md ops Q I ex (fuel + 1) listed a w :=
  ⟨fun h0 => (by rw [hr] at h0; cases h0), fun j hj => by rw [hr] at hj; simp at hj; subst hj; exact h⟩

theorem anyI_done {listed : Array Bool} {a : Act} {w : World} (hr : Region.ready md ops listed = []) (h : Q .normal a w) : ∀ fuel, anyI P md ops Q I ex fuel listed a w
  | 0 => ⟨hr, h⟩
  | _ + 1 => ⟨fun _ => h, by rw [hr]; simp⟩

theorem wpOp_val {i : Nat} {o : Oper} {K : Act → World → Prop} {a : Act} {w w' : World} {v : Value} (hi : ops[i]? = some o) (hg : o.guard = none) (hrun : (execOp a.eval o).run P w = .ok (.value v) w') (h : K (a.put o.dst v) w') : wpOp P ops Q i K a w := by
  unfold wpOp
  have hw : Region.wanted o (yielded ops a.tmps) = true := by simp [Region.wanted, hg]
  simp only [hi, hw, if_true]
  refine .inl ?_
  unfold Oper.wp
  rw [hrun]; exact h
theorem wpOp_skip {i : Nat} {o : Oper} {K : Act → World → Prop} {a : Act} {w w' : World} (hi : ops[i]? = some o) (hg : o.guard = none) (hrun : (execOp a.eval o).run P w = .ok .skip w') (h : K (a.put o.dst undef) w') : wpOp P ops Q i K a w := by
  unfold wpOp
  have hw : Region.wanted o (yielded ops a.tmps) = true := by simp [Region.wanted, hg]
  simp only [hi, hw, if_true]
  refine .inl ?_
  unfold Oper.wp
  rw [hrun]; exact h
theorem wpOp_call {i : Nat} {o : Oper} {K : Act → World → Prop} {a : Act} {w w1 : World} {f : FuncId} {args : Array Value} {R : Ending → World → Prop} (hi : ops[i]? = some o) (hg : o.guard = none) (hrun : (execOp a.eval o).run P w = .ok (.enter f args) w1)
    (hc : Calls P f args w1 R) (h : ∀ e w', R e w' → ∃ v, e = .returned v ∧ K (a.put o.dst v) w') : wpOp P ops Q i K a w := by
  unfold wpOp
  have hw : Region.wanted o (yielded ops a.tmps) = true := by simp [Region.wanted, hg]
  simp only [hi, hw, if_true]
  refine .inl ?_
  unfold Oper.wp
  rw [hrun]
  refine Calls.mono hc fun e w' hr => ?_
  obtain ⟨v, rfl, hk⟩ := h e w' hr
  exact hk
theorem yldI {o : Oper} {v : Value} {a : Act} (hg : o.guard = none) (h : ∀ w, I w → (execOp a.eval o).run P w = .ok (.value v) w) : YldI P ops I o v a :=
  ⟨by simp [Region.wanted, hg], h⟩
end
end Go.Proofs.YtgmjpdejfdldlaaDoor

