import Derived.Test.YthcjmmpkgljjhaaGreatDoorMAG
namespace Go.Proofs.YthcjmmpkgljjhaaGreatDoor

/-! Two more ways to take an operation of a drawn region first: one that reads nothing of the world; one that reads it while all that may break I and is not bound behind it lies done. -/

section
variable {P : Program} {ops : Array Oper} {Q : Exit → Act → World → Prop} {md : Region.Mode} {I : World → Prop} {ex : Nat → Bool}

/-- The operation yields v in every world. -/
def YldA (P : Program) (ops : Array Oper) (o : Oper) (v : Value) (a : Act) : Prop :=
  Region.wanted o (yielded ops a.tmps) = true ∧ ∀ w, (execOp a.eval o).run P w = .ok (.value v) w
theorem yldA {o : Oper} {v : Value} {a : Act} (hg : o.guard = none) (h : ∀ w, (execOp a.eval o).run P w = .ok (.value v) w) : YldA P ops o v a :=
  ⟨by simp [Region.wanted, hg], h⟩

theorem anyI_firstA {i : Nat} {oi : Oper} {v : Value} (hi : ops[i]? = some oi) (hsel : Region.noSelect ops = true) (hei : ex i = true)
    (hQ : ∀ c a w, Q (.panic c) (a.put oi.dst v) w → Q (.panic c) a w) :
    ∀ (fuel : Nat) (listed : Array Bool) (a : Act) (w : World),
      (∀ j oj, ops[j]? = some oj → j ≠ i → listed.getD j true = false → (∀ e ∈ oj.after, Region.binds md e = true → e.on ≠ i) → oi.apart ops oj = true) →
      i ∈ Region.ready md ops listed → YldA P ops oi v a →
      anyI P md ops Q I ex fuel (listed.setIfInBounds i true) (a.put oi.dst v) w → anyI P md ops Q I ex (fuel + 1) listed a w := by
  have take : ∀ (fuel : Nat) (listed : Array Bool) (a : Act) (w : World), YldA P ops oi v a → anyI P md ops Q I ex fuel (listed.setIfInBounds i true) (a.put oi.dst v) w →
      wpOp P ops Q i (fun a' w' => (ex i = true ∨ I w') ∧ anyI P md ops Q I ex fuel (listed.setIfInBounds i true) a' w') a w := by
    intro fuel listed a w hy H
    unfold wpOp
    simp only [hi, hy.1, if_true]
    refine .inl ?_
    unfold Oper.wp
    rw [hy.2 w]
    exact ⟨.inl hei, H⟩
  intro fuel
  induction fuel with
  | zero =>
    intro listed a w _ hr hy H
    refine ⟨fun h => (by rw [h] at hr; cases hr), fun j hj => ?_⟩
    by_cases hji : j = i
    · subst hji; exact take 0 listed a w hy H
    · have := ready_mono hj hji
      rw [H.1] at this
      cases this
  | succ fuel ih =>
    intro listed a w hfree hr hy H
    refine ⟨fun h => (by rw [h] at hr; cases hr), fun j hj => ?_⟩
    by_cases hji : j = i
    · subst hji; exact take _ listed a w hy H
    · have h1 := H.2 j (ready_mono hj hji)
      obtain ⟨hjun, oj, hoj, hall⟩ := mem_ready.1 hj
      have hnot : ∀ e ∈ oj.after, Region.binds md e = true → e.on ≠ i := fun e he hb heq => by
        have h2 := hall e he hb
        have h0 := (mem_ready.1 hr).1
        rw [heq] at h2
        rcases Nat.lt_or_ge i listed.size with h' | h'
        · simp [h'] at h0 h2; rw [h0] at h2; cases h2
        · simp [Array.getElem?_eq_none h'] at h2
      have hap := hfree j oj hoj hji hjun hnot
      have h2 := wpOp_frame hoj (wpOp_put hoj (plainOf_apart (v := v) hap) (fun cs b => by simp [plainOf]) (fun cs b => Region.noSelect_spec hsel j oj cs b hoj) hQ (plainOf_yields oi v a) h1)
      obtain ⟨_, _, h3⟩ := Oper.apart_spec hap
      refine wpOp_mono (fun a' w' h4 => ?_) h2
      obtain ⟨⟨_, hI, hrest⟩, ds, u, rfl⟩ := h4
      refine ⟨hI, ih (listed.setIfInBounds j true) _ w' ?_ (ready_mono hr (Ne.symm hji)) ?_ ?_⟩
      · intro k ok hk hki hun hno
        refine hfree k ok hk hki ?_ hno
        by_cases hjk : j = k
        · subst hjk; exact hjun
        · rw [getD_set_ne true hjk] at hun; exact hun
      · refine ⟨?_, ?_⟩
        · rw [wanted_put oi _ oj.dst u h3]; exact hy.1
        · rw [execOp_put oi (fun cs b => Region.noSelect_spec hsel i oi cs b hi) _ oj.dst u h3]; exact hy.2
      · rw [Array.setIfInBounds_comm _ _ hji]
        exact hrest
theorem anyI_pure {i : Nat} {oi : Oper} (v : Value) {fuel : Nat} {listed : Array Bool} {a : Act} {w : World} (hi : ops[i]? = some oi) (hs : Region.noSelect ops = true) (hf : Region.free md ops listed i = true)
    (hr : (Region.ready md ops listed).contains i = true) (hei : ex i = true) (hQ : ∀ c a w, Q (.panic c) (a.put oi.dst v) w → Q (.panic c) a w) (hy : YldA P ops oi v a)
    (h : anyI P md ops Q I ex fuel (listed.setIfInBounds i true) (a.put oi.dst v) w) : anyI P md ops Q I ex (fuel + 1) listed a w :=
  anyI_firstA hi hs hei hQ fuel listed a w (Region.free_spec hi hf) (by simpa using hr) hy h

/-- What may break I and is not done is bound behind i. -/
def exOKL (md : Region.Mode) (ops : Array Oper) (ex : Nat → Bool) (listed : Array Bool) (i : Nat) : Bool :=
  (List.range ops.size).all fun j => !ex j || listed.getD j true || match ops[j]? with
    | some o => o.after.any fun e => Region.binds md e && e.on == i
    | none => true
theorem exOKL_spec {i j : Nat} {oj : Oper} {listed : Array Bool} (h : exOKL md ops ex listed i = true) (hj : ops[j]? = some oj) (hl : listed.getD j true = false) (hno : ∀ e ∈ oj.after, Region.binds md e = true → e.on ≠ i) : ex j = false := by
  simp only [exOKL, List.all_eq_true, List.mem_range] at h
  have h1 := h j (Array.getElem?_eq_some_iff.1 hj).1
  rw [hl] at h1
  simp only [hj, Bool.or_eq_true, Bool.not_eq_true', Bool.or_false] at h1
  rcases h1 with h1 | h1
  · exact h1
  · obtain ⟨e, he, hb⟩ := Array.any_eq_true'.1 h1
    simp only [Bool.and_eq_true, beq_iff_eq] at hb
    exact absurd hb.2 (hno e he hb.1)

theorem anyI_firstL {i : Nat} {oi : Oper} {v : Value} (hi : ops[i]? = some oi) (hsel : Region.noSelect ops = true)
    (hQ : ∀ c a w, Q (.panic c) (a.put oi.dst v) w → Q (.panic c) a w) :
    ∀ (fuel : Nat) (listed : Array Bool) (a : Act) (w : World),
      (∀ j oj, ops[j]? = some oj → listed.getD j true = false → (∀ e ∈ oj.after, Region.binds md e = true → e.on ≠ i) → ex j = false) →
      (∀ j oj, ops[j]? = some oj → j ≠ i → listed.getD j true = false → (∀ e ∈ oj.after, Region.binds md e = true → e.on ≠ i) → oi.apart ops oj = true) →
      i ∈ Region.ready md ops listed → YldI P ops I oi v a → I w →
      anyI P md ops Q I ex fuel (listed.setIfInBounds i true) (a.put oi.dst v) w → anyI P md ops Q I ex (fuel + 1) listed a w := by
  have take : ∀ (fuel : Nat) (listed : Array Bool) (a : Act) (w : World), YldI P ops I oi v a → I w → anyI P md ops Q I ex fuel (listed.setIfInBounds i true) (a.put oi.dst v) w →
      wpOp P ops Q i (fun a' w' => (ex i = true ∨ I w') ∧ anyI P md ops Q I ex fuel (listed.setIfInBounds i true) a' w') a w := by
    intro fuel listed a w hy hw H
    unfold wpOp
    simp only [hi, hy.1, if_true]
    refine .inl ?_
    unfold Oper.wp
    rw [hy.2 w hw]
    exact ⟨.inr hw, H⟩
  intro fuel
  induction fuel with
  | zero =>
    intro listed a w _ _ hr hy hw H
    refine ⟨fun h => (by rw [h] at hr; cases hr), fun j hj => ?_⟩
    by_cases hji : j = i
    · subst hji; exact take 0 listed a w hy hw H
    · have := ready_mono hj hji
      rw [H.1] at this
      cases this
  | succ fuel ih =>
    intro listed a w hex hfree hr hy hw H
    refine ⟨fun h => (by rw [h] at hr; cases hr), fun j hj => ?_⟩
    by_cases hji : j = i
    · subst hji; exact take _ listed a w hy hw H
    · have h1 := H.2 j (ready_mono hj hji)
      obtain ⟨hjun, oj, hoj, hall⟩ := mem_ready.1 hj
      have hnot : ∀ e ∈ oj.after, Region.binds md e = true → e.on ≠ i := fun e he hb heq => by
        have h2 := hall e he hb
        have h0 := (mem_ready.1 hr).1
        rw [heq] at h2
        rcases Nat.lt_or_ge i listed.size with h' | h'
        · simp [h'] at h0 h2; rw [h0] at h2; cases h2
        · simp [Array.getElem?_eq_none h'] at h2
      have hap := hfree j oj hoj hji hjun hnot
      have hexj := hex j oj hoj hjun hnot
      have h2 := wpOp_frame hoj (wpOp_put hoj (plainOf_apart (v := v) hap) (fun cs b => by simp [plainOf]) (fun cs b => Region.noSelect_spec hsel j oj cs b hoj) hQ (plainOf_yields oi v a) h1)
      obtain ⟨_, _, h3⟩ := Oper.apart_spec hap
      refine wpOp_mono (fun a' w' h4 => ?_) h2
      obtain ⟨⟨_, hI, hrest⟩, ds, u, rfl⟩ := h4
      have hIw : I w' := hI.resolve_left (by rw [hexj]; simp)
      have low : ∀ k, (listed.setIfInBounds j true).getD k true = false → listed.getD k true = false := fun k hun => by
        by_cases hjk : j = k
        · subst hjk; exact hjun
        · rw [getD_set_ne true hjk] at hun; exact hun
      refine ⟨.inr hIw, ih (listed.setIfInBounds j true) _ w' (fun k ok hk hun hno => hex k ok hk (low k hun) hno) (fun k ok hk hki hun hno => hfree k ok hk hki (low k hun) hno) (ready_mono hr (Ne.symm hji)) ?_ hIw ?_⟩
      · refine ⟨?_, ?_⟩
        · rw [wanted_put oi _ oj.dst u h3]; exact hy.1
        · rw [execOp_put oi (fun cs b => Region.noSelect_spec hsel i oi cs b hi) _ oj.dst u h3]; exact hy.2
      · rw [Array.setIfInBounds_comm _ _ hji]
        exact hrest
theorem anyI_takeL {i : Nat} {oi : Oper} (v : Value) {fuel : Nat} {listed : Array Bool} {a : Act} {w : World} (hi : ops[i]? = some oi) (hs : Region.noSelect ops = true) (hf : Region.free md ops listed i = true)
    (hr : (Region.ready md ops listed).contains i = true) (hex : exOKL md ops ex listed i = true) (hQ : ∀ c a w, Q (.panic c) (a.put oi.dst v) w → Q (.panic c) a w) (hw : I w) (hy : YldI P ops I oi v a)
    (h : anyI P md ops Q I ex fuel (listed.setIfInBounds i true) (a.put oi.dst v) w) : anyI P md ops Q I ex (fuel + 1) listed a w :=
  anyI_firstL hi hs hQ fuel listed a w (fun _ _ hj hl hno => exOKL_spec hex hj hl hno) (Region.free_spec hi hf) (by simpa using hr) hy hw h
end
end Go.Proofs.YthcjmmpkgljjhaaGreatDoor

