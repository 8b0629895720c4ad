import Derived.Test.YtbiiopiaglkicaaDoorFpPure
namespace Go.Proofs.YtbiiopiaglkicaaDoor
open Go.RowKit

/-- What the iterator gives from s on, which begins at the offset k. -/
def seqP : Nat → List Int → Nat → List (Int × Int)
  | 0, _, _ => []
  | f + 1, s, k => if s = [] then [] else if fsize s = 0 then [((k : Int), -1)] else ((k : Int), lv s (fsize s)) :: seqP f (s.drop (fsize s)) (k + fsize s)
def seqR (zs : List Int) : List (Int × Int) := seqP zs.length zs 0

theorem seq_nil (f k : Nat) : seqP f [] k = [] := by cases f <;> simp [seqP]
theorem seq_go {f k : Nat} {s : List Int} (hs : s ≠ []) (h : fsize s ≠ 0) : seqP (f + 1) s k = ((k : Int), lv s (fsize s)) :: seqP f (s.drop (fsize s)) (k + fsize s) := by simp [seqP, hs, h]
theorem seq_bad {f k : Nat} {s : List Int} (hs : s ≠ []) (h : fsize s = 0) : seqP (f + 1) s k = [((k : Int), -1)] := by simp [seqP, hs, h]

theorem hit_pos {s : List Int} {n : Nat} (h : hit s n = true) : 0 ≤ lv s n := by
  simp only [hit, Bool.and_eq_true, decide_eq_true_eq] at h
  exact h.1
theorem lv_pos {s : List Int} (h : fsize s ≠ 0) : 0 ≤ lv s (fsize s) := by
  have hh : hit s (fsize s) = true := by
    unfold fsize at h ⊢
    split
    · assumption
    · split
      · assumption
      · split
        · assumption
        · split
          · assumption
          · simp_all
  exact hit_pos hh
theorem fp_pos {s : List Int} (h : fsize s ≠ 0) : 0 ≤ fpP s := by unfold fpP; rw [if_neg h]; exact lv_pos h

def MidS (zs : List Int) (pre : List (Int × Int)) (k : Nat) : Prop := k ≤ zs.length ∧ pre.length ≤ k ∧ ∃ f, zs.length - k ≤ f ∧ pre ++ seqP f (zs.drop k) k = seqR zs
theorem MidS.start (zs : List Int) : MidS zs [] 0 := ⟨Nat.zero_le _, Nat.le_refl _, zs.length, by omega, by simp [seqR]⟩
theorem MidS.step {zs : List Int} {pre : List (Int × Int)} {k : Nat} (h : MidS zs pre k) (hk : k < zs.length) (hf : fsize (zs.drop k) ≠ 0) :
    MidS zs (pre ++ [((k : Int), fpP (zs.drop k))]) (k + fsize (zs.drop k)) := by
  obtain ⟨h1, ha, f, h2, h3⟩ := h
  have hs : zs.drop k ≠ [] := by rw [ne_eq, List.drop_eq_nil_iff]; omega
  have hl := fsize_le (zs.drop k)
  rw [List.length_drop] at hl
  obtain ⟨f', rfl⟩ : ∃ f', f = f' + 1 := ⟨f - 1, by omega⟩
  rw [seq_go hs hf, List.drop_drop] at h3
  refine ⟨by omega, by simp only [List.length_append, List.length_singleton]; omega, f', by omega, ?_⟩
  rw [← h3]; simp [fpP, hf]
theorem MidS.bad {zs : List Int} {pre : List (Int × Int)} {k : Nat} (h : MidS zs pre k) (hk : k < zs.length) (hf : fsize (zs.drop k) = 0) : pre ++ [((k : Int), fpP (zs.drop k))] = seqR zs := by
  obtain ⟨h1, ha, f, h2, h3⟩ := h
  have hs : zs.drop k ≠ [] := by rw [ne_eq, List.drop_eq_nil_iff]; omega
  obtain ⟨f', rfl⟩ : ∃ f', f = f' + 1 := ⟨f - 1, by omega⟩
  rw [seq_bad hs hf] at h3
  rw [fp_none hf]; exact h3
theorem MidS.done {zs : List Int} {pre : List (Int × Int)} {k : Nat} (h : MidS zs pre k) (hk : ¬ k < zs.length) : pre = seqR zs := by
  obtain ⟨h1, ha, f, h2, h3⟩ := h
  rw [List.drop_eq_nil_of_le (by omega), seq_nil] at h3
  simpa using h3
theorem MidS.prefix {zs : List Int} {pre : List (Int × Int)} {k : Nat} (h : MidS zs pre k) : pre <+: seqR zs := by
  obtain ⟨h1, ha, f, h2, h3⟩ := h
  exact ⟨_, h3⟩

theorem seq_done (f : Nat) : ∀ (s : List Int) (k : Nat), (∀ x ∈ seqP f s k, x.2 ≠ -1) → err f s k = none ∧ (seqP f s k).map (·.2) = pts f s := by
  induction f with
  | zero => intro s k _; simp [seqP, err, pts]
  | succ f ih =>
    intro s k h
    by_cases hs : s = []
    · simp [seqP, err, pts, hs]
    · by_cases hf : fsize s = 0
      · rw [seq_bad hs hf] at h
        exact absurd rfl (h _ (List.mem_singleton.2 rfl))
      · rw [seq_go hs hf] at h ⊢
        have h' := ih (s.drop (fsize s)) (k + fsize s) (fun x hx => h x (List.mem_cons_of_mem _ hx))
        rw [err_go hs hf, pts_go hs hf]
        exact ⟨h'.1, by simp [h'.2]⟩
theorem seq_stop (f : Nat) : ∀ (s : List Int) (k : Nat) (q : List (Int × Int)) (x : Int × Int), q ++ [x] <+: seqP f s k → x.2 = -1 → ∃ m : Nat, err f s k = some m ∧ x.1 = (m : Int) := by
  induction f with
  | zero => intro s k q x h _; simp [seqP] at h
  | succ f ih =>
    intro s k q x h hx
    by_cases hs : s = []
    · rw [hs, seq_nil] at h; simp at h
    · by_cases hf : fsize s = 0
      · rw [seq_bad hs hf] at h
        refine ⟨k, err_bad hs hf, ?_⟩
        cases q with
        | nil => obtain ⟨t, ht⟩ := h; simp at ht; rw [ht.1]
        | cons y q => obtain ⟨t, ht⟩ := h; simp at ht
      · rw [seq_go hs hf] at h
        rw [err_go hs hf]
        cases q with
        | nil =>
          obtain ⟨t, ht⟩ := h
          simp at ht
          have := lv_pos hf
          rw [ht.1] at hx; simp at hx; omega
        | cons y q =>
          refine ih (s.drop (fsize s)) (k + fsize s) q x ?_ hx
          rw [List.cons_append, List.cons_prefix_cons] at h
          exact h.2
theorem decR_done {zs : List Int} (h : ∀ x ∈ seqR zs, x.2 ≠ -1) : decR zs = ((seqR zs).map (·.2), 0, 0) := by
  have h' := seq_done zs.length zs 0 h
  rw [decR_ok h'.1]; unfold seqR; rw [h'.2]
theorem decR_stop {zs : List Int} {q : List (Int × Int)} {x : Int × Int} (h : q ++ [x] <+: seqR zs) (hx : x.2 = -1) : decR zs = ([], 2, x.1) := by
  obtain ⟨m, h1, h2⟩ := seq_stop zs.length zs 0 q x h hx
  rw [decR_bad h1, h2]

end Go.Proofs.YtbiiopiaglkicaaDoor
