import Derived.Test.YtkkcnpokobndcaaDoorFsCmp
import Derived.Test.YtkkcnpokobndcaaDoorFsArg
namespace Go.Proofs.YtkkcnpokobndcaaDoor
open Go.RowKit

theorem ltB_irr : ∀ x : List Int, ltB x x = false
  | [] => rfl
  | a :: x => by simp [ltB, ltB_irr x]
theorem ltB_trans : ∀ x y z : List Int, ltB x y = true → ltB y z = true → ltB x z = true
  | _, [], _, h, _ => by simp [ltB] at h
  | _, _ :: _, [], _, h => by simp [ltB] at h
  | [], _ :: _, _ :: _, _, _ => rfl
  | a :: x, b :: y, c :: z, h1, h2 => by
    simp only [ltB, Bool.or_eq_true, Bool.and_eq_true, decide_eq_true_eq] at h1 h2 ⊢
    rcases h1 with h1 | ⟨h1, h1'⟩ <;> rcases h2 with h2 | ⟨h2, h2'⟩
    · left; omega
    · left; omega
    · left; omega
    · right; exact ⟨by omega, ltB_trans x y z h1' h2'⟩
theorem ltB_tri : ∀ x y : List Int, ltB x y = false → ltB y x = false → x = y
  | [], [], _, _ => rfl
  | [], _ :: _, h, _ => by simp [ltB] at h
  | _ :: _, [], _, h => by simp [ltB] at h
  | a :: x, b :: y, h1, h2 => by
    simp only [ltB, Bool.or_eq_false_iff, Bool.and_eq_false_iff, decide_eq_false_iff_not] at h1 h2
    have hab : a = b := by omega
    subst hab
    have h1' : ltB x y = false := by rcases h1.2 with h | h; exact absurd rfl h; exact h
    have h2' : ltB y x = false := by rcases h2.2 with h | h; exact absurd rfl h; exact h
    rw [ltB_tri x y h1' h2']

/-- A valid list ascends. -/
theorem valid_asc {fs : List Fl} (h : validF fs = true) : ∀ (i j : Nat) (hij : i < j) (hj : j < fs.length), ltB (fs[i]'(by omega)).n fs[j].n = true := by
  unfold validF at h
  rw [Bool.and_eq_true, List.all_eq_true] at h
  have one : ∀ (i : Nat) (hi : i + 1 < fs.length), ltB (fs[i]'(by omega)).n fs[i + 1].n = true := fun i hi => by
    have := h.2 (i + 1) (by simpa using hi)
    rw [okAt_succ hi, Bool.and_eq_true] at this
    exact this.2
  intro i j
  induction j with
  | zero => intro hij; omega
  | succ j ih =>
    intro hij hj
    by_cases e : i = j
    · subst e; exact one i hj
    · exact ltB_trans _ _ _ (ih (by omega) (by omega)) (one j hj)

/-- The place of a name: what stands before it is less, what stands from it on is not. -/
structure Pos (fs : List Fl) (n : List Int) (i : Nat) : Prop where
  le : i ≤ fs.length
  low : ∀ k (hk : k < fs.length), k < i → ltB fs[k].n n = true
  high : ∀ k (hk : k < fs.length), i ≤ k → ltB fs[k].n n = false

theorem pos_find {fs : List Fl} {n : List Int} {i : Nat} (hp : Pos fs n i) (hi : i < fs.length) (he : fs[i].n = n) : findF fs n = some fs[i] := by
  refine find_yes i hi (fun j hj e => ?_) he
  have := hp.low j (by omega) hj
  rw [e, ltB_irr] at this
  cases this
theorem pos_none {fs : List Fl} {n : List Int} {i : Nat} (hv : validF fs = true) (hp : Pos fs n i) (hn : ∀ hi : i < fs.length, fs[i].n ≠ n) : findF fs n = none := by
  refine find_no (fun j hj e => ?_)
  by_cases h1 : j < i
  · have := hp.low j hj h1
    rw [e, ltB_irr] at this
    cases this
  · by_cases h2 : j = i
    · subst h2; exact hn hj e
    · have h3 := valid_asc hv i j (by omega) hj
      have h4 := hp.high i (by omega) (Nat.le_refl _)
      rw [e] at h3
      rw [h3] at h4
      cases h4

end Go.Proofs.YtkkcnpokobndcaaDoor
