import Derived.Test.YtkkcnpokobndcaaDoorFsLawM
import Derived.Test.YtkkcnpokobndcaaDoorFsArg
namespace Go.Proofs.YtkkcnpokobndcaaDoor
open Go.RowKit

/-- What the law asks of an answer: not too long. -/
def Lens (R : List Fl) : Prop := R.length ≤ 1048577 ∧ (∀ p ∈ R, p.n.length ≤ 4194304 ∧ p.d.length ≤ 4194304) ∧ 1 + totM R ≤ 1000000000000
theorem lens_of {R : List Fl} (h1 : R.length ≤ 1048577) (h2 : ∀ p ∈ R, p.n.length ≤ 1048576 ∧ p.d.length ≤ 1048576) (h3 : totM R ≤ 4194304) : Lens R :=
  ⟨h1, fun p hp => by have := h2 p hp; omega, by omega⟩
theorem totM_filter (q : Fl → Bool) : ∀ fs : List Fl, totM (fs.filter q) ≤ totM fs
  | [] => by simp [totM]
  | p :: ps => by
    have := totM_filter q ps
    by_cases h : q p = true
    · rw [List.filter_cons_of_pos h]; simp only [totM]; omega
    · rw [List.filter_cons_of_neg h]; simp only [totM]; omega
theorem totM_ins (f : Fl) : ∀ rs : List Fl, totM (insF f rs) = totM rs + (f.n.length + f.d.length + 1)
  | [] => by simp [insF, totM]
  | r :: rs => by
    unfold insF
    split
    · simp only [totM, totM_ins f rs]; omega
    · simp only [totM]; omega
theorem totM_with (fs : List Fl) (f : Fl) : totM (withF fs f) ≤ totM fs + (f.n.length + f.d.length + 1) := by
  unfold withF; rw [totM_ins]; have := totM_filter (fun g => decide (g.n ≠ f.n)) fs; unfold withoutF; omega
theorem with_fss {fs : List Fl} (hd : Fss fs) {f : Fl} (hf : f.n.length ≤ 1048576 ∧ f.d.length ≤ 1048576) : ∀ p ∈ withF fs f, p.n.length ≤ 1048576 ∧ p.d.length ≤ 1048576 := fun p hp => by
  unfold withF at hp
  rcases insF_mem f _ p hp with rfl | h
  · exact hf
  · exact hd.tlen p (without_mem h)
theorem with_len2 (fs : List Fl) (f : Fl) : (withF fs f).length ≤ fs.length + 1 := by unfold withF; rw [insF_length]; have := without_len fs f.n; omega
theorem totM_one {fs : List Fl} {f : Fl} (h : f ∈ fs) : (f.n.length : Int) + f.d.length + 1 ≤ totM fs := by
  induction fs with
  | nil => simp at h
  | cons p ps ih =>
    have := totM_nonneg ps
    simp only [List.mem_cons] at h
    rcases h with rfl | h
    · simp only [totM]; omega
    · have := ih h; simp only [totM]; omega
theorem lens_nil : Lens [] := ⟨by simp, by simp, by simp [totM]⟩
theorem lens_self {fs : List Fl} (hd : Fss fs) (hle : ((fs.length + tot fs : Nat) : Int) ≤ 1048576) : Lens fs := lens_of (by omega) hd.tlen (by have := totM_bd fs; omega)

end Go.Proofs.YtkkcnpokobndcaaDoor
