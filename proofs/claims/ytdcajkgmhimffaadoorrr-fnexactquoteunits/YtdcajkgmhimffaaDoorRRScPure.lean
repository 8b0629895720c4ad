import Derived.Test.YtdcajkgmhimffaaDoorRRFirst
import Derived.Test.YtdcajkgmhimffaaDoorRRSeq
import Derived.Test.YtdcajkgmhimffaaDoorRRNumPure
namespace Go.Proofs.YtdcajkgmhimffaaDoorRR
open Go.RowKit

/-- The point at place n, or -1; how many bytes it takes. -/
def nxP (zs : List Int) (n : Nat) : Int := if n < zs.length then fpP (zs.drop n) else -1
def nxS (zs : List Int) (n : Nat) : Nat := if n < zs.length then fsize (zs.drop n) else 0
theorem nxP_end {zs : List Int} {n : Nat} (h : ¬ n < zs.length) : nxP zs n = -1 := by simp [nxP, h]
theorem nxS_end {zs : List Int} {n : Nat} (h : ¬ n < zs.length) : nxS zs n = 0 := by simp [nxS, h]
theorem nxP_in {zs : List Int} {n : Nat} (h : n < zs.length) : nxP zs n = fpP (zs.drop n) := by simp [nxP, h]
theorem nxS_in {zs : List Int} {n : Nat} (h : n < zs.length) : nxS zs n = fsize (zs.drop n) := by simp [nxS, h]

theorem nxS_le (zs : List Int) (n : Nat) (h : n ≤ zs.length) : n + nxS zs n ≤ zs.length := by
  unfold nxS
  split
  · have := fsize_le (zs.drop n)
    rw [List.length_drop] at this
    omega
  · omega
theorem nxS_pos {zs : List Int} {n : Nat} (h : nxP zs n ≠ -1) : 0 < nxS zs n ∧ n < zs.length := by
  by_cases hn : n < zs.length
  · refine ⟨?_, hn⟩
    rw [nxP_in hn] at h
    rw [nxS_in hn]
    rcases Nat.eq_zero_or_pos (fsize (zs.drop n)) with e | e
    · exact absurd (fp_none e) h
    · exact e
  · exact absurd (nxP_end hn) h

/-- Where the points that belong end. -/
def skN (P : Int → Bool) (zs : List Int) : Nat → Nat → Nat
  | 0, n => n
  | f + 1, n => if nxP zs n ≠ -1 ∧ P (nxP zs n) = true then skN P zs f (n + nxS zs n) else n
theorem skN_go {P : Int → Bool} {zs : List Int} {f n : Nat} (h1 : nxP zs n ≠ -1) (h2 : P (nxP zs n) = true) : skN P zs (f + 1) n = skN P zs f (n + nxS zs n) := by
  rw [skN, if_pos ⟨h1, h2⟩]
theorem skN_stop {P : Int → Bool} {zs : List Int} {f n : Nat} (h : nxP zs n = -1 ∨ P (nxP zs n) = false) : skN P zs f n = n := by
  cases f with
  | zero => rfl
  | succ f =>
    rw [skN, if_neg]
    rintro ⟨h1, h2⟩
    rcases h with h | h
    · exact h1 h
    · rw [h] at h2; cases h2

/-- An ASCII byte is a point of its own; another one is none, or begins a greater one. -/
theorem nx_ascii {zs : List Int} (hby : Bys zs) {n : Nat} (hn : n < zs.length) (h : zs[n]?.getD 0 < 128) : nxP zs n = zs[n]?.getD 0 ∧ nxS zs n = 1 := by
  have hcb := hby.get n
  have hd : (zs.drop n)[0]?.getD 0 = zs[n]?.getD 0 := by simp [List.getElem?_drop]
  have hlen : 1 ≤ (zs.drop n).length := by rw [List.length_drop]; omega
  generalize hs : zs.drop n = s at hd hlen
  rw [nxP_in hn, nxS_in hn, hs, ← hd]
  rw [← hd] at h hcb
  have hlv : lv s 1 = s[0]?.getD 0 := by
    rw [lv_fold (by omega) (by rw [lead_one _ h]; omega), lead_one _ h]; rfl
  have hok : okPt (s[0]?.getD 0) = true := by simp [okPt]; omega
  have hneed : need (s[0]?.getD 0) = 1 := by unfold need; rw [if_pos hok, if_pos h]
  have hhit : hit s 1 = true := (hit_val hlv hcb.1).2 hneed
  have hz : fsize s = 1 := by unfold fsize; rw [if_pos hhit]
  exact ⟨fp_some (by omega) hz hlv, hz⟩
theorem hit_fsize {s : List Int} (h : fsize s ≠ 0) : hit s (fsize s) = true := by
  unfold fsize at h ⊢
  split
  · assumption
  · split
    · assumption
    · split
      · assumption
      · split
        · assumption
        · simp_all
theorem nx_high {zs : List Int} {n : Nat} (hn : n < zs.length) (h : ¬ zs[n]?.getD 0 < 128) : nxP zs n = -1 ∨ 128 ≤ nxP zs n := by
  have hd : (zs.drop n)[0]?.getD 0 = zs[n]?.getD 0 := by simp [List.getElem?_drop]
  rw [nxP_in hn]
  rw [← hd] at h
  generalize zs.drop n = s at h
  by_cases hf : fsize s = 0
  · exact .inl (fp_none hf)
  · right
    have h1 : hit s 1 = false := hit_lead (by simp [lead, h])
    have hh := hit_fsize hf
    have hp : fpP s = lv s (fsize s) := by simp [fpP, hf]
    rw [hp]
    have h2 : fsize s ≠ 1 := fun e => by rw [e, h1] at hh; cases hh
    simp only [hit, Bool.and_eq_true, decide_eq_true_eq, beq_iff_eq] at hh
    apply Classical.byContradiction
    intro hlt
    have hok : okPt (lv s (fsize s)) = true := by simp [okPt]; omega
    have := hh.2
    rw [need, if_pos hok, if_pos (by omega)] at this
    omega

/-- A predicate of ASCII points. -/
def Asc (P : Int → Bool) : Prop := ∀ p, P p = true → 0 ≤ p ∧ p < 128
theorem sk_ascii {P : Int → Bool} (hP : Asc P) {zs : List Int} (hby : Bys zs) : ∀ (f n : Nat), n ≤ zs.length → zs.length - n < f →
    zs.drop (skN P zs f n) = (zs.drop n).dropWhile P ∧ n ≤ skN P zs f n ∧ skN P zs f n ≤ zs.length ∧ (n < skN P zs f n ↔ (n < zs.length ∧ P (zs[n]?.getD 0) = true)) := by
  intro f
  induction f with
  | zero => intro n h1 h2; omega
  | succ f ih =>
    intro n h1 h2
    by_cases hn : n < zs.length
    · have hc := List.drop_eq_getElem_cons hn
      have hg : zs[n]?.getD 0 = zs[n] := by simp [hn]
      by_cases hp : P (zs[n]?.getD 0) = true
      · have ha := nx_ascii hby hn (hP _ hp).2
        have hne : nxP zs n ≠ -1 := by rw [ha.1]; have := (hP _ hp).1; omega
        have := ih (n + 1) (by omega) (by omega)
        rw [skN_go hne (by rw [ha.1]; exact hp), ha.2]
        refine ⟨?_, by omega, this.2.2.1, fun _ => ⟨hn, hp⟩, fun _ => by omega⟩
        rw [this.1, hc, List.dropWhile_cons, if_pos (by rw [← hg]; exact hp)]
      · have hst : nxP zs n = -1 ∨ P (nxP zs n) = false := by
          by_cases h128 : zs[n]?.getD 0 < 128
          · right; rw [(nx_ascii hby hn h128).1]; simpa using hp
          · rcases nx_high hn h128 with e | e
            · exact .inl e
            · right
              cases hq : P (nxP zs n)
              · rfl
              · have := (hP _ hq).2; omega
        rw [skN_stop hst]
        refine ⟨?_, Nat.le_refl _, h1, by simp [hp]⟩
        rw [hc, List.dropWhile_cons, if_neg (by rw [← hg]; simpa using hp)]
    · rw [skN_stop (.inl (nxP_end hn))]
      refine ⟨?_, Nat.le_refl _, h1, by omega⟩
      rw [List.drop_of_length_le (by omega)]
      rfl

end Go.Proofs.YtdcajkgmhimffaaDoorRR
