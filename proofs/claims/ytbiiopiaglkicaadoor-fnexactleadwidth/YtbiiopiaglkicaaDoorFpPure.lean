import Derived.Test.YtbiiopiaglkicaaDoorValue1
namespace Go.Proofs.YtbiiopiaglkicaaDoor
open Go.RowKit

theorem hit_lead {s : List Int} {m : Nat} (h : lead m (s[0]?.getD 0) < 0) : hit s m = false := by
  have : lv s m = -1 := by
    by_cases hl : s.length < m
    · exact lv_short hl
    · exact lv_lead (by omega) h
  simp [hit, this]
theorem hit_neg {s : List Int} {m : Nat} (h : lv s m = -1) : hit s m = false := by simp [hit, h]
theorem fsize_only {s : List Int} {n : Nat} (h1 : 1 ≤ n) (h4 : n ≤ 4) (h : ∀ m, 1 ≤ m → m ≤ 4 → m ≠ n → hit s m = false) : fsize s = if hit s n then n else 0 := by
  unfold fsize
  by_cases e1 : n = 1
  · subst e1
    rw [h 2 (by omega) (by omega) (by omega), h 3 (by omega) (by omega) (by omega), h 4 (by omega) (by omega) (by omega)]; simp
  · rw [h 1 (by omega) (by omega) (by omega)]
    by_cases e2 : n = 2
    · subst e2
      rw [h 3 (by omega) (by omega) (by omega), h 4 (by omega) (by omega) (by omega)]; simp
    · rw [h 2 (by omega) (by omega) (by omega)]
      by_cases e3 : n = 3
      · subst e3
        rw [h 4 (by omega) (by omega) (by omega)]; simp
      · rw [h 3 (by omega) (by omega) (by omega)]
        have e4 : n = 4 := by omega
        subst e4; simp
theorem fsize_zero {s : List Int} (h : ∀ m, 1 ≤ m → m ≤ 4 → hit s m = false) : fsize s = 0 := by
  unfold fsize
  rw [h 1 (by omega) (by omega), h 2 (by omega) (by omega), h 3 (by omega) (by omega), h 4 (by omega) (by omega)]; simp

/-- The classes of a first byte. -/
theorem lead_cls1 {c : Int} (h0 : 0 ≤ c) (h : c < 128) : ∀ m, 1 ≤ m → m ≤ 4 → m ≠ 1 → lead m c < 0 := by
  intro m h1 h4 hne
  rw [lead_no m c (by omega) (by omega) (by omega) (by omega)]; omega
theorem lead_cls2 {c : Int} (h : c / 32 = 6) : ∀ m, 1 ≤ m → m ≤ 4 → m ≠ 2 → lead m c < 0 := by
  intro m h1 h4 hne
  rw [lead_no m c (by omega) (by omega) (by omega) (by omega)]; omega
theorem lead_cls3 {c : Int} (h : c / 16 = 14) : ∀ m, 1 ≤ m → m ≤ 4 → m ≠ 3 → lead m c < 0 := by
  intro m h1 h4 hne
  rw [lead_no m c (by omega) (by omega) (by omega) (by omega)]; omega
theorem lead_cls4 {c : Int} (h : c / 8 = 30) : ∀ m, 1 ≤ m → m ≤ 4 → m ≠ 4 → lead m c < 0 := by
  intro m h1 h4 hne
  rw [lead_no m c (by omega) (by omega) (by omega) (by omega)]; omega
theorem lead_cls0 {c : Int} (h : 128 ≤ c) (h2 : ¬ c / 32 = 6) (h3 : ¬ c / 16 = 14) (h4' : ¬ c / 8 = 30) : ∀ m, 1 ≤ m → m ≤ 4 → lead m c < 0 := by
  intro m h1 h4
  rw [lead_no m c (by omega) (by omega) (by omega) (by omega)]; omega

def goesOn (s : List Int) (k : Nat) : Prop := k < s.length ∧ s[k]?.getD 0 / 64 = 2
theorem fold_none (x : Int) (s : List Int) (n : Nat) : foldc x ((s.drop n).take (n - n)) = x := by simp [foldc]
theorem lv2 {s : List Int} (hc : s[0]?.getD 0 / 32 = 6) (g1 : goesOn s 1) : lv s 2 = s[0]?.getD 0 % 32 * 64 + s[1]?.getD 0 % 64 := by
  obtain ⟨l1, d1⟩ := g1
  have hl : lead 2 (s[0]?.getD 0) = s[0]?.getD 0 % 32 := lead_two _ hc
  rw [lv_fold (by omega) (by rw [hl]; omega), hl, foldc_step (by omega) (by omega), if_pos d1, fold_none]
theorem lv3 {s : List Int} (hc : s[0]?.getD 0 / 16 = 14) (g1 : goesOn s 1) (g2 : goesOn s 2) : lv s 3 = (s[0]?.getD 0 % 16 * 64 + s[1]?.getD 0 % 64) * 64 + s[2]?.getD 0 % 64 := by
  obtain ⟨l1, d1⟩ := g1
  obtain ⟨l2, d2⟩ := g2
  have hl : lead 3 (s[0]?.getD 0) = s[0]?.getD 0 % 16 := lead_three _ hc
  rw [lv_fold (by omega) (by rw [hl]; omega), hl, foldc_step (by omega) (by omega), if_pos d1, foldc_step (by omega) (by omega), if_pos d2, fold_none]
theorem lv4 {s : List Int} (hc : s[0]?.getD 0 / 8 = 30) (g1 : goesOn s 1) (g2 : goesOn s 2) (g3 : goesOn s 3) :
    lv s 4 = ((s[0]?.getD 0 % 8 * 64 + s[1]?.getD 0 % 64) * 64 + s[2]?.getD 0 % 64) * 64 + s[3]?.getD 0 % 64 := by
  obtain ⟨l1, d1⟩ := g1
  obtain ⟨l2, d2⟩ := g2
  obtain ⟨l3, d3⟩ := g3
  have hl : lead 4 (s[0]?.getD 0) = s[0]?.getD 0 % 8 := lead_four _ hc
  rw [lv_fold (by omega) (by rw [hl]; omega), hl, foldc_step (by omega) (by omega), if_pos d1, foldc_step (by omega) (by omega), if_pos d2, foldc_step (by omega) (by omega), if_pos d3, fold_none]

/-- A form that is cut: no value. -/
theorem cut_at {s : List Int} {n : Nat} (x : Int) (k : Nat) (hk : k < n) (hn : n ≤ s.length) (h : ¬ s[k]?.getD 0 / 64 = 2) : foldc x ((s.drop k).take (n - k)) = -1 := by
  rw [foldc_step hk hn, if_neg h]
theorem lv_cut {s : List Int} {n : Nat} (k : Nat) (hk1 : 1 ≤ k) (hk : k < n) (hlo : ∀ j, 1 ≤ j → j < k → goesOn s j) (h : ¬ goesOn s k) : lv s n = -1 := by
  by_cases hl : s.length < n
  · exact lv_short hl
  · have hd : ¬ s[k]?.getD 0 / 64 = 2 := fun e => h ⟨by omega, e⟩
    by_cases hle : lead n (s[0]?.getD 0) < 0
    · exact lv_lead (by omega) hle
    · rw [lv_fold (by omega) (by omega)]
      generalize lead n (s[0]?.getD 0) = x
      have all : ∀ j, 1 ≤ j → j ≤ k → ∀ x, foldc x ((s.drop j).take (n - j)) = -1 := by
        intro j
        induction hj : k - j generalizing j with
        | zero =>
          intro h1 h2 x
          have : j = k := by omega
          subst this
          exact cut_at x j hk (by omega) hd
        | succ d ih =>
          intro h1 h2 x
          have hg := hlo j h1 (by omega)
          rw [foldc_step (by omega) (by omega), if_pos hg.2]
          exact ih (j + 1) (by omega) (by omega) (by omega) _
      exact all 1 (Nat.le_refl _) hk1 x

/-- Which numbers want n bytes. -/
theorem need_iff2 {y : Int} (h1 : y < 2048) : need y = 2 ↔ (¬ y < 128 ∧ okPt y = true) := by
  unfold need
  cases ho : okPt y <;> simp <;> split <;> (try split) <;> (try split) <;> omega
theorem need_iff3 {y : Int} (h1 : y < 65536) : need y = 3 ↔ (¬ y < 2048 ∧ okPt y = true) := by
  unfold need
  cases ho : okPt y <;> simp <;> split <;> (try split) <;> (try split) <;> omega
theorem need_iff4 {y : Int} : need y = 4 ↔ (¬ y < 65536 ∧ okPt y = true) := by
  unfold need
  cases ho : okPt y <;> simp <;> split <;> (try split) <;> (try split) <;> omega
theorem hit_val {s : List Int} {n : Nat} {y : Int} (hv : lv s n = y) (h0 : 0 ≤ y) : hit s n = true ↔ need y = n := by
  simp [hit, hv, h0]

/-- What firstPoint answers at s. -/
def fpP (s : List Int) : Int := if fsize s = 0 then -1 else lv s (fsize s)
theorem fp_none {s : List Int} (h : fsize s = 0) : fpP s = -1 := by simp [fpP, h]
theorem fp_some {s : List Int} {n : Nat} {y : Int} (hn : n ≠ 0) (h : fsize s = n) (hv : lv s n = y) : fpP s = y := by simp [fpP, h, hn, hv]

end Go.Proofs.YtbiiopiaglkicaaDoor
