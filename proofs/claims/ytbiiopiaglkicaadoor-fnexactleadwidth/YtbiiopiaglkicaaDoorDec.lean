import Derived.Test.YtbiiopiaglkicaaDoorEnc
namespace Go.Proofs.YtbiiopiaglkicaaDoor
open Go.RowKit

def Bys (zs : List Int) : Prop := ∀ z ∈ zs, 0 ≤ z ∧ z ≤ 255
theorem Bys.get {zs : List Int} (h : Bys zs) (k : Nat) : 0 ≤ zs[k]?.getD 0 ∧ zs[k]?.getD 0 ≤ 255 := by
  by_cases hk : k < zs.length
  · rw [List.getElem?_eq_getElem hk]; exact h _ (List.getElem_mem hk)
  · rw [List.getElem?_eq_none (by omega)]; simp

/-- Further bytes taken in; -1 where one is none. -/
def foldc : Int → List Int → Int
  | v, [] => v
  | v, d :: r => if d / 64 = 2 then foldc (v * 64 + d % 64) r else -1
/-- What the first byte of a form of n bytes tells; -1 where it is none. -/
def lead (n : Nat) (c : Int) : Int :=
  if n = 1 ∧ c < 128 then c else if n = 2 ∧ c / 32 = 6 then c % 32 else if n = 3 ∧ c / 16 = 14 then c % 16 else if n = 4 ∧ c / 8 = 30 then c % 8 else -1
/-- What the first n bytes of s stand for; -1 where they are no form's shape. -/
def lv (s : List Int) (n : Nat) : Int :=
  if s.length < n then -1 else if lead n (s[0]?.getD 0) < 0 then -1 else foldc (lead n (s[0]?.getD 0)) ((s.drop 1).take (n - 1))
def hit (s : List Int) (n : Nat) : Bool := decide (0 ≤ lv s n) && (need (lv s n) == (n : Int))
/-- How many bytes the form at the head of s has; 0 where none stands. -/
def fsize (s : List Int) : Nat := if hit s 1 then 1 else if hit s 2 then 2 else if hit s 3 then 3 else if hit s 4 then 4 else 0
def pts : Nat → List Int → List Int
  | 0, _ => []
  | f + 1, s => if s = [] then [] else if fsize s = 0 then [] else lv s (fsize s) :: pts f (s.drop (fsize s))
def err : Nat → List Int → Nat → Option Nat
  | 0, _, _ => none
  | f + 1, s, k => if s = [] then none else if fsize s = 0 then some k else err f (s.drop (fsize s)) (k + fsize s)
def decR (bs : List Int) : List Int × Int × Int :=
  match err bs.length bs 0 with
  | none => (pts bs.length bs, 0, 0)
  | some k => ([], 2, (k : Int))

def widthR (bs : List Int) : Int := if (decR bs).2.1 = 0 then ((decR bs).1.length : Int) else -1

theorem pts_nil (f : Nat) : pts f [] = [] := by cases f <;> simp [pts]
theorem err_nil (f k : Nat) : err f [] k = none := by cases f <;> simp [err]
theorem pts_go {f : Nat} {s : List Int} (hs : s ≠ []) (h : fsize s ≠ 0) : pts (f + 1) s = lv s (fsize s) :: pts f (s.drop (fsize s)) := by simp [pts, hs, h]
theorem err_go {f k : Nat} {s : List Int} (hs : s ≠ []) (h : fsize s ≠ 0) : err (f + 1) s k = err f (s.drop (fsize s)) (k + fsize s) := by simp [err, hs, h]
theorem err_bad {f k : Nat} {s : List Int} (hs : s ≠ []) (h : fsize s = 0) : err (f + 1) s k = some k := by simp [err, hs, h]
theorem pts_len (f : Nat) : ∀ s : List Int, (pts f s).length ≤ f := by
  induction f with
  | zero => intro s; simp [pts]
  | succ f ih =>
    intro s
    unfold pts
    split
    · simp
    · split
      · simp
      · have := ih (s.drop (fsize s)); simp only [List.length_cons]; omega
theorem decR_len (bs : List Int) : (decR bs).1.length ≤ bs.length := by
  unfold decR; split
  · exact pts_len _ _
  · simp
theorem decR_ok {bs : List Int} (h : err bs.length bs 0 = none) : decR bs = (pts bs.length bs, 0, 0) := by unfold decR; rw [h]
theorem decR_bad {bs : List Int} {k : Nat} (h : err bs.length bs 0 = some k) : decR bs = ([], 2, (k : Int)) := by unfold decR; rw [h]
theorem hit_len {s : List Int} {n : Nat} (h : hit s n = true) : n ≤ s.length := by
  simp only [hit, Bool.and_eq_true, decide_eq_true_eq] at h
  have h1 := h.1
  unfold lv at h1
  split at h1
  · omega
  · omega
theorem fsize_le (s : List Int) : fsize s ≤ s.length := by
  unfold fsize
  split
  · exact hit_len ‹_›
  · split
    · exact hit_len ‹_›
    · split
      · exact hit_len ‹_›
      · split
        · exact hit_len ‹_›
        · omega
theorem fsize_four (s : List Int) : fsize s ≤ 4 := by
  unfold fsize; split <;> (try split) <;> (try split) <;> (try split) <;> omega

/-- What lies between two rounds: acc has come; from k on f rounds are left at the most. -/
def Mid (bs acc : List Int) (k : Nat) : Prop := k ≤ bs.length ∧ acc.length ≤ k ∧ ∃ f, bs.length - k ≤ f ∧ acc ++ pts f (bs.drop k) = pts bs.length bs ∧ err f (bs.drop k) k = err bs.length bs 0
theorem Mid.start (bs : List Int) : Mid bs [] 0 := ⟨Nat.zero_le _, Nat.le_refl _, bs.length, by omega, by simp, by simp⟩
theorem Mid.step {bs acc : List Int} {k : Nat} (h : Mid bs acc k) (hk : k < bs.length) (hf : fsize (bs.drop k) ≠ 0) :
    Mid bs (acc ++ [lv (bs.drop k) (fsize (bs.drop k))]) (k + fsize (bs.drop k)) := by
  obtain ⟨h1, ha, f, h2, h3, h4⟩ := h
  have hs : bs.drop k ≠ [] := by rw [ne_eq, List.drop_eq_nil_iff]; omega
  have hl := fsize_le (bs.drop k)
  rw [List.length_drop] at hl
  obtain ⟨f', rfl⟩ : ∃ f', f = f' + 1 := ⟨f - 1, by omega⟩
  rw [pts_go hs hf] at h3
  rw [err_go hs hf] at h4
  rw [List.drop_drop] at h3 h4
  refine ⟨by omega, by simp only [List.length_append, List.length_singleton]; omega, f', by omega, ?_, ?_⟩
  · rw [← h3]; simp
  · exact h4
theorem Mid.bad {bs acc : List Int} {k : Nat} (h : Mid bs acc k) (hk : k < bs.length) (hf : fsize (bs.drop k) = 0) : decR bs = ([], 2, (k : Int)) := by
  obtain ⟨h1, ha, f, h2, h3, h4⟩ := h
  have hs : bs.drop k ≠ [] := by rw [ne_eq, List.drop_eq_nil_iff]; omega
  obtain ⟨f', rfl⟩ : ∃ f', f = f' + 1 := ⟨f - 1, by omega⟩
  rw [err_bad hs hf] at h4
  exact decR_bad h4.symm
theorem Mid.done {bs acc : List Int} {k : Nat} (h : Mid bs acc k) (hk : ¬ k < bs.length) : decR bs = (acc, 0, 0) := by
  obtain ⟨h1, ha, f, h2, h3, h4⟩ := h
  rw [List.drop_eq_nil_of_le (by omega), pts_nil] at h3
  rw [List.drop_eq_nil_of_le (by omega), err_nil] at h4
  rw [decR_ok h4.symm, ← h3]; simp

theorem drop_at (bs : List Int) (k j : Nat) : (bs.drop k)[j]?.getD 0 = bs[k + j]?.getD 0 := by simp [List.getElem?_drop]
theorem foldc_step {s : List Int} {n k : Nat} {x : Int} (hk : k < n) (hn : n ≤ s.length) :
    foldc x ((s.drop k).take (n - k)) = if s[k]?.getD 0 / 64 = 2 then foldc (x * 64 + s[k]?.getD 0 % 64) ((s.drop (k + 1)).take (n - (k + 1))) else -1 := by
  rw [List.drop_eq_getElem_cons (by omega), show n - k = (n - (k + 1)) + 1 by omega, List.take_succ_cons, foldc]
  simp [show k < s.length by omega]
theorem lv_short {s : List Int} {n : Nat} (h : s.length < n) : lv s n = -1 := by simp [lv, h]
theorem lv_lead {s : List Int} {n : Nat} (h : n ≤ s.length) (hl : lead n (s[0]?.getD 0) < 0) : lv s n = -1 := by
  rw [lv, if_neg (by omega), if_pos hl]
theorem lv_fold {s : List Int} {n : Nat} (h : n ≤ s.length) (hl : 0 ≤ lead n (s[0]?.getD 0)) : lv s n = foldc (lead n (s[0]?.getD 0)) ((s.drop 1).take (n - 1)) := by
  rw [lv, if_neg (by omega), if_neg (by omega)]

end Go.Proofs.YtbiiopiaglkicaaDoor
