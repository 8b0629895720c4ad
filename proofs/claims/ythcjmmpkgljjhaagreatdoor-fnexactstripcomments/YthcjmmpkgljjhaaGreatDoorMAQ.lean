import Derived.Test.YthcjmmpkgljjhaaGreatDoorMAM
import Derived.Test.YthcjmmpkgljjhaaGreatDoorMAO
import Derived.Test.YthcjmmpkgljjhaaGreatDoorMAP
namespace Go.Proofs.YthcjmmpkgljjhaaGreatDoor
open Go.RowKit

set_option maxHeartbeats 400000 in
theorem isDigit_any (p : Int) (w : World) : Calls Tryz.prog 98 #[.int .i32 p] w fun e w' => e = .returned (.bool (isDig p)) ∧ w = w' := by
  by_cases h0 : 48 ≤ p
  · by_cases h1 : p ≤ 57
    · have HI : Hid (isDig p = true) := by simp [Hid, isDig, h0, h1]
      go_enter Tryz.func98, Tryz.ntmps98
      go_wp2
      go_ret
      exact ⟨by rw [HI.out]; rfl, rfl⟩
    · have HI : Hid (isDig p = false) := by simp [Hid, isDig]; omega
      go_enter Tryz.func98, Tryz.ntmps98
      go_wp2
      go_ret
      exact ⟨by rw [HI.out]; rfl, rfl⟩
  · have HI : Hid (isDig p = false) := by simp [Hid, isDig]; omega
    go_enter Tryz.func98, Tryz.ntmps98
    go_wp2
    go_ret
    exact ⟨by rw [HI.out]; rfl, rfl⟩

end Go.Proofs.YthcjmmpkgljjhaaGreatDoor

namespace Go.Proofs.YthcjmmpkgljjhaaGreatDoor
open Go.RowKit

/-- The scanner at block sb stands before s; nothing but its block has turned since w0. -/
def St (sb : Nat) (w0 w : World) (s : List Int) : Prop := ∃ tv zs n, n ≤ zs.length ∧ zs.drop n = s ∧ Sc sb w tv n ∧ Tx sb w tv zs ∧ Tab w ∧ 0 < sb ∧ w0.grownBy w (some sb)

section
variable {sb : Nat} {w0 w : World}

theorem accept_yes (wl r : List Int) (hwb : Bys wl) (hwl : wl.length ≤ 100) (h : St sb w0 w (wl ++ r)) :
    Calls Tryz.prog 83 #[.pointer (some ⟨sb, 0, none⟩), .string (strOfNums wl)] w fun e w' => e = .returned (.bool true) ∧ St sb w0 w' r := by
  obtain ⟨tv, zs, n, hn, hs, hS, hX, hT, h0, hg⟩ := h
  refine (accept_any wl hwb hwl sb n tv zs w hS hX hn).mono ?_
  rintro e w' ⟨rfl, k, g⟩
  have hp : wl <+: zs.drop n := by rw [hs]; exact List.prefix_append _ _
  rw [if_pos hp] at k
  have hle : wl.length ≤ zs.length - n := by have := hp.length_le; rwa [List.length_drop] at this
  refine ⟨by rw [decide_eq_true hp], tv, zs, n + wl.length, by omega, ?_, k, hX.beside (Nat.le_refl _) g, hT.row h0 g, h0, grown_trans hg g⟩
  rw [← List.drop_drop, hs, List.drop_left]
theorem accept_no (wl s : List Int) (hwb : Bys wl) (hwl : wl.length ≤ 100) (hp : ¬ wl <+: s) (h : St sb w0 w s) :
    Calls Tryz.prog 83 #[.pointer (some ⟨sb, 0, none⟩), .string (strOfNums wl)] w fun e w' => e = .returned (.bool false) ∧ St sb w0 w' s := by
  obtain ⟨tv, zs, n, hn, hs, hS, hX, hT, h0, hg⟩ := h
  refine (accept_any wl hwb hwl sb n tv zs w hS hX hn).mono ?_
  rintro e w' ⟨rfl, k, g⟩
  rw [hs, if_neg hp] at k
  exact ⟨by rw [hs, decide_eq_false hp], tv, zs, n, hn, hs, k, hX.beside (Nat.le_refl _) g, hT.row h0 g, h0, grown_trans hg g⟩

def headIs (P : Int → Bool) : List Int → Bool
  | [] => false
  | c :: _ => P c
theorem headIs_dig (s : List Int) : headIs isDig s = headDig s := by cases s <;> rfl
theorem headIs_hex (s : List Int) : headIs isHex s = headHex s := by cases s <;> rfl
theorem skip_st (cf : Nat) (P : Int → Bool) (hP : Asks cf P) (hA : Asc P) (s : List Int) (h : St sb w0 w s) :
    Calls Tryz.prog 84 #[.pointer (some ⟨sb, 0, none⟩), .func (.func cf) #[] #[]] w fun e w' => e = .returned (.bool (headIs P s)) ∧ St sb w0 w' (s.dropWhile P) := by
  obtain ⟨tv, zs, n, hn, hs, hS, hX, hT, h0, hg⟩ := h
  refine (skip_any cf P hP sb n tv zs w h0 hT hS hX hn).mono ?_
  rintro e w' ⟨rfl, k, hle, g⟩
  have ha := sk_ascii hA hX.by_ (zs.length + 1) n hn (by omega)
  refine ⟨?_, tv, zs, _, hle, by rw [ha.1, hs], k, hX.beside (Nat.le_refl _) g, hT.row h0 g, h0, grown_trans hg g⟩
  congr 2
  rw [Bool.eq_iff_iff, decide_eq_true_eq, ha.2.2.2]
  by_cases hl : n < zs.length
  · rw [← hs, List.drop_eq_getElem_cons hl]
    simp [hl, headIs]
  · rw [← hs, List.drop_of_length_le (by omega)]
    simp [hl, headIs]
theorem ended_st (s : List Int) (h : St sb w0 w s) :
    Calls Tryz.prog 77 #[.pointer (some ⟨sb, 0, none⟩)] w fun e w' => e = .returned (.bool (decide (s = []))) ∧ St sb w0 w' s := by
  obtain ⟨tv, zs, n, hn, hs, hS, hX, hT, h0, hg⟩ := h
  refine (ended_any sb n tv zs w hS hX).mono ?_
  rintro e w' ⟨rfl, g⟩
  refine ⟨?_, tv, zs, n, hn, hs, hS.keep g, hX.keep g, hT.keep g, h0, grown_trans hg (grown_row g)⟩
  congr 2
  rw [Bool.eq_iff_iff, decide_eq_true_eq, beq_iff_eq, ← hs, List.drop_eq_nil_iff]
  omega
end

theorem asks_digit : Asks 98 isDig := ⟨fun p W => isDigit_any p W, fun args W => by kernel_rfl⟩
theorem asc_dig : Asc isDig := fun p h => by simp [isDig] at h; omega

/-- The ways of a decimal. -/
def partI (wb : Bool) (s : List Int) : Bool × List Int := match s with
  | [] => (wb, [])
  | c :: r => if c = 46 then (wb || headDig r, r.dropWhile isDig) else (wb, c :: r)
theorem not_pre {c : Int} {s : List Int} (h : ∀ r, s ≠ c :: r) : ¬ [c] <+: s := by
  rintro ⟨t, ht⟩
  exact h t ht.symm
theorem pre_no {c : Int} {s : List Int} (h : ¬ [c] <+: s) : ∀ r, s ≠ c :: r := fun r e => h ⟨r, e.symm⟩

theorem wholeC (s : List Int) : (∃ r, s = [48] ++ r ∧ mantI s = partI true r) ∨ (∃ s1, ¬ [48] <+: s ∧ s.dropWhile isDig = s1 ∧ mantI s = partI (headIs isDig s) s1) := by
  cases s with
  | nil => exact .inr ⟨[], by simp, rfl, rfl⟩
  | cons c r =>
    by_cases hc : c = 48
    · subst hc
      left
      exact ⟨r, rfl, by simp only [mantI]; rfl⟩
    · right
      refine ⟨_, not_pre (fun t e => hc (by simp at e; exact e.1)), rfl, ?_⟩
      simp only [mantI, if_neg hc]
      rfl
theorem partC (wb : Bool) (s : List Int) : (∃ r s2, s = [46] ++ r ∧ r.dropWhile isDig = s2 ∧ partI wb s = (wb || headIs isDig r, s2)) ∨ (¬ [46] <+: s ∧ partI wb s = (wb, s)) := by
  cases s with
  | nil => exact .inr ⟨by simp, rfl⟩
  | cons c r =>
    by_cases hc : c = 46
    · subst hc
      exact .inl ⟨r, _, rfl, rfl, by simp only [partI, if_pos, headIs_dig]⟩
    · exact .inr ⟨not_pre (fun t e => hc (by simp at e; exact e.1)), by simp only [partI, if_neg hc]⟩
theorem signC (r : List Int) : (∃ t, r = [43] ++ t ∧ strip r = t) ∨ (∃ t, r = [45] ++ t ∧ ¬ [43] <+: r ∧ strip r = t) ∨ (¬ [43] <+: r ∧ ¬ [45] <+: r ∧ strip r = r) := by
  cases r with
  | nil => exact .inr (.inr ⟨by simp, by simp, rfl⟩)
  | cons c r =>
    by_cases h1 : c = 43
    · subst h1; exact .inl ⟨r, rfl, by simp [strip, isSign]⟩
    · by_cases h2 : c = 45
      · subst h2; exact .inr (.inl ⟨r, rfl, not_pre (fun t e => by simp at e), by simp [strip, isSign]⟩)
      · exact .inr (.inr ⟨not_pre (fun t e => h1 (by simp at e; exact e.1)), not_pre (fun t e => h2 (by simp at e; exact e.1)), by simp [strip, isSign, h1, h2]⟩)
theorem expC (s : List Int) : (∃ r, s = [101] ++ r ∧ decOf (true, s) = (headIs isDig (strip r), (strip r).dropWhile isDig)) ∨ (∃ r, s = [69] ++ r ∧ ¬ [101] <+: s ∧ decOf (true, s) = (headIs isDig (strip r), (strip r).dropWhile isDig)) ∨ (¬ [101] <+: s ∧ ¬ [69] <+: s ∧ decOf (true, s) = (true, s)) := by
  cases s with
  | nil => exact .inr (.inr ⟨by simp, by simp, rfl⟩)
  | cons c r =>
    by_cases h1 : c = 101
    · subst h1; exact .inl ⟨r, rfl, by simp [decOf, isE, headIs_dig]⟩
    · by_cases h2 : c = 69
      · subst h2; exact .inr (.inl ⟨r, rfl, not_pre (fun t e => by simp at e), by simp [decOf, isE, headIs_dig]⟩)
      · exact .inr (.inr ⟨not_pre (fun t e => h1 (by simp at e; exact e.1)), not_pre (fun t e => h2 (by simp at e; exact e.1)), by simp [decOf, isE, h1, h2]⟩)

end Go.Proofs.YthcjmmpkgljjhaaGreatDoor

