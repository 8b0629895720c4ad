import Derived.Test.YtdcajkgmhimffabDoorTu
import Derived.Test.YtdcajkgmhimffabDoorFu
import Derived.Test.YtdcajkgmhimffabDoorSeq
namespace Go.Proofs.YtdcajkgmhimffabDoor
open Go.RowKit

/-! Units to points and back. -/
theorem pair_hi {u x : Int} (hu : isHi u = true) (hx : isLo x = true) : tuOne (pairOf u x) = [u, x] := by
  simp [isHi, isLo] at hu hx
  unfold tuOne pairOf
  rw [if_neg (by omega)]
  simp only [List.cons.injEq, and_true]
  constructor <;> omega
theorem pair_pt {u x : Int} (hu : isHi u = true) (hx : isLo x = true) : isPt (pairOf u x) = true := by
  simp [isHi, isLo] at hu hx
  unfold isPt pairOf
  rw [decide_eq_true_eq]
  omega
theorem un_one {u : Int} (h : isUn u = true) : tuOne u = [u] ∧ isPt u = true := by
  simp [isUn] at h
  exact ⟨by unfold tuOne; rw [if_pos h.2], by simp [isPt]; omega⟩
theorem tu_fu : ∀ (n : Nat) (us : List Int), us.length ≤ n → us.all isUn = true → tuAll (fu us) = us ∧ (fu us).all isPt = true
  | 0, us, h, _ => by
    have : us = [] := List.eq_nil_of_length_eq_zero (by omega)
    subst this; simp [fu, tuAll]
  | n + 1, [], _, _ => by simp [fu, tuAll]
  | n + 1, [u], _, h => by
    have hu : isUn u = true := by simpa using h
    simp [fu, tuAll, (un_one hu).1, (un_one hu).2]
  | n + 1, u :: x :: r, hl, h => by
    simp only [List.length_cons] at hl
    simp only [List.all_cons, Bool.and_eq_true] at h
    obtain ⟨hu, hx, hr⟩ := h
    rw [fu]
    split
    · rename_i hp
      simp only [Bool.and_eq_true] at hp
      have ih := tu_fu n r (by omega) hr
      simp only [tuAll, List.flatMap_cons, List.all_cons, Bool.and_eq_true] at ih ⊢
      refine ⟨by rw [pair_hi hp.1 hp.2, ih.1]; simp, pair_pt hp.1 hp.2, ih.2⟩
    · have ih := tu_fu n (x :: r) (by simp only [List.length_cons]; omega) (by simp [hx, hr])
      simp only [tuAll, List.flatMap_cons, List.all_cons, Bool.and_eq_true] at ih ⊢
      exact ⟨by rw [(un_one hu).1, ih.1]; simp, (un_one hu).2, ih.2⟩
theorem units_back {us p : List Int} (h : fuR us = (p, 0)) : tuR p = (us, 0) := by
  unfold fuR at h
  split at h
  · rename_i ha
    have hp : fu us = p := by simpa using h
    have := tu_fu us.length us (Nat.le_refl _) ha
    rw [hp] at this
    rw [tuR_ok p this.2, this.1]
  · simp at h

/-! Points without surrogates to units and back. -/
theorem ok_not_hi {p : Int} (h : okPt p = true) : isHi p = false ∧ isPt p = true := by
  have := ok_bd h
  simp [isHi, isPt]; omega
theorem tu_lo {p : Int} (h : okPt p = true) (hl : p < 65536) : isUn p = true ∧ isLo p = false := by
  have := ok_bd h
  simp [isUn, isLo]; omega
theorem fu_tu : ∀ (q : List Int), q.all okPt = true → fu (tuAll q) = q ∧ (tuAll q).all isUn = true
  | [], _ => by simp [tuAll, fu]
  | p :: q, h => by
    simp only [List.all_cons, Bool.and_eq_true] at h
    obtain ⟨hp, hq⟩ := h
    have ih := fu_tu q hq
    have hb := ok_bd hp
    have e : tuAll (p :: q) = tuOne p ++ tuAll q := by simp [tuAll]
    rw [e]
    by_cases hl : p < 65536
    · have e1 : tuOne p = [p] := by unfold tuOne; rw [if_pos hl]
      rw [e1]
      refine ⟨?_, by simp [ih.2, (tu_lo hp hl).1]⟩
      have hh := (ok_not_hi hp).1
      cases hq' : tuAll q with
      | nil => rw [hq'] at ih; simp [fu] at ih; simp [fu, ih]
      | cons y r =>
        show fu (p :: y :: r) = _
        rw [fu, if_neg (by simp [hh]), ← hq', ih.1]
    · have e1 : tuOne p = [55296 + (p - 65536) / 1024, 56320 + (p - 65536) % 1024] := by unfold tuOne; rw [if_neg hl]
      rw [e1]
      have h1 : isHi (55296 + (p - 65536) / 1024) = true := by simp [isHi]; omega
      have h2 : isLo (56320 + (p - 65536) % 1024) = true := by simp [isLo]; omega
      refine ⟨?_, by simp [ih.2, hi_un h1, lo_un h2]⟩
      show fu (_ :: _ :: tuAll q) = _
      rw [fu, if_pos (by simp [h1, h2]), ih.1]
      have : pairOf (55296 + (p - 65536) / 1024) (56320 + (p - 65536) % 1024) = p := by unfold pairOf; omega
      rw [this]
theorem points_back {q : List Int} (h : q.all okPt = true) : (tuR q).2 = 0 ∧ fuR (tuR q).1 = (q, 0) := by
  have hp : q.all isPt = true := by
    rw [List.all_eq_true] at h ⊢
    exact fun x hx => (ok_not_hi (h x hx)).2
  rw [tuR_ok q hp]
  have := fu_tu q h
  exact ⟨rfl, by rw [fuR_ok _ this.2, this.1]⟩

end Go.Proofs.YtdcajkgmhimffabDoor
