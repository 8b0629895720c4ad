import Derived.Test.YtdcajkgmhimffaaDoorRRBase
namespace Go.Proofs.YtdcajkgmhimffaaDoorRR
open Go.RowKit

def pairOf (u x : Int) : Int := 65536 + (u - 55296) * 1024 + (x - 56320)
/-- The points of units. -/
def fu : List Int → List Int
  | [] => []
  | [u] => [u]
  | u :: x :: r => if isHi u && isLo x then pairOf u x :: fu r else u :: fu (x :: r)
def fuR (zs : List Int) : List Int × Int := if zs.all isUn then (fu zs, 0) else ([], 1)

theorem drop_cons (zs : List Int) (k : Nat) (hk : k < zs.length) : zs.drop k = zs[k]?.getD 0 :: zs.drop (k + 1) := by
  rw [List.drop_eq_getElem_cons hk]; simp [hk]

theorem fu_one (zs : List Int) (k : Nat) (hk : k < zs.length) (h : ¬ (isHi (zs[k]?.getD 0) = true ∧ k + 1 < zs.length ∧ isLo (zs[k + 1]?.getD 0) = true)) :
    fu (zs.drop k) = zs[k]?.getD 0 :: fu (zs.drop (k + 1)) := by
  rw [drop_cons zs k hk]
  by_cases h1 : k + 1 < zs.length
  · rw [drop_cons zs (k + 1) h1, fu, if_neg]
    simp only [Bool.and_eq_true]
    exact fun hh => h ⟨hh.1, h1, hh.2⟩
  · rw [List.drop_eq_nil_of_le (by omega)]
    rfl
theorem fu_two (zs : List Int) (k : Nat) (h1 : k + 1 < zs.length) (h : isHi (zs[k]?.getD 0) = true) (h2 : isLo (zs[k + 1]?.getD 0) = true) :
    fu (zs.drop k) = pairOf (zs[k]?.getD 0) (zs[k + 1]?.getD 0) :: fu (zs.drop (k + 2)) := by
  rw [drop_cons zs k (by omega), drop_cons zs (k + 1) h1, fu, if_pos (by simp [h, h2])]
theorem fu_len : ∀ (n : Nat) (zs : List Int), zs.length ≤ n → (fu zs).length ≤ zs.length
  | 0, zs, h => by
    have : zs = [] := List.eq_nil_of_length_eq_zero (by omega)
    subst this; simp [fu]
  | n + 1, [], _ => by simp [fu]
  | n + 1, [u], _ => by simp [fu]
  | n + 1, u :: x :: r, h => by
    simp only [List.length_cons] at h
    rw [fu]
    split
    · have := fu_len n r (by omega)
      simp only [List.length_cons]; omega
    · have := fu_len n (x :: r) (by simp only [List.length_cons]; omega)
      simp only [List.length_cons] at this ⊢; omega
theorem fuR_len (zs : List Int) : (fuR zs).1.length ≤ zs.length := by
  unfold fuR; split
  · exact fu_len _ zs (Nat.le_refl _)
  · simp
theorem fuR_bad (zs : List Int) (h : zs.all isUn = false) : fuR zs = ([], 1) := by simp [fuR, h]
theorem fuR_ok (zs : List Int) (h : zs.all isUn = true) : fuR zs = (fu zs, 0) := by simp [fuR, h]
theorem lo_un {p : Int} (h : isLo p = true) : isUn p = true := by
  simp [isLo, isUn] at h ⊢; omega
theorem hi_un {p : Int} (h : isHi p = true) : isUn p = true := by
  simp [isHi, isUn] at h ⊢; omega

/-- What lies between the rounds: acc is told, the rest is to come. -/
theorem fu_step1 {zs acc : List Int} {k : Nat} {p : Int} (hx : acc ++ fu (zs.drop k) = fu zs) (h : fu (zs.drop k) = p :: fu (zs.drop (k + 1))) : acc ++ [p] ++ fu (zs.drop (k + 1)) = fu zs := by
  rw [← hx, h]; simp
theorem fu_step2 {zs acc : List Int} {k : Nat} {p : Int} (hx : acc ++ fu (zs.drop k) = fu zs) (h : fu (zs.drop k) = p :: fu (zs.drop (k + 2))) : acc ++ [p] ++ fu (zs.drop (k + 2)) = fu zs := by
  rw [← hx, h]; simp
theorem fu_end {zs acc : List Int} {k : Nat} (hk : zs.length ≤ k) (hx : acc ++ fu (zs.drop k) = fu zs) : acc = fu zs := by
  rw [List.drop_eq_nil_of_le hk] at hx; simpa [fu] using hx

end Go.Proofs.YtdcajkgmhimffaaDoorRR
