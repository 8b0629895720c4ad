import Derived.Test.YtdcajkgmhimffaaDoorRRBase
namespace Go.Proofs.YtdcajkgmhimffaaDoorRR
open Go.RowKit

def isLet (c : Int) : Bool := decide ((97 ≤ c ∧ c ≤ 122) ∨ (65 ≤ c ∧ c ≤ 90) ∨ c = 95 ∨ c = 36)
def isDig (c : Int) : Bool := decide (48 ≤ c ∧ c ≤ 57)
/-- Which number may stand at place k of a name. -/
def nmAt (k : Nat) (c : Int) : Bool := isLet c || (k != 0 && isDig c)
def nmUp (zs : List Int) (k : Nat) : Bool := (List.range k).all fun j => nmAt j (zs[j]?.getD 0)
/-- What IsName answers. -/
def nmR (zs : List Int) : Bool := nmUp zs zs.length && decide (0 < zs.length)

theorem nmUp_zero (zs : List Int) : nmUp zs 0 = true := rfl
theorem nmUp_snoc (zs : List Int) (k : Nat) (h : nmUp zs k = true) (h1 : nmAt k (zs[k]?.getD 0) = true) : nmUp zs (k + 1) = true := by
  simp only [nmUp, List.range_succ, List.all_append, List.all_cons, List.all_nil] at h ⊢
  simp [h, h1]
theorem nmR_not (zs : List Int) (k : Nat) (hk : k < zs.length) (h1 : nmAt k (zs[k]?.getD 0) = false) : nmR zs = false := by
  have : nmUp zs zs.length = false := by
    rw [nmUp, List.all_eq_false]
    exact ⟨k, List.mem_range.2 hk, by simpa using h1⟩
  simp [nmR, this]
theorem nmR_yes (zs : List Int) (h : nmUp zs zs.length = true) : nmR zs = decide (0 < zs.length) := by simp [nmR, h]

end Go.Proofs.YtdcajkgmhimffaaDoorRR
