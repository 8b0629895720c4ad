import Derived.Test.YtdcajkgmhimffaaDoorRRDec
namespace Go.Proofs.YtdcajkgmhimffaaDoorRR
open Go.RowKit

theorem lead_one (c : Int) (h : c < 128) : lead 1 c = c := by simp [lead, h]
theorem lead_two (c : Int) (h : c / 32 = 6) : lead 2 c = c % 32 := by simp [lead, h]
theorem lead_three (c : Int) (h : c / 16 = 14) : lead 3 c = c % 16 := by simp [lead, h]
theorem lead_four (c : Int) (h : c / 8 = 30) : lead 4 c = c % 8 := by simp [lead, h]
theorem lead_no (n : Nat) (c : Int) (h : ¬ (n = 1 ∧ c < 128)) (h2 : ¬ (n = 2 ∧ c / 32 = 6)) (h3 : ¬ (n = 3 ∧ c / 16 = 14)) (h4 : ¬ (n = 4 ∧ c / 8 = 30)) : lead n c = -1 := by
  simp only [lead, if_neg h, if_neg h2, if_neg h3, if_neg h4]


end Go.Proofs.YtdcajkgmhimffaaDoorRR
