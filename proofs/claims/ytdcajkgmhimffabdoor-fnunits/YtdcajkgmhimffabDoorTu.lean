import Derived.Test.YtdcajkgmhimffabDoorBase
namespace Go.Proofs.YtdcajkgmhimffabDoor
open Go.RowKit

def tuOne (p : Int) : List Int := if p < 65536 then [p] else [55296 + (p - 65536) / 1024, 56320 + (p - 65536) % 1024]
def tuAll (zs : List Int) : List Int := zs.flatMap tuOne
/-- What ToUnits answers: the units and the code. -/
def tuR (zs : List Int) : List Int × Int := if zs.all isPt then (tuAll zs, 0) else ([], 1)

theorem tuOne_len (p : Int) : (tuOne p).length ≤ 2 := by unfold tuOne; split <;> simp
theorem tuAll_len (zs : List Int) : (tuAll zs).length ≤ 2 * zs.length := by
  induction zs with
  | nil => simp [tuAll]
  | cons p zs ih =>
    have := tuOne_len p
    simp only [tuAll, List.flatMap_cons, List.length_append, List.length_cons] at ih ⊢
    omega
theorem tuAll_snoc (zs : List Int) (p : Int) : tuAll (zs ++ [p]) = tuAll zs ++ tuOne p := by simp [tuAll]

theorem tuAll_lo (zs : List Int) (k : Nat) (hk : k < zs.length) (h : zs[k]?.getD 0 < 65536) : tuAll (zs.take (k + 1)) = tuAll (zs.take k) ++ [zs[k]?.getD 0] := by
  rw [take_snoc zs k hk, tuAll_snoc]; simp only [tuOne, if_pos h]
theorem tuAll_hi (zs : List Int) (k : Nat) (hk : k < zs.length) (h : ¬ zs[k]?.getD 0 < 65536) :
    tuAll (zs.take (k + 1)) = tuAll (zs.take k) ++ [55296 + (zs[k]?.getD 0 - 65536) / 1024, 56320 + (zs[k]?.getD 0 - 65536) % 1024] := by
  rw [take_snoc zs k hk, tuAll_snoc]; simp only [tuOne, if_neg h]
theorem tuAll_one (zs : List Int) (k : Nat) (hk : k < zs.length) : tuAll (zs.take (k + 1)) = tuAll (zs.take k) ++ tuOne (zs[k]?.getD 0) := by
  rw [take_snoc zs k hk, tuAll_snoc]
theorem tuR_bad (zs : List Int) (h : zs.all isPt = false) : tuR zs = ([], 1) := by simp [tuR, h]
theorem tuR_ok (zs : List Int) (h : zs.all isPt = true) : tuR zs = (tuAll zs, 0) := by simp [tuR, h]

theorem tuR_len (zs : List Int) : (tuR zs).1.length ≤ 2 * zs.length := by
  unfold tuR; split
  · exact tuAll_len zs
  · simp

end Go.Proofs.YtdcajkgmhimffabDoor
