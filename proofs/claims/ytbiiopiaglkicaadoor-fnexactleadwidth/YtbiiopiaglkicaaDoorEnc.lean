import Derived.Test.YtbiiopiaglkicaaDoorBase
namespace Go.Proofs.YtbiiopiaglkicaaDoor
open Go.RowKit

def okPt (p : Int) : Bool := decide ((0 ≤ p ∧ p ≤ 1114111) ∧ ¬ (55296 ≤ p ∧ p ≤ 57343))
def need (p : Int) : Int := if okPt p then (if p < 128 then 1 else if p < 2048 then 2 else if p < 65536 then 3 else 4) else 0
/-- The form of a point. -/
def enc (p : Int) : List Int :=
  if p < 128 then [p] else if p < 2048 then [192 + p / 64, 128 + p % 64] else if p < 65536 then [224 + p / 4096, 128 + p / 64 % 64, 128 + p % 64]
  else [240 + p / 262144, 128 + p / 4096 % 64, 128 + p / 64 % 64, 128 + p % 64]
def encAll (zs : List Int) : List Int := zs.flatMap enc
def encR (zs : List Int) : List Int × Int := if zs.all okPt then (encAll zs, 0) else ([], 1)
/-- What k rounds leave: the number that is left and the bytes that go on. -/
def st : Nat → Int → Int × List Int
  | 0, p => (p, [])
  | k + 1, p => ((st k p).1 / 64, (128 + (st k p).1 % 64) :: (st k p).2)

theorem st_len (k : Nat) (p : Int) : (st k p).2.length = k := by
  induction k with
  | zero => rfl
  | succ k ih => simp [st, ih]
theorem st_bd (k : Nat) (p : Int) (h0 : 0 ≤ p) (h1 : p ≤ 1114111) : 0 ≤ (st k p).1 ∧ (st k p).1 ≤ 1114111 := by
  induction k with
  | zero => exact ⟨h0, h1⟩
  | succ k ih => simp only [st]; omega
theorem ok_bd {p : Int} (h : okPt p = true) : (0 ≤ p ∧ p ≤ 1114111) ∧ ¬ (55296 ≤ p ∧ p ≤ 57343) := of_decide_eq_true h
theorem enc1 (p : Int) (h : p < 128) : enc p = [p] := by simp only [enc, if_pos h]
theorem enc2 (p : Int) (h : ¬ p < 128) (h2 : p < 2048) : enc p = [192 + p / 64, 128 + p % 64] := by simp only [enc, if_neg h, if_pos h2]
theorem enc3 (p : Int) (h2 : ¬ p < 2048) (h3 : p < 65536) : enc p = [224 + p / 4096, 128 + p / 64 % 64, 128 + p % 64] := by
  simp only [enc, if_neg (show ¬ p < 128 by omega), if_neg h2, if_pos h3]
theorem enc4 (p : Int) (h3 : ¬ p < 65536) : enc p = [240 + p / 262144, 128 + p / 4096 % 64, 128 + p / 64 % 64, 128 + p % 64] := by
  simp only [enc, if_neg (show ¬ p < 128 by omega), if_neg (show ¬ p < 2048 by omega), if_neg h3]
theorem st2 (p : Int) (h : ¬ p < 128) (h2 : p < 2048) : (192 + (st 1 p).1) :: (st 1 p).2 = enc p := by rw [enc2 p h h2]; rfl
theorem st3 (p : Int) (h2 : ¬ p < 2048) (h3 : p < 65536) : (224 + (st 2 p).1) :: (st 2 p).2 = enc p := by
  rw [enc3 p h2 h3]; simp only [st, List.cons.injEq, and_true]; omega
theorem st4 (p : Int) (h3 : ¬ p < 65536) : (240 + (st 3 p).1) :: (st 3 p).2 = enc p := by
  rw [enc4 p h3]; simp only [st, List.cons.injEq, and_true]; omega
theorem enc_len (p : Int) : 1 ≤ (enc p).length ∧ (enc p).length ≤ 4 := by unfold enc; split <;> (try split) <;> (try split) <;> simp
theorem encAll_len (zs : List Int) : (encAll zs).length ≤ 4 * zs.length := by
  induction zs with
  | nil => simp [encAll]
  | cons p zs ih =>
    have := enc_len p
    simp only [encAll, List.flatMap_cons, List.length_append, List.length_cons] at ih ⊢
    omega
theorem encAll_step (zs : List Int) (k : Nat) (hk : k < zs.length) : encAll (zs.take (k + 1)) = encAll (zs.take k) ++ enc (zs[k]?.getD 0) := by
  rw [take_snoc zs k hk]; simp [encAll]
theorem encR_bad (zs : List Int) (h : zs.all okPt = false) : encR zs = ([], 1) := by simp [encR, h]
theorem encR_ok (zs : List Int) (h : zs.all okPt = true) : encR zs = (encAll zs, 0) := by simp [encR, h]
theorem encR_len (zs : List Int) : (encR zs).1.length ≤ 4 * zs.length := by
  unfold encR; split
  · exact encAll_len zs
  · simp
theorem ok_parts (p : Int) : okPt p = (isPt p && !isHi p && !isLo p) := by
  rw [Bool.eq_iff_iff]; simp [okPt, isPt, isHi, isLo]; omega

end Go.Proofs.YtbiiopiaglkicaaDoor
