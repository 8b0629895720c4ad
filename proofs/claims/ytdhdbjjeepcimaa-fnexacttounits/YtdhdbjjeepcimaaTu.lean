import Derived.Test.YtdhdbjjeepcimaaBase
namespace Go.Proofs.Ytdhdbjjeepcimaa
open Go.RowKit

def isPt (p : Int) : Bool := decide (0 ≤ p ∧ p ≤ 1114111)
def tuOne (p : Int) : List Int := if p < 65536 then [p] else [55296 + (p - 65536) / 1024, 56320 + (p - 65536) % 1024]
def tuAll (zs : List Int) : List Int := zs.flatMap tuOne
/-- What ToUnits answers: the units and the code. -/
def tuR (zs : List Int) : List Int × Int := if zs.all isPt then (tuAll zs, 0) else ([], 1)

theorem tuOne_len (p : Int) : (tuOne p).length ≤ 2 := by unfold tuOne; split <;> simp
theorem tuAll_len (zs : List Int) : (tuAll zs).length ≤ 2 * zs.length := by
  induction zs with
  | nil => simp [tuAll]
  | cons p zs ih =>
    have := tuOne_len p
    simp only [tuAll, List.flatMap_cons, List.length_append, List.length_cons] at ih ⊢
    omega
theorem tuAll_snoc (zs : List Int) (p : Int) : tuAll (zs ++ [p]) = tuAll zs ++ tuOne p := by simp [tuAll]

theorem tuAll_lo (zs : List Int) (k : Nat) (hk : k < zs.length) (h : zs[k]?.getD 0 < 65536) : tuAll (zs.take (k + 1)) = tuAll (zs.take k) ++ [zs[k]?.getD 0] := by
  rw [take_snoc zs k hk, tuAll_snoc]; simp only [tuOne, if_pos h]
theorem tuAll_hi (zs : List Int) (k : Nat) (hk : k < zs.length) (h : ¬ zs[k]?.getD 0 < 65536) :
    tuAll (zs.take (k + 1)) = tuAll (zs.take k) ++ [55296 + (zs[k]?.getD 0 - 65536) / 1024, 56320 + (zs[k]?.getD 0 - 65536) % 1024] := by
  rw [take_snoc zs k hk, tuAll_snoc]; simp only [tuOne, if_neg h]
theorem all_snoc (zs : List Int) (f : Int → Bool) (k : Nat) (hk : k < zs.length) (h : (zs.take k).all f = true) (hp : f (zs[k]?.getD 0) = true) : (zs.take (k + 1)).all f = true := by
  rw [take_snoc zs k hk, List.all_append, h]; simp [hp]
theorem all_not (zs : List Int) (f : Int → Bool) (k : Nat) (hk : k < zs.length) (hp : f (zs[k]?.getD 0) = false) : zs.all f = false := by
  rw [List.all_eq_false]
  exact ⟨zs[k], List.getElem_mem hk, by simpa [hk] using hp⟩
theorem tuR_bad (zs : List Int) (h : zs.all isPt = false) : tuR zs = ([], 1) := by simp [tuR, h]
theorem tuR_ok (zs : List Int) (h : zs.all isPt = true) : tuR zs = (tuAll zs, 0) := by simp [tuR, h]

/-- A row of one's own over an append of the list xs. -/
theorem own_app {B : Nat} {w w1 : World} {v v' : Value} {ys xs : List Int} {o : Obj} (n : Nat) (hB : B ≤ w.heap.size)
    (hv : OwI B w v ys) (hnx : Below B w w) (hown' : w1.ownsRow B 3 1 v' n (ys.map (Value.int .i64) ++ xs.map (Value.int .i64))) (hn : n = (ys ++ xs).length) (hgrow : (w.alloc o).grownBy w1 v.ownBlock) :
    OwI B w1 v' (ys ++ xs) ∧ Below B w w1 := by
  subst hn
  refine ⟨by unfold OwI; simpa using hown', (hnx.alloc hB o).grown hgrow (by simp; omega) (fun k hk => (hv.lt k hk).1)⟩

end Go.Proofs.Ytdhdbjjeepcimaa
