import Derived.Test.YtdcajkgmhimffaaDoorRREnc
import Derived.Test.YtdcajkgmhimffaaDoorRRFu
import Derived.Test.YtdcajkgmhimffaaDoorRRBits
namespace Go.Proofs.YtdcajkgmhimffaaDoorRR
open Go.RowKit

def hd16 (n : Int) : Int := if n < 10 then 48 + n else 87 + n
def hex4 (p : Int) : List Int := [92, 117, hd16 (p / 4096 % 16), hd16 (p / 256 % 16), hd16 (p / 16 % 16), hd16 (p % 16)]
/-- Which points are written as numbers. -/
def byHex (p : Int) : Bool := decide (p < 32) || decide (p = 127) || decide (p = 8232) || decide (p = 8233) || !okPt p
def short (p : Int) : List Int :=
  if p = 8 then [92, 98] else if p = 12 then [92, 102] else if p = 10 then [92, 110] else if p = 13 then [92, 114] else if p = 9 then [92, 116]
  else if p = 34 then [92, 34] else if p = 92 then [92, 92] else []
/-- A point between quotes. -/
def qOne (p : Int) : List Int := if short p ≠ [] then short p else if byHex p then hex4 p else enc p
def qAll (ps : List Int) : List Int := ps.flatMap qOne
def quR (us : List Int) : List Int × Int := if (fuR us).2 = 0 then (34 :: qAll (fuR us).1 ++ [34], 0) else ([], (fuR us).2)

theorem short_len (p : Int) : (short p).length ≤ 2 := by
  unfold short
  repeat' split
  all_goals simp
theorem qOne_len (p : Int) : (qOne p).length ≤ 6 := by
  unfold qOne
  have h1 := short_len p
  have h2 := enc_len p
  split
  · omega
  · split
    · simp [hex4]
    · omega
theorem qAll_len (ps : List Int) : (qAll ps).length ≤ 6 * ps.length := by
  induction ps with
  | nil => simp [qAll]
  | cons p ps ih =>
    have := qOne_len p
    simp only [qAll, List.flatMap_cons, List.length_append, List.length_cons] at ih ⊢
    omega
theorem qAll_step (zs : List Int) (k : Nat) (hk : k < zs.length) : qAll (zs.take (k + 1)) = qAll (zs.take k) ++ qOne (zs[k]?.getD 0) := by
  rw [take_snoc zs k hk]; simp [qAll]

def hexS : ByteArray := { data := #[48, 49, 50, 51, 52, 53, 54, 55, 56, 57, 97, 98, 99, 100, 101, 102] }
theorem hex_at (n : Nat) (h : n < 16) (W : World) : (Instr.index 9 (.string hexS) (.int .i32 (n : Int))).run Tryd.prog W = .ok (.int .u8 (hd16 n)) W := by
  rw [run_index_string W 9 hexS .i32 (n : Int) Tryd.underlying9]
  have hs : hexS.size = 16 := rfl
  rw [dif_pos ⟨by omega, by rw [hs]; omega⟩]
  congr 2
  match n, h with
  | 0, _ => rfl
  | 1, _ => rfl
  | 2, _ => rfl
  | 3, _ => rfl
  | 4, _ => rfl
  | 5, _ => rfl
  | 6, _ => rfl
  | 7, _ => rfl
  | 8, _ => rfl
  | 9, _ => rfl
  | 10, _ => rfl
  | 11, _ => rfl
  | 12, _ => rfl
  | 13, _ => rfl
  | 14, _ => rfl
  | 15, _ => rfl
  | n + 16, h => omega
theorem hex_at64 (n : Nat) (h : n < 16) (W : World) : (Instr.index 9 (.string hexS) (.int .i64 (n : Int))).run Tryd.prog W = .ok (.int .u8 (hd16 n)) W := by
  have := hex_at n h W
  rw [run_index_string W 9 hexS _ (n : Int) Tryd.underlying9] at this ⊢
  have hs : hexS.size = 16 := rfl
  rw [dif_pos ⟨by omega, by rw [hs]; omega⟩] at this ⊢
  exact this
theorem and15 (p : Int) (h0 : 0 ≤ p) (h1 : p < 2147483648) : bits .and .i32 p 15 = p % 16 := mask_i32 4 (by omega) p h0 h1
theorem hex_i (p : Int) (W : World) : (Instr.index 9 (.string hexS) (.int .i32 (p % 16))).run Tryd.prog W = .ok (.int .u8 (hd16 (p % 16))) W := by
  obtain ⟨n, hn⟩ := Int.eq_ofNat_of_zero_le (show 0 ≤ p % 16 by omega)
  rw [hn]
  exact hex_at n (by omega) W
theorem hex_i64 (p : Int) (W : World) : (Instr.index 9 (.string hexS) (.int .i64 (p % 16))).run Tryd.prog W = .ok (.int .u8 (hd16 (p % 16))) W := by
  obtain ⟨n, hn⟩ := Int.eq_ofNat_of_zero_le (show 0 ≤ p % 16 by omega)
  rw [hn]
  exact hex_at64 n (by omega) W

end Go.Proofs.YtdcajkgmhimffaaDoorRR
