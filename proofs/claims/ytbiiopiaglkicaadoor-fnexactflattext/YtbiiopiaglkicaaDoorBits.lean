import Derived.Test.YtbiiopiaglkicaaDoorBase
namespace Go.Proofs.YtbiiopiaglkicaaDoor
open Go.RowKit

theorem or_u8 (c : Nat) (n : Nat) (hc : c < 256) (hn : n < 256) (h : c ||| n = c + n) : bits .or .u8 (c : Int) (n : Int) = (c : Int) + n := by
  rw [u8_or_nat c n hc hn, h]; omega
theorem or128 (x : Int) (h0 : 0 ≤ x) (h1 : x < 64) : bits .or .u8 128 x = 128 + x := by
  obtain ⟨n, rfl⟩ := Int.eq_ofNat_of_zero_le h0
  have hd : ∀ m : Nat, m < 64 → 128 ||| m = 128 + m := by decide
  exact or_u8 128 n (by omega) (by omega) (hd n (by omega))
theorem or192 (x : Int) (h0 : 0 ≤ x) (h1 : x < 32) : bits .or .u8 192 x = 192 + x := by
  obtain ⟨n, rfl⟩ := Int.eq_ofNat_of_zero_le h0
  have hd : ∀ m : Nat, m < 32 → 192 ||| m = 192 + m := by decide
  exact or_u8 192 n (by omega) (by omega) (hd n (by omega))
theorem or224 (x : Int) (h0 : 0 ≤ x) (h1 : x < 16) : bits .or .u8 224 x = 224 + x := by
  obtain ⟨n, rfl⟩ := Int.eq_ofNat_of_zero_le h0
  have hd : ∀ m : Nat, m < 16 → 224 ||| m = 224 + m := by decide
  exact or_u8 224 n (by omega) (by omega) (hd n (by omega))
theorem or240 (x : Int) (h0 : 0 ≤ x) (h1 : x < 8) : bits .or .u8 240 x = 240 + x := by
  obtain ⟨n, rfl⟩ := Int.eq_ofNat_of_zero_le h0
  have hd : ∀ m : Nat, m < 8 → 240 ||| m = 240 + m := by decide
  exact or_u8 240 n (by omega) (by omega) (hd n (by omega))

theorem ofInt_i32 (a : Nat) (ha : a < 4294967296) : (BitVec.ofInt 32 (a : Int)).toNat = a := by
  rw [BitVec.ofInt_natCast, BitVec.toNat_ofNat]; exact Nat.mod_eq_of_lt (by omega)
theorem wrap_i32_small (n : Int) (h0 : 0 ≤ n) (h1 : n < 2147483648) : IntKind.i32.wrap n = n := by
  simp [IntKind.wrap, IntKind.bits, IntKind.signed]; omega
theorem i32_and_nat (a b : Nat) (ha : a < 2147483648) (hb : b < 2147483648) : bits .and .i32 (a : Int) (b : Int) = ((a &&& b : Nat) : Int) := by
  have hx : a &&& b < 2 ^ 31 := Nat.and_lt_two_pow _ (by omega)
  show IntKind.i32.wrap ((BitVec.ofInt 32 (a : Int) &&& BitVec.ofInt 32 (b : Int)).toNat : Int) = _
  rw [BitVec.toNat_and, ofInt_i32 a (by omega), ofInt_i32 b (by omega), wrap_i32_small _ (by omega) (by omega)]
theorem i32_or_nat (a b : Nat) (ha : a < 2147483648) (hb : b < 2147483648) : bits .or .i32 (a : Int) (b : Int) = ((a ||| b : Nat) : Int) := by
  have hx : a ||| b < 2 ^ 31 := Nat.or_lt_two_pow (by omega) (by omega)
  show IntKind.i32.wrap ((BitVec.ofInt 32 (a : Int) ||| BitVec.ofInt 32 (b : Int)).toNat : Int) = _
  rw [BitVec.toNat_or, ofInt_i32 a (by omega), ofInt_i32 b (by omega), wrap_i32_small _ (by omega) (by omega)]
theorem mask_i32 (k : Nat) (hk : k < 31) (p : Int) (h0 : 0 ≤ p) (h1 : p < 2147483648) : bits .and .i32 p (((2 ^ k - 1 : Nat) : Int)) = p % ((2 ^ k : Nat) : Int) := by
  obtain ⟨n, rfl⟩ := Int.eq_ofNat_of_zero_le h0
  have hp : 2 ^ k ≤ 2 ^ 30 := Nat.pow_le_pow_right (by omega) (by omega)
  rw [i32_and_nat n _ (by omega) (by omega), Nat.and_two_pow_sub_one_eq_mod]
  omega
theorem and63 (p : Int) (h0 : 0 ≤ p) (h1 : p < 2147483648) : bits .and .i32 p 63 = p % 64 := by
  simpa using mask_i32 6 (by omega) p h0 h1

end Go.Proofs.YtbiiopiaglkicaaDoor
