import Derived.Test.YtakkdniikhgpdaaGreatDoorMAA
import Derived.Test.YtakkdniikhgpdaaGreatDoorMAB
import Derived.Test.YtakkdniikhgpdaaGreatDoorMAE
namespace Go.Proofs.YtakkdniikhgpdaaGreatDoor
open Go.RowKit

def isLet (c : Int) : Bool := decide ((97 ≤ c ∧ c ≤ 122) ∨ (65 ≤ c ∧ c ≤ 90) ∨ c = 95 ∨ c = 36)
def isDig (c : Int) : Bool := decide (48 ≤ c ∧ c ≤ 57)
/-- Which number may stand at place k of a name. -/
def nmAt (k : Nat) (c : Int) : Bool := isLet c || (k != 0 && isDig c)
def nmUp (zs : List Int) (k : Nat) : Bool := (List.range k).all fun j => nmAt j (zs[j]?.getD 0)
/-- What IsName answers. -/
def nmR (zs : List Int) : Bool := nmUp zs zs.length && decide (0 < zs.length)

theorem nmUp_zero (zs : List Int) : nmUp zs 0 = true := rfl
theorem nmUp_snoc (zs : List Int) (k : Nat) (h : nmUp zs k = true) (h1 : nmAt k (zs[k]?.getD 0) = true) : nmUp zs (k + 1) = true := by
  simp only [nmUp, List.range_succ, List.all_append, List.all_cons, List.all_nil] at h ⊢
  simp [h, h1]
theorem nmR_not (zs : List Int) (k : Nat) (hk : k < zs.length) (h1 : nmAt k (zs[k]?.getD 0) = false) : nmR zs = false := by
  have : nmUp zs zs.length = false := by
    rw [nmUp, List.all_eq_false]
    exact ⟨k, List.mem_range.2 hk, by simpa using h1⟩
  simp [nmR, this]
theorem nmR_yes (zs : List Int) (h : nmUp zs zs.length = true) : nmR zs = decide (0 < zs.length) := by simp [nmR, h]

end Go.Proofs.YtakkdniikhgpdaaGreatDoor

namespace Go.Proofs.YtakkdniikhgpdaaGreatDoor
open Go.RowKit

def pairOf (u x : Int) : Int := 65536 + (u - 55296) * 1024 + (x - 56320)
/-- The points of units. -/
def fu : List Int → List Int
  | [] => []
  | [u] => [u]
  | u :: x :: r => if isHi u && isLo x then pairOf u x :: fu r else u :: fu (x :: r)
def fuR (zs : List Int) : List Int × Int := if zs.all isUn then (fu zs, 0) else ([], 1)

theorem drop_cons (zs : List Int) (k : Nat) (hk : k < zs.length) : zs.drop k = zs[k]?.getD 0 :: zs.drop (k + 1) := by
  rw [List.drop_eq_getElem_cons hk]; simp [hk]

theorem fu_one (zs : List Int) (k : Nat) (hk : k < zs.length) (h : ¬ (isHi (zs[k]?.getD 0) = true ∧ k + 1 < zs.length ∧ isLo (zs[k + 1]?.getD 0) = true)) :
    fu (zs.drop k) = zs[k]?.getD 0 :: fu (zs.drop (k + 1)) := by
  rw [drop_cons zs k hk]
  by_cases h1 : k + 1 < zs.length
  · rw [drop_cons zs (k + 1) h1, fu, if_neg]
    simp only [Bool.and_eq_true]
    exact fun hh => h ⟨hh.1, h1, hh.2⟩
  · rw [List.drop_eq_nil_of_le (by omega)]
    rfl
theorem fu_two (zs : List Int) (k : Nat) (h1 : k + 1 < zs.length) (h : isHi (zs[k]?.getD 0) = true) (h2 : isLo (zs[k + 1]?.getD 0) = true) :
    fu (zs.drop k) = pairOf (zs[k]?.getD 0) (zs[k + 1]?.getD 0) :: fu (zs.drop (k + 2)) := by
  rw [drop_cons zs k (by omega), drop_cons zs (k + 1) h1, fu, if_pos (by simp [h, h2])]
theorem fu_len : ∀ (n : Nat) (zs : List Int), zs.length ≤ n → (fu zs).length ≤ zs.length
  | 0, zs, h => by
    have : zs = [] := List.eq_nil_of_length_eq_zero (by omega)
    subst this; simp [fu]
  | n + 1, [], _ => by simp [fu]
  | n + 1, [u], _ => by simp [fu]
  | n + 1, u :: x :: r, h => by
    simp only [List.length_cons] at h
    rw [fu]
    split
    · have := fu_len n r (by omega)
      simp only [List.length_cons]; omega
    · have := fu_len n (x :: r) (by simp only [List.length_cons]; omega)
      simp only [List.length_cons] at this ⊢; omega
theorem fuR_len (zs : List Int) : (fuR zs).1.length ≤ zs.length := by
  unfold fuR; split
  · exact fu_len _ zs (Nat.le_refl _)
  · simp
theorem fuR_bad (zs : List Int) (h : zs.all isUn = false) : fuR zs = ([], 1) := by simp [fuR, h]
theorem fuR_ok (zs : List Int) (h : zs.all isUn = true) : fuR zs = (fu zs, 0) := by simp [fuR, h]
theorem lo_un {p : Int} (h : isLo p = true) : isUn p = true := by
  simp [isLo, isUn] at h ⊢; omega
theorem hi_un {p : Int} (h : isHi p = true) : isUn p = true := by
  simp [isHi, isUn] at h ⊢; omega

/-- What lies between the rounds: acc is told, the rest is to come. -/
theorem fu_step1 {zs acc : List Int} {k : Nat} {p : Int} (hx : acc ++ fu (zs.drop k) = fu zs) (h : fu (zs.drop k) = p :: fu (zs.drop (k + 1))) : acc ++ [p] ++ fu (zs.drop (k + 1)) = fu zs := by
  rw [← hx, h]; simp
theorem fu_step2 {zs acc : List Int} {k : Nat} {p : Int} (hx : acc ++ fu (zs.drop k) = fu zs) (h : fu (zs.drop k) = p :: fu (zs.drop (k + 2))) : acc ++ [p] ++ fu (zs.drop (k + 2)) = fu zs := by
  rw [← hx, h]; simp
theorem fu_end {zs acc : List Int} {k : Nat} (hk : zs.length ≤ k) (hx : acc ++ fu (zs.drop k) = fu zs) : acc = fu zs := by
  rw [List.drop_eq_nil_of_le hk] at hx; simpa [fu] using hx

end Go.Proofs.YtakkdniikhgpdaaGreatDoor

namespace Go.Proofs.YtakkdniikhgpdaaGreatDoor
open Go.RowKit

theorem or_u8 (c : Nat) (n : Nat) (hc : c < 256) (hn : n < 256) (h : c ||| n = c + n) : bits .or .u8 (c : Int) (n : Int) = (c : Int) + n := by
  rw [u8_or_nat c n hc hn, h]; omega
theorem or128 (x : Int) (h0 : 0 ≤ x) (h1 : x < 64) : bits .or .u8 128 x = 128 + x := by
  obtain ⟨n, rfl⟩ := Int.eq_ofNat_of_zero_le h0
  have hd : ∀ m : Nat, m < 64 → 128 ||| m = 128 + m := by decide
  exact or_u8 128 n (by omega) (by omega) (hd n (by omega))
theorem or192 (x : Int) (h0 : 0 ≤ x) (h1 : x < 32) : bits .or .u8 192 x = 192 + x := by
  obtain ⟨n, rfl⟩ := Int.eq_ofNat_of_zero_le h0
  have hd : ∀ m : Nat, m < 32 → 192 ||| m = 192 + m := by decide
  exact or_u8 192 n (by omega) (by omega) (hd n (by omega))
theorem or224 (x : Int) (h0 : 0 ≤ x) (h1 : x < 16) : bits .or .u8 224 x = 224 + x := by
  obtain ⟨n, rfl⟩ := Int.eq_ofNat_of_zero_le h0
  have hd : ∀ m : Nat, m < 16 → 224 ||| m = 224 + m := by decide
  exact or_u8 224 n (by omega) (by omega) (hd n (by omega))
theorem or240 (x : Int) (h0 : 0 ≤ x) (h1 : x < 8) : bits .or .u8 240 x = 240 + x := by
  obtain ⟨n, rfl⟩ := Int.eq_ofNat_of_zero_le h0
  have hd : ∀ m : Nat, m < 8 → 240 ||| m = 240 + m := by decide
  exact or_u8 240 n (by omega) (by omega) (hd n (by omega))

theorem ofInt_i32 (a : Nat) (ha : a < 4294967296) : (BitVec.ofInt 32 (a : Int)).toNat = a := by
  rw [BitVec.ofInt_natCast, BitVec.toNat_ofNat]; exact Nat.mod_eq_of_lt (by omega)
theorem wrap_i32_small (n : Int) (h0 : 0 ≤ n) (h1 : n < 2147483648) : IntKind.i32.wrap n = n := by
  simp [IntKind.wrap, IntKind.bits, IntKind.signed]; omega
theorem i32_and_nat (a b : Nat) (ha : a < 2147483648) (hb : b < 2147483648) : bits .and .i32 (a : Int) (b : Int) = ((a &&& b : Nat) : Int) := by
  have hx : a &&& b < 2 ^ 31 := Nat.and_lt_two_pow _ (by omega)
  show IntKind.i32.wrap ((BitVec.ofInt 32 (a : Int) &&& BitVec.ofInt 32 (b : Int)).toNat : Int) = _
  rw [BitVec.toNat_and, ofInt_i32 a (by omega), ofInt_i32 b (by omega), wrap_i32_small _ (by omega) (by omega)]
theorem i32_or_nat (a b : Nat) (ha : a < 2147483648) (hb : b < 2147483648) : bits .or .i32 (a : Int) (b : Int) = ((a ||| b : Nat) : Int) := by
  have hx : a ||| b < 2 ^ 31 := Nat.or_lt_two_pow (by omega) (by omega)
  show IntKind.i32.wrap ((BitVec.ofInt 32 (a : Int) ||| BitVec.ofInt 32 (b : Int)).toNat : Int) = _
  rw [BitVec.toNat_or, ofInt_i32 a (by omega), ofInt_i32 b (by omega), wrap_i32_small _ (by omega) (by omega)]
theorem mask_i32 (k : Nat) (hk : k < 31) (p : Int) (h0 : 0 ≤ p) (h1 : p < 2147483648) : bits .and .i32 p (((2 ^ k - 1 : Nat) : Int)) = p % ((2 ^ k : Nat) : Int) := by
  obtain ⟨n, rfl⟩ := Int.eq_ofNat_of_zero_le h0
  have hp : 2 ^ k ≤ 2 ^ 30 := Nat.pow_le_pow_right (by omega) (by omega)
  rw [i32_and_nat n _ (by omega) (by omega), Nat.and_two_pow_sub_one_eq_mod]
  omega
theorem and63 (p : Int) (h0 : 0 ≤ p) (h1 : p < 2147483648) : bits .and .i32 p 63 = p % 64 := by
  simpa using mask_i32 6 (by omega) p h0 h1

end Go.Proofs.YtakkdniikhgpdaaGreatDoor

namespace Go.Proofs.YtakkdniikhgpdaaGreatDoor
open Go.RowKit

def hd16 (n : Int) : Int := if n < 10 then 48 + n else 87 + n
def hex4 (p : Int) : List Int := [92, 117, hd16 (p / 4096 % 16), hd16 (p / 256 % 16), hd16 (p / 16 % 16), hd16 (p % 16)]
/-- Which points are written as numbers. -/
def byHex (p : Int) : Bool := decide (p < 32) || decide (p = 127) || decide (p = 8232) || decide (p = 8233) || !okPt p
def short (p : Int) : List Int :=
  if p = 8 then [92, 98] else if p = 12 then [92, 102] else if p = 10 then [92, 110] else if p = 13 then [92, 114] else if p = 9 then [92, 116]
  else if p = 34 then [92, 34] else if p = 92 then [92, 92] else []
/-- A point between quotes. -/
def qOne (p : Int) : List Int := if short p ≠ [] then short p else if byHex p then hex4 p else enc p
def qAll (ps : List Int) : List Int := ps.flatMap qOne
def quR (us : List Int) : List Int × Int := if (fuR us).2 = 0 then (34 :: qAll (fuR us).1 ++ [34], 0) else ([], (fuR us).2)

theorem short_len (p : Int) : (short p).length ≤ 2 := by
  unfold short
  repeat' split
  all_goals simp
theorem qOne_len (p : Int) : (qOne p).length ≤ 6 := by
  unfold qOne
  have h1 := short_len p
  have h2 := enc_len p
  split
  · omega
  · split
    · simp [hex4]
    · omega
theorem qAll_len (ps : List Int) : (qAll ps).length ≤ 6 * ps.length := by
  induction ps with
  | nil => simp [qAll]
  | cons p ps ih =>
    have := qOne_len p
    simp only [qAll, List.flatMap_cons, List.length_append, List.length_cons] at ih ⊢
    omega
theorem qAll_step (zs : List Int) (k : Nat) (hk : k < zs.length) : qAll (zs.take (k + 1)) = qAll (zs.take k) ++ qOne (zs[k]?.getD 0) := by
  rw [take_snoc zs k hk]; simp [qAll]

def hexS : ByteArray := { data := #[48, 49, 50, 51, 52, 53, 54, 55, 56, 57, 97, 98, 99, 100, 101, 102] }
theorem hex_at (n : Nat) (h : n < 16) (W : World) : (Instr.index 9 (.string hexS) (.int .i32 (n : Int))).run Tryz.prog W = .ok (.int .u8 (hd16 n)) W := by
  rw [run_index_string W 9 hexS .i32 (n : Int) Tryz.underlying9]
  have hs : hexS.size = 16 := rfl
  rw [dif_pos ⟨by omega, by rw [hs]; omega⟩]
  congr 2
  match n, h with
  | 0, _ => rfl
  | 1, _ => rfl
  | 2, _ => rfl
  | 3, _ => rfl
  | 4, _ => rfl
  | 5, _ => rfl
  | 6, _ => rfl
  | 7, _ => rfl
  | 8, _ => rfl
  | 9, _ => rfl
  | 10, _ => rfl
  | 11, _ => rfl
  | 12, _ => rfl
  | 13, _ => rfl
  | 14, _ => rfl
  | 15, _ => rfl
  | n + 16, h => omega
theorem hex_at64 (n : Nat) (h : n < 16) (W : World) : (Instr.index 9 (.string hexS) (.int .i64 (n : Int))).run Tryz.prog W = .ok (.int .u8 (hd16 n)) W := by
  have := hex_at n h W
  rw [run_index_string W 9 hexS _ (n : Int) Tryz.underlying9] at this ⊢
  have hs : hexS.size = 16 := rfl
  rw [dif_pos ⟨by omega, by rw [hs]; omega⟩] at this ⊢
  exact this
theorem and15 (p : Int) (h0 : 0 ≤ p) (h1 : p < 2147483648) : bits .and .i32 p 15 = p % 16 := mask_i32 4 (by omega) p h0 h1
theorem hex_i (p : Int) (W : World) : (Instr.index 9 (.string hexS) (.int .i32 (p % 16))).run Tryz.prog W = .ok (.int .u8 (hd16 (p % 16))) W := by
  obtain ⟨n, hn⟩ := Int.eq_ofNat_of_zero_le (show 0 ≤ p % 16 by omega)
  rw [hn]
  exact hex_at n (by omega) W
theorem hex_i64 (p : Int) (W : World) : (Instr.index 9 (.string hexS) (.int .i64 (p % 16))).run Tryz.prog W = .ok (.int .u8 (hd16 (p % 16))) W := by
  obtain ⟨n, hn⟩ := Int.eq_ofNat_of_zero_le (show 0 ≤ p % 16 by omega)
  rw [hn]
  exact hex_at64 n (by omega) W

end Go.Proofs.YtakkdniikhgpdaaGreatDoor

namespace Go.Proofs.YtakkdniikhgpdaaGreatDoor
open Go.RowKit

set_option maxRecDepth 10000 in
theorem byte_on (z : Int) (h0 : 0 ≤ z) (h1 : z ≤ 255) : (bits .and .u8 z 192 != 128) = !decide (z / 64 = 2) := by
  obtain ⟨n, rfl⟩ := Int.eq_ofNat_of_zero_le h0
  have hd : ∀ m : Nat, m < 256 → (m &&& 192 = 128 ↔ m / 64 = 2) := by decide
  have h := hd n (by omega)
  have e : bits .and .u8 (n : Int) 192 = ((n &&& 192 : Nat) : Int) := u8_and_nat n 192 (by omega) (by omega)
  rw [e]
  by_cases hh : n / 64 = 2
  · rw [h.2 hh]; simp; omega
  · have : ¬ n &&& 192 = 128 := fun x => hh (h.1 x)
    have h2 : ¬ (n : Int) / 64 = 2 := by omega
    have h3 : ¬ ((n &&& 192 : Nat) : Int) = 128 := by omega
    simp [h2, h3]
theorem byte_low (z : Int) (h0 : 0 ≤ z) (h1 : z ≤ 255) : bits .and .u8 z 63 = z % 64 := by
  obtain ⟨n, rfl⟩ := Int.eq_ofNat_of_zero_le h0
  have e : bits .and .u8 (n : Int) 63 = ((n &&& 63 : Nat) : Int) := u8_and_nat n 63 (by omega) (by omega)
  have e2 : n &&& 63 = n % 64 := by simpa using Nat.and_two_pow_sub_one_eq_mod n 6
  rw [e, e2]; omega
theorem or_low (p z : Int) (h0 : 0 ≤ p) (h1 : p < 16777216) (hz0 : 0 ≤ z) (hz1 : z < 64) : bits .or .i32 (p * 64) z = p * 64 + z := by
  obtain ⟨n, rfl⟩ := Int.eq_ofNat_of_zero_le h0
  obtain ⟨m, rfl⟩ := Int.eq_ofNat_of_zero_le hz0
  have e : bits .or .i32 ((n * 64 : Nat) : Int) (m : Int) = ((n * 64 ||| m : Nat) : Int) := i32_or_nat (n * 64) m (by omega) (by omega)
  have e2 : n * 64 ||| m = n * 64 + m := by
    have := Nat.shiftLeft_add_eq_or_of_lt (i := 6) (b := m) (by omega) n
    rw [Nat.shiftLeft_eq] at this
    exact this.symm
  rw [e2] at e
  rw [show ((n : Int) * 64) = ((n * 64 : Nat) : Int) by omega, e]
  omega

end Go.Proofs.YtakkdniikhgpdaaGreatDoor

namespace Go.Proofs.YtakkdniikhgpdaaGreatDoor
open Go.RowKit

theorem hit_lead {s : List Int} {m : Nat} (h : lead m (s[0]?.getD 0) < 0) : hit s m = false := by
  have : lv s m = -1 := by
    by_cases hl : s.length < m
    · exact lv_short hl
    · exact lv_lead (by omega) h
  simp [hit, this]
theorem hit_neg {s : List Int} {m : Nat} (h : lv s m = -1) : hit s m = false := by simp [hit, h]
theorem fsize_only {s : List Int} {n : Nat} (h1 : 1 ≤ n) (h4 : n ≤ 4) (h : ∀ m, 1 ≤ m → m ≤ 4 → m ≠ n → hit s m = false) : fsize s = if hit s n then n else 0 := by
  unfold fsize
  by_cases e1 : n = 1
  · subst e1
    rw [h 2 (by omega) (by omega) (by omega), h 3 (by omega) (by omega) (by omega), h 4 (by omega) (by omega) (by omega)]; simp
  · rw [h 1 (by omega) (by omega) (by omega)]
    by_cases e2 : n = 2
    · subst e2
      rw [h 3 (by omega) (by omega) (by omega), h 4 (by omega) (by omega) (by omega)]; simp
    · rw [h 2 (by omega) (by omega) (by omega)]
      by_cases e3 : n = 3
      · subst e3
        rw [h 4 (by omega) (by omega) (by omega)]; simp
      · rw [h 3 (by omega) (by omega) (by omega)]
        have e4 : n = 4 := by omega
        subst e4; simp
theorem fsize_zero {s : List Int} (h : ∀ m, 1 ≤ m → m ≤ 4 → hit s m = false) : fsize s = 0 := by
  unfold fsize
  rw [h 1 (by omega) (by omega), h 2 (by omega) (by omega), h 3 (by omega) (by omega), h 4 (by omega) (by omega)]; simp

/-- The classes of a first byte. -/
theorem lead_cls1 {c : Int} (h0 : 0 ≤ c) (h : c < 128) : ∀ m, 1 ≤ m → m ≤ 4 → m ≠ 1 → lead m c < 0 := by
  intro m h1 h4 hne
  rw [lead_no m c (by omega) (by omega) (by omega) (by omega)]; omega
theorem lead_cls2 {c : Int} (h : c / 32 = 6) : ∀ m, 1 ≤ m → m ≤ 4 → m ≠ 2 → lead m c < 0 := by
  intro m h1 h4 hne
  rw [lead_no m c (by omega) (by omega) (by omega) (by omega)]; omega
theorem lead_cls3 {c : Int} (h : c / 16 = 14) : ∀ m, 1 ≤ m → m ≤ 4 → m ≠ 3 → lead m c < 0 := by
  intro m h1 h4 hne
  rw [lead_no m c (by omega) (by omega) (by omega) (by omega)]; omega
theorem lead_cls4 {c : Int} (h : c / 8 = 30) : ∀ m, 1 ≤ m → m ≤ 4 → m ≠ 4 → lead m c < 0 := by
  intro m h1 h4 hne
  rw [lead_no m c (by omega) (by omega) (by omega) (by omega)]; omega
theorem lead_cls0 {c : Int} (h : 128 ≤ c) (h2 : ¬ c / 32 = 6) (h3 : ¬ c / 16 = 14) (h4' : ¬ c / 8 = 30) : ∀ m, 1 ≤ m → m ≤ 4 → lead m c < 0 := by
  intro m h1 h4
  rw [lead_no m c (by omega) (by omega) (by omega) (by omega)]; omega

def goesOn (s : List Int) (k : Nat) : Prop := k < s.length ∧ s[k]?.getD 0 / 64 = 2
theorem fold_none (x : Int) (s : List Int) (n : Nat) : foldc x ((s.drop n).take (n - n)) = x := by simp [foldc]
theorem lv2 {s : List Int} (hc : s[0]?.getD 0 / 32 = 6) (g1 : goesOn s 1) : lv s 2 = s[0]?.getD 0 % 32 * 64 + s[1]?.getD 0 % 64 := by
  obtain ⟨l1, d1⟩ := g1
  have hl : lead 2 (s[0]?.getD 0) = s[0]?.getD 0 % 32 := lead_two _ hc
  rw [lv_fold (by omega) (by rw [hl]; omega), hl, foldc_step (by omega) (by omega), if_pos d1, fold_none]
theorem lv3 {s : List Int} (hc : s[0]?.getD 0 / 16 = 14) (g1 : goesOn s 1) (g2 : goesOn s 2) : lv s 3 = (s[0]?.getD 0 % 16 * 64 + s[1]?.getD 0 % 64) * 64 + s[2]?.getD 0 % 64 := by
  obtain ⟨l1, d1⟩ := g1
  obtain ⟨l2, d2⟩ := g2
  have hl : lead 3 (s[0]?.getD 0) = s[0]?.getD 0 % 16 := lead_three _ hc
  rw [lv_fold (by omega) (by rw [hl]; omega), hl, foldc_step (by omega) (by omega), if_pos d1, foldc_step (by omega) (by omega), if_pos d2, fold_none]
theorem lv4 {s : List Int} (hc : s[0]?.getD 0 / 8 = 30) (g1 : goesOn s 1) (g2 : goesOn s 2) (g3 : goesOn s 3) :
    lv s 4 = ((s[0]?.getD 0 % 8 * 64 + s[1]?.getD 0 % 64) * 64 + s[2]?.getD 0 % 64) * 64 + s[3]?.getD 0 % 64 := by
  obtain ⟨l1, d1⟩ := g1
  obtain ⟨l2, d2⟩ := g2
  obtain ⟨l3, d3⟩ := g3
  have hl : lead 4 (s[0]?.getD 0) = s[0]?.getD 0 % 8 := lead_four _ hc
  rw [lv_fold (by omega) (by rw [hl]; omega), hl, foldc_step (by omega) (by omega), if_pos d1, foldc_step (by omega) (by omega), if_pos d2, foldc_step (by omega) (by omega), if_pos d3, fold_none]

/-- A form that is cut: no value. -/
theorem cut_at {s : List Int} {n : Nat} (x : Int) (k : Nat) (hk : k < n) (hn : n ≤ s.length) (h : ¬ s[k]?.getD 0 / 64 = 2) : foldc x ((s.drop k).take (n - k)) = -1 := by
  rw [foldc_step hk hn, if_neg h]
theorem lv_cut {s : List Int} {n : Nat} (k : Nat) (hk1 : 1 ≤ k) (hk : k < n) (hlo : ∀ j, 1 ≤ j → j < k → goesOn s j) (h : ¬ goesOn s k) : lv s n = -1 := by
  by_cases hl : s.length < n
  · exact lv_short hl
  · have hd : ¬ s[k]?.getD 0 / 64 = 2 := fun e => h ⟨by omega, e⟩
    by_cases hle : lead n (s[0]?.getD 0) < 0
    · exact lv_lead (by omega) hle
    · rw [lv_fold (by omega) (by omega)]
      generalize lead n (s[0]?.getD 0) = x
      have all : ∀ j, 1 ≤ j → j ≤ k → ∀ x, foldc x ((s.drop j).take (n - j)) = -1 := by
        intro j
        induction hj : k - j generalizing j with
        | zero =>
          intro h1 h2 x
          have : j = k := by omega
          subst this
          exact cut_at x j hk (by omega) hd
        | succ d ih =>
          intro h1 h2 x
          have hg := hlo j h1 (by omega)
          rw [foldc_step (by omega) (by omega), if_pos hg.2]
          exact ih (j + 1) (by omega) (by omega) (by omega) _
      exact all 1 (Nat.le_refl _) hk1 x

/-- Which numbers want n bytes. -/
theorem need_iff2 {y : Int} (h1 : y < 2048) : need y = 2 ↔ (¬ y < 128 ∧ okPt y = true) := by
  unfold need
  cases ho : okPt y <;> simp <;> split <;> (try split) <;> (try split) <;> omega
theorem need_iff3 {y : Int} (h1 : y < 65536) : need y = 3 ↔ (¬ y < 2048 ∧ okPt y = true) := by
  unfold need
  cases ho : okPt y <;> simp <;> split <;> (try split) <;> (try split) <;> omega
theorem need_iff4 {y : Int} : need y = 4 ↔ (¬ y < 65536 ∧ okPt y = true) := by
  unfold need
  cases ho : okPt y <;> simp <;> split <;> (try split) <;> (try split) <;> omega
theorem hit_val {s : List Int} {n : Nat} {y : Int} (hv : lv s n = y) (h0 : 0 ≤ y) : hit s n = true ↔ need y = n := by
  simp [hit, hv, h0]

/-- What firstPoint answers at s. -/
def fpP (s : List Int) : Int := if fsize s = 0 then -1 else lv s (fsize s)
theorem fp_none {s : List Int} (h : fsize s = 0) : fpP s = -1 := by simp [fpP, h]
theorem fp_some {s : List Int} {n : Nat} {y : Int} (hn : n ≠ 0) (h : fsize s = n) (hv : lv s n = y) : fpP s = y := by simp [fpP, h, hn, hv]

end Go.Proofs.YtakkdniikhgpdaaGreatDoor

namespace Go.Proofs.YtakkdniikhgpdaaGreatDoor
open Go.RowKit

end Go.Proofs.YtakkdniikhgpdaaGreatDoor

namespace Go.Proofs.YtakkdniikhgpdaaGreatDoor
open Go.RowKit

end Go.Proofs.YtakkdniikhgpdaaGreatDoor

namespace Go.Proofs.YtakkdniikhgpdaaGreatDoor
open Go.RowKit

end Go.Proofs.YtakkdniikhgpdaaGreatDoor

namespace Go.Proofs.YtakkdniikhgpdaaGreatDoor
open Go.RowKit

end Go.Proofs.YtakkdniikhgpdaaGreatDoor

namespace Go.Proofs.YtakkdniikhgpdaaGreatDoor
open Go.RowKit

/-- The table of the forms' ends, as it lies in block 0. -/
structure Tab (w : World) : Prop where
  c0 : w.cell? ⟨0, 0, none⟩ = some (.int .i32 0)
  c1 : w.cell? ⟨0, 1, none⟩ = some (.int .i32 128)
  c2 : w.cell? ⟨0, 2, none⟩ = some (.int .i32 2048)
  c3 : w.cell? ⟨0, 3, none⟩ = some (.int .i32 65536)
  c4 : w.cell? ⟨0, 4, none⟩ = some (.int .i32 2097152)
theorem Tab.keep {w w' : World} (h : Tab w) (hg : w.grownBy w' none) : Tab w' :=
  ⟨hg.cell h.c0 (by simp), hg.cell h.c1 (by simp), hg.cell h.c2 (by simp), hg.cell h.c3 (by simp), hg.cell h.c4 (by simp)⟩
theorem Tab.pos {w : World} (h : Tab w) : 0 < w.heap.size := World.block_lt_of_cell? w _ h.c0
theorem Tab.below {B : Nat} {w w' : World} (h : Tab w) (hg : Below B w w') (hB : 0 < B) : Tab w' :=
  ⟨(hg.cell hB).trans h.c0, (hg.cell hB).trans h.c1, (hg.cell hB).trans h.c2, (hg.cell hB).trans h.c3, (hg.cell hB).trans h.c4⟩

end Go.Proofs.YtakkdniikhgpdaaGreatDoor

namespace Go.Proofs.YtakkdniikhgpdaaGreatDoor
open Go.RowKit

theorem byte_cls (k d q : Nat) (hd : ∀ m : Nat, m < 256 → (m &&& k = q ↔ m / d = q / d)) (hk : k < 256) (z : Int) (h0 : 0 ≤ z) (h1 : z ≤ 255) :
    (bits .and .u8 z (k : Int) == (q : Int)) = decide (z / (d : Int) = ((q / d : Nat) : Int)) := by
  obtain ⟨n, rfl⟩ := Int.eq_ofNat_of_zero_le h0
  have h := hd n (by omega)
  rw [u8_and_nat n k (by omega) hk, Bool.eq_iff_iff]
  simp only [beq_iff_eq, decide_eq_true_eq]
  rw [← Int.natCast_ediv]
  omega
set_option maxRecDepth 10000 in
theorem cls4 (z : Int) (h0 : 0 ≤ z) (h1 : z ≤ 255) : (bits .and .u8 z 248 == 240) = decide (z / 8 = 30) := byte_cls 248 8 240 (by decide) (by omega) z h0 h1
set_option maxRecDepth 10000 in
theorem cls3 (z : Int) (h0 : 0 ≤ z) (h1 : z ≤ 255) : (bits .and .u8 z 240 == 224) = decide (z / 16 = 14) := byte_cls 240 16 224 (by decide) (by omega) z h0 h1
set_option maxRecDepth 10000 in
theorem cls2 (z : Int) (h0 : 0 ≤ z) (h1 : z ≤ 255) : (bits .and .u8 z 224 == 192) = decide (z / 32 = 6) := byte_cls 224 32 192 (by decide) (by omega) z h0 h1

theorem below_box (w : World) (o : Obj) : Below w.heap.size w (w.alloc o) := (Below.refl _ _).alloc (Nat.le_refl _) _
theorem Rd.below {q : IntKind} {B : Nat} {w w' : World} {v : Value} {zs : List Int} (h : Rd q B w v zs) (hb : Below B w w') : Rd q B w' v zs := by
  obtain ⟨a, cap, hv, hr⟩ := h
  refine ⟨a, cap, hv, fun h0 => ?_⟩
  obtain ⟨b, off, ha, hlt, hc⟩ := hr h0
  exact ⟨b, off, ha, hlt, fun j hj => (hb.cell (p := ⟨b, off + j, none⟩) hlt).trans (hc j hj)⟩

end Go.Proofs.YtakkdniikhgpdaaGreatDoor

namespace Go.Proofs.YtakkdniikhgpdaaGreatDoor
open Go.RowKit

/-- What the iterator gives from s on, which begins at the offset k. -/
def seqP : Nat → List Int → Nat → List (Int × Int)
  | 0, _, _ => []
  | f + 1, s, k => if s = [] then [] else if fsize s = 0 then [((k : Int), -1)] else ((k : Int), lv s (fsize s)) :: seqP f (s.drop (fsize s)) (k + fsize s)
def seqR (zs : List Int) : List (Int × Int) := seqP zs.length zs 0

theorem seq_nil (f k : Nat) : seqP f [] k = [] := by cases f <;> simp [seqP]
theorem seq_go {f k : Nat} {s : List Int} (hs : s ≠ []) (h : fsize s ≠ 0) : seqP (f + 1) s k = ((k : Int), lv s (fsize s)) :: seqP f (s.drop (fsize s)) (k + fsize s) := by simp [seqP, hs, h]
theorem seq_bad {f k : Nat} {s : List Int} (hs : s ≠ []) (h : fsize s = 0) : seqP (f + 1) s k = [((k : Int), -1)] := by simp [seqP, hs, h]

theorem hit_pos {s : List Int} {n : Nat} (h : hit s n = true) : 0 ≤ lv s n := by
  simp only [hit, Bool.and_eq_true, decide_eq_true_eq] at h
  exact h.1
theorem lv_pos {s : List Int} (h : fsize s ≠ 0) : 0 ≤ lv s (fsize s) := by
  have hh : hit s (fsize s) = true := by
    unfold fsize at h ⊢
    split
    · assumption
    · split
      · assumption
      · split
        · assumption
        · split
          · assumption
          · simp_all
  exact hit_pos hh
theorem fp_pos {s : List Int} (h : fsize s ≠ 0) : 0 ≤ fpP s := by unfold fpP; rw [if_neg h]; exact lv_pos h

def MidS (zs : List Int) (pre : List (Int × Int)) (k : Nat) : Prop := k ≤ zs.length ∧ pre.length ≤ k ∧ ∃ f, zs.length - k ≤ f ∧ pre ++ seqP f (zs.drop k) k = seqR zs
theorem MidS.start (zs : List Int) : MidS zs [] 0 := ⟨Nat.zero_le _, Nat.le_refl _, zs.length, by omega, by simp [seqR]⟩
theorem MidS.step {zs : List Int} {pre : List (Int × Int)} {k : Nat} (h : MidS zs pre k) (hk : k < zs.length) (hf : fsize (zs.drop k) ≠ 0) :
    MidS zs (pre ++ [((k : Int), fpP (zs.drop k))]) (k + fsize (zs.drop k)) := by
  obtain ⟨h1, ha, f, h2, h3⟩ := h
  have hs : zs.drop k ≠ [] := by rw [ne_eq, List.drop_eq_nil_iff]; omega
  have hl := fsize_le (zs.drop k)
  rw [List.length_drop] at hl
  obtain ⟨f', rfl⟩ : ∃ f', f = f' + 1 := ⟨f - 1, by omega⟩
  rw [seq_go hs hf, List.drop_drop] at h3
  refine ⟨by omega, by simp only [List.length_append, List.length_singleton]; omega, f', by omega, ?_⟩
  rw [← h3]; simp [fpP, hf]
theorem MidS.bad {zs : List Int} {pre : List (Int × Int)} {k : Nat} (h : MidS zs pre k) (hk : k < zs.length) (hf : fsize (zs.drop k) = 0) : pre ++ [((k : Int), fpP (zs.drop k))] = seqR zs := by
  obtain ⟨h1, ha, f, h2, h3⟩ := h
  have hs : zs.drop k ≠ [] := by rw [ne_eq, List.drop_eq_nil_iff]; omega
  obtain ⟨f', rfl⟩ : ∃ f', f = f' + 1 := ⟨f - 1, by omega⟩
  rw [seq_bad hs hf] at h3
  rw [fp_none hf]; exact h3
theorem MidS.done {zs : List Int} {pre : List (Int × Int)} {k : Nat} (h : MidS zs pre k) (hk : ¬ k < zs.length) : pre = seqR zs := by
  obtain ⟨h1, ha, f, h2, h3⟩ := h
  rw [List.drop_eq_nil_of_le (by omega), seq_nil] at h3
  simpa using h3
theorem MidS.prefix {zs : List Int} {pre : List (Int × Int)} {k : Nat} (h : MidS zs pre k) : pre <+: seqR zs := by
  obtain ⟨h1, ha, f, h2, h3⟩ := h
  exact ⟨_, h3⟩

theorem seq_done (f : Nat) : ∀ (s : List Int) (k : Nat), (∀ x ∈ seqP f s k, x.2 ≠ -1) → err f s k = none ∧ (seqP f s k).map (·.2) = pts f s := by
  induction f with
  | zero => intro s k _; simp [seqP, err, pts]
  | succ f ih =>
    intro s k h
    by_cases hs : s = []
    · simp [seqP, err, pts, hs]
    · by_cases hf : fsize s = 0
      · rw [seq_bad hs hf] at h
        exact absurd rfl (h _ (List.mem_singleton.2 rfl))
      · rw [seq_go hs hf] at h ⊢
        have h' := ih (s.drop (fsize s)) (k + fsize s) (fun x hx => h x (List.mem_cons_of_mem _ hx))
        rw [err_go hs hf, pts_go hs hf]
        exact ⟨h'.1, by simp [h'.2]⟩
theorem seq_stop (f : Nat) : ∀ (s : List Int) (k : Nat) (q : List (Int × Int)) (x : Int × Int), q ++ [x] <+: seqP f s k → x.2 = -1 → ∃ m : Nat, err f s k = some m ∧ x.1 = (m : Int) := by
  induction f with
  | zero => intro s k q x h _; simp [seqP] at h
  | succ f ih =>
    intro s k q x h hx
    by_cases hs : s = []
    · rw [hs, seq_nil] at h; simp at h
    · by_cases hf : fsize s = 0
      · rw [seq_bad hs hf] at h
        refine ⟨k, err_bad hs hf, ?_⟩
        cases q with
        | nil => obtain ⟨t, ht⟩ := h; simp at ht; rw [ht.1]
        | cons y q => obtain ⟨t, ht⟩ := h; simp at ht
      · rw [seq_go hs hf] at h
        rw [err_go hs hf]
        cases q with
        | nil =>
          obtain ⟨t, ht⟩ := h
          simp at ht
          have := lv_pos hf
          rw [ht.1] at hx; simp at hx; omega
        | cons y q =>
          refine ih (s.drop (fsize s)) (k + fsize s) q x ?_ hx
          rw [List.cons_append, List.cons_prefix_cons] at h
          exact h.2
theorem decR_done {zs : List Int} (h : ∀ x ∈ seqR zs, x.2 ≠ -1) : decR zs = ((seqR zs).map (·.2), 0, 0) := by
  have h' := seq_done zs.length zs 0 h
  rw [decR_ok h'.1]; unfold seqR; rw [h'.2]
theorem decR_stop {zs : List Int} {q : List (Int × Int)} {x : Int × Int} (h : q ++ [x] <+: seqR zs) (hx : x.2 = -1) : decR zs = ([], 2, x.1) := by
  obtain ⟨m, h1, h2⟩ := seq_stop zs.length zs 0 q x h hx
  rw [decR_bad h1, h2]

end Go.Proofs.YtakkdniikhgpdaaGreatDoor

