import Derived.Test.YthcjmmpkgljjhaaGreatDoorMAA
namespace Go.Proofs.YthcjmmpkgljjhaaGreatDoor
open Go.RowKit

theorem or_u8 (c : Nat) (n : Nat) (hc : c < 256) (hn : n < 256) (h : c ||| n = c + n) : bits .or .u8 (c : Int) (n : Int) = (c : Int) + n := by
  rw [u8_or_nat c n hc hn, h]; omega
theorem or128 (x : Int) (h0 : 0 ≤ x) (h1 : x < 64) : bits .or .u8 128 x = 128 + x := by
  obtain ⟨n, rfl⟩ := Int.eq_ofNat_of_zero_le h0
  have hd : ∀ m : Nat, m < 64 → 128 ||| m = 128 + m := by decide
  exact or_u8 128 n (by omega) (by omega) (hd n (by omega))
theorem or192 (x : Int) (h0 : 0 ≤ x) (h1 : x < 32) : bits .or .u8 192 x = 192 + x := by
  obtain ⟨n, rfl⟩ := Int.eq_ofNat_of_zero_le h0
  have hd : ∀ m : Nat, m < 32 → 192 ||| m = 192 + m := by decide
  exact or_u8 192 n (by omega) (by omega) (hd n (by omega))
theorem or224 (x : Int) (h0 : 0 ≤ x) (h1 : x < 16) : bits .or .u8 224 x = 224 + x := by
  obtain ⟨n, rfl⟩ := Int.eq_ofNat_of_zero_le h0
  have hd : ∀ m : Nat, m < 16 → 224 ||| m = 224 + m := by decide
  exact or_u8 224 n (by omega) (by omega) (hd n (by omega))
theorem or240 (x : Int) (h0 : 0 ≤ x) (h1 : x < 8) : bits .or .u8 240 x = 240 + x := by
  obtain ⟨n, rfl⟩ := Int.eq_ofNat_of_zero_le h0
  have hd : ∀ m : Nat, m < 8 → 240 ||| m = 240 + m := by decide
  exact or_u8 240 n (by omega) (by omega) (hd n (by omega))

theorem ofInt_i32 (a : Nat) (ha : a < 4294967296) : (BitVec.ofInt 32 (a : Int)).toNat = a := by
  rw [BitVec.ofInt_natCast, BitVec.toNat_ofNat]; exact Nat.mod_eq_of_lt (by omega)
theorem wrap_i32_small (n : Int) (h0 : 0 ≤ n) (h1 : n < 2147483648) : IntKind.i32.wrap n = n := by
  simp [IntKind.wrap, IntKind.bits, IntKind.signed]; omega
theorem i32_and_nat (a b : Nat) (ha : a < 2147483648) (hb : b < 2147483648) : bits .and .i32 (a : Int) (b : Int) = ((a &&& b : Nat) : Int) := by
  have hx : a &&& b < 2 ^ 31 := Nat.and_lt_two_pow _ (by omega)
  show IntKind.i32.wrap ((BitVec.ofInt 32 (a : Int) &&& BitVec.ofInt 32 (b : Int)).toNat : Int) = _
  rw [BitVec.toNat_and, ofInt_i32 a (by omega), ofInt_i32 b (by omega), wrap_i32_small _ (by omega) (by omega)]
theorem i32_or_nat (a b : Nat) (ha : a < 2147483648) (hb : b < 2147483648) : bits .or .i32 (a : Int) (b : Int) = ((a ||| b : Nat) : Int) := by
  have hx : a ||| b < 2 ^ 31 := Nat.or_lt_two_pow (by omega) (by omega)
  show IntKind.i32.wrap ((BitVec.ofInt 32 (a : Int) ||| BitVec.ofInt 32 (b : Int)).toNat : Int) = _
  rw [BitVec.toNat_or, ofInt_i32 a (by omega), ofInt_i32 b (by omega), wrap_i32_small _ (by omega) (by omega)]
theorem mask_i32 (k : Nat) (hk : k < 31) (p : Int) (h0 : 0 ≤ p) (h1 : p < 2147483648) : bits .and .i32 p (((2 ^ k - 1 : Nat) : Int)) = p % ((2 ^ k : Nat) : Int) := by
  obtain ⟨n, rfl⟩ := Int.eq_ofNat_of_zero_le h0
  have hp : 2 ^ k ≤ 2 ^ 30 := Nat.pow_le_pow_right (by omega) (by omega)
  rw [i32_and_nat n _ (by omega) (by omega), Nat.and_two_pow_sub_one_eq_mod]
  omega
theorem and63 (p : Int) (h0 : 0 ≤ p) (h1 : p < 2147483648) : bits .and .i32 p 63 = p % 64 := by
  simpa using mask_i32 6 (by omega) p h0 h1

end Go.Proofs.YthcjmmpkgljjhaaGreatDoor

namespace Go.Proofs.YthcjmmpkgljjhaaGreatDoor
open Go.RowKit

/-- The box of a form that is being read. -/
def Frm (F : Nat) (w : World) (p n : Int) (c : Bool) : Prop := w.heap[F]? = some (.cells #[.int .i32 p, .int .i64 n, .bool c] 103 (0, 0))
theorem Frm.c0 {F : Nat} {w : World} {p n : Int} {c : Bool} (h : Frm F w p n c) : w.cell? ⟨F, 0, none⟩ = some (.int .i32 p) := by rw [cell_of_row w F 0 _ _ _ h]; rfl
theorem Frm.c1 {F : Nat} {w : World} {p n : Int} {c : Bool} (h : Frm F w p n c) : w.cell? ⟨F, 1, none⟩ = some (.int .i64 n) := by rw [cell_of_row w F 1 _ _ _ h]; rfl
theorem Frm.c2 {F : Nat} {w : World} {p n : Int} {c : Bool} (h : Frm F w p n c) : w.cell? ⟨F, 2, none⟩ = some (.bool c) := by rw [cell_of_row w F 2 _ _ _ h]; rfl
theorem Frm.fr {F : Nat} {w : World} {p n : Int} {c : Bool} (h : Frm F w p n c) (j : Nat) : w.frozen? ⟨F, j, none⟩ = false := frozen_of_row w F j _ _ h
theorem Frm.set0 {F : Nat} {w : World} {p n q : Int} {c : Bool} (h : Frm F w p n c) : Frm F (w.setCell ⟨F, 0, none⟩ (.int .i32 q)) q n c := heap_setCell_same w F 0 _ _ _ h
theorem Frm.set1 {F : Nat} {w : World} {p n q : Int} {c : Bool} (h : Frm F w p n c) : Frm F (w.setCell ⟨F, 1, none⟩ (.int .i64 q)) p q c := heap_setCell_same w F 1 _ _ _ h
theorem Frm.set2 {F : Nat} {w : World} {p n : Int} {c b : Bool} (h : Frm F w p n c) : Frm F (w.setCell ⟨F, 2, none⟩ (.bool b)) p n b := heap_setCell_same w F 2 _ _ _ h

set_option maxRecDepth 10000 in
theorem byte_on (z : Int) (h0 : 0 ≤ z) (h1 : z ≤ 255) : (bits .and .u8 z 192 != 128) = !decide (z / 64 = 2) := by
  obtain ⟨n, rfl⟩ := Int.eq_ofNat_of_zero_le h0
  have hd : ∀ m : Nat, m < 256 → (m &&& 192 = 128 ↔ m / 64 = 2) := by decide
  have h := hd n (by omega)
  have e : bits .and .u8 (n : Int) 192 = ((n &&& 192 : Nat) : Int) := u8_and_nat n 192 (by omega) (by omega)
  rw [e]
  by_cases hh : n / 64 = 2
  · rw [h.2 hh]; simp; omega
  · have : ¬ n &&& 192 = 128 := fun x => hh (h.1 x)
    have h2 : ¬ (n : Int) / 64 = 2 := by omega
    have h3 : ¬ ((n &&& 192 : Nat) : Int) = 128 := by omega
    simp [h2, h3]
theorem byte_low (z : Int) (h0 : 0 ≤ z) (h1 : z ≤ 255) : bits .and .u8 z 63 = z % 64 := by
  obtain ⟨n, rfl⟩ := Int.eq_ofNat_of_zero_le h0
  have e : bits .and .u8 (n : Int) 63 = ((n &&& 63 : Nat) : Int) := u8_and_nat n 63 (by omega) (by omega)
  have e2 : n &&& 63 = n % 64 := by simpa using Nat.and_two_pow_sub_one_eq_mod n 6
  rw [e, e2]; omega
theorem or_low (p z : Int) (h0 : 0 ≤ p) (h1 : p < 16777216) (hz0 : 0 ≤ z) (hz1 : z < 64) : bits .or .i32 (p * 64) z = p * 64 + z := by
  obtain ⟨n, rfl⟩ := Int.eq_ofNat_of_zero_le h0
  obtain ⟨m, rfl⟩ := Int.eq_ofNat_of_zero_le hz0
  have e : bits .or .i32 ((n * 64 : Nat) : Int) (m : Int) = ((n * 64 ||| m : Nat) : Int) := i32_or_nat (n * 64) m (by omega) (by omega)
  have e2 : n * 64 ||| m = n * 64 + m := by
    have := Nat.shiftLeft_add_eq_or_of_lt (i := 6) (b := m) (by omega) n
    rw [Nat.shiftLeft_eq] at this
    exact this.symm
  rw [e2] at e
  rw [show ((n : Int) * 64) = ((n * 64 : Nat) : Int) by omega, e]
  omega

set_option maxHeartbeats 1000000 in
set_option maxRecDepth 100000 in
theorem readOn_cut (F : Nat) (v : Value) (zs : List Int) (p : Int) (n : Nat) (c : Bool) (w : World) (hF : Frm F w p n c) (hv : RdB F w v zs) (hby : Bys zs) (_hm : zs.length ≤ 4194304) (_hn : n ≤ 4)
    (hc : zs.length ≤ n ∨ ¬ zs[n]?.getD 0 / 64 = 2) :
    Calls Tryz.prog 87 #[.pointer (some ⟨F, 0, none⟩), v] w fun e w' => e = .returned (.tuple #[]) ∧ Frm F w' p n true ∧ Below F w w' := by
  obtain ⟨a, cap, rfl, hr⟩ := hv
  have q0 := hF.c0
  have q1 := hF.c1
  have q2 := hF.c2
  have r2 := hF.fr 2
  have HF : Hid (Frm F w p n c) := hF
  clear hF
  by_cases hl : zs.length ≤ n
  · clear hc hr
    go_enter Tryz.func87, Tryz.ntmps87
    go_wp2
    first | go_end0 | refine bodyPost_ret (results_none rfl _ _ _) rfl ?_
    exact ⟨rfl, HF.out.set2, (Below.refl _ _).setCell (p := ⟨F, 2, none⟩) (Nat.le_refl _) _⟩
  · obtain ⟨b, off, rfl, hb, hcl⟩ := hr (fun h => by simp [h] at hl)
    have hcx := hcl n (by omega)
    have hcb := hby.get n
    have hne : ¬ zs[n]?.getD 0 / 64 = 2 := by omega
    generalize zs[n]?.getD 0 = z at hcx hcb hne
    have hbit : (bits .and .u8 z 192 != 128) = true := by rw [byte_on z hcb.1 hcb.2]; simp [hne]
    have hln : n < zs.length := by omega
    clear hc hr hcl hne hl
    go_enter Tryz.func87, Tryz.ntmps87
    go_wp2
    first | go_end0 | refine bodyPost_ret (results_none rfl _ _ _) rfl ?_
    exact ⟨rfl, HF.out.set2, (Below.refl _ _).setCell (p := ⟨F, 2, none⟩) (Nat.le_refl _) _⟩

set_option maxHeartbeats 1000000 in
set_option maxRecDepth 100000 in
theorem readOn_go (F : Nat) (v : Value) (zs : List Int) (p : Int) (n : Nat) (c : Bool) (w : World) (hF : Frm F w p n c) (hv : RdB F w v zs) (hby : Bys zs) (_hm : zs.length ≤ 4194304) (hn : n ≤ 4)
    (hln : n < zs.length) (hd : zs[n]?.getD 0 / 64 = 2) (hp0 : 0 ≤ p) (hp1 : p < 16777216) :
    Calls Tryz.prog 87 #[.pointer (some ⟨F, 0, none⟩), v] w fun e w' => e = .returned (.tuple #[]) ∧ Frm F w' (p * 64 + zs[n]?.getD 0 % 64) ((n : Int) + 1) c ∧ Below F w w' := by
  obtain ⟨a, cap, rfl, hr⟩ := hv
  have q0 := hF.c0
  have q1 := hF.c1
  have q2 := hF.c2
  have r0 := hF.fr 0
  have r1 := hF.fr 1
  have HF : Hid (Frm F w p n c) := hF
  clear hF
  obtain ⟨b, off, rfl, hb, hcl⟩ := hr (fun h => by simp [h] at hln)
  have hcx := hcl n hln
  have hcb := hby.get n
  generalize zs[n]?.getD 0 = z at hcx hcb hd
  have hbit : (bits .and .u8 z 192 != 128) = false := by rw [byte_on z hcb.1 hcb.2]; simp [hd]
  have hb2 : bits .and .u8 z 63 = z % 64 := byte_low z hcb.1 hcb.2
  have hb3 : bits .or .i32 (p * 64) (z % 64) = p * 64 + z % 64 := or_low p (z % 64) hp0 hp1 (by omega) (by omega)
  have hlt : (n : Int) < (zs.length : Int) := by omega
  have hbF : ¬ b = F := by omega
  obtain ⟨hz0, hz1⟩ := hcb
  clear hr hcl hd
  go_enter Tryz.func87, Tryz.ntmps87
  go_wp2
  go_region
  go_wp2
  go_end0
  exact ⟨rfl, HF.out.set0.set1, (((Below.refl F w).setCell (p := ⟨F, 0, none⟩) (Nat.le_refl _) _).setCell (p := ⟨F, 1, none⟩) (Nat.le_refl _) _).drew⟩

end Go.Proofs.YthcjmmpkgljjhaaGreatDoor

namespace Go.Proofs.YthcjmmpkgljjhaaGreatDoor
open Go.RowKit

set_option maxHeartbeats 400000 in
theorem isPoint_any (p : Int) (w : World) : Calls Tryz.prog 99 #[.int .i64 p] w fun e w' => e = .returned (.bool (isPt p)) ∧ w = w' := by
  by_cases h0 : 0 ≤ p
  · by_cases h1 : p ≤ 1114111
    · have HI : Hid (isPt p = true) := by simp [Hid, isPt, h0, h1]
      go_enter Tryz.func99, Tryz.ntmps99
      go_wp2
      go_ret
      exact ⟨by rw [HI.out]; rfl, rfl⟩
    · have HI : Hid (isPt p = false) := by simp [Hid, isPt]; omega
      go_enter Tryz.func99, Tryz.ntmps99
      go_wp2
      go_ret
      exact ⟨by rw [HI.out]; rfl, rfl⟩
  · have HI : Hid (isPt p = false) := by simp [Hid, isPt]; omega
    go_enter Tryz.func99, Tryz.ntmps99
    go_wp2
    go_ret
    exact ⟨by rw [HI.out]; rfl, rfl⟩

end Go.Proofs.YthcjmmpkgljjhaaGreatDoor

namespace Go.Proofs.YthcjmmpkgljjhaaGreatDoor
open Go.RowKit

set_option maxHeartbeats 400000 in
theorem isHigh_any (p : Int) (w : World) : Calls Tryz.prog 100 #[.int .i64 p] w fun e w' => e = .returned (.bool (isHi p)) ∧ w = w' := by
  by_cases h0 : 55296 ≤ p
  · by_cases h1 : p < 56320
    · have HI : Hid (isHi p = true) := by simp [Hid, isHi, h0, h1]
      go_enter Tryz.func100, Tryz.ntmps100
      go_wp2
      go_ret
      exact ⟨by rw [HI.out]; rfl, rfl⟩
    · have HI : Hid (isHi p = false) := by simp [Hid, isHi]; omega
      go_enter Tryz.func100, Tryz.ntmps100
      go_wp2
      go_ret
      exact ⟨by rw [HI.out]; rfl, rfl⟩
  · have HI : Hid (isHi p = false) := by simp [Hid, isHi]; omega
    go_enter Tryz.func100, Tryz.ntmps100
    go_wp2
    go_ret
    exact ⟨by rw [HI.out]; rfl, rfl⟩

end Go.Proofs.YthcjmmpkgljjhaaGreatDoor

namespace Go.Proofs.YthcjmmpkgljjhaaGreatDoor
open Go.RowKit

set_option maxHeartbeats 400000 in
theorem isLow_any (p : Int) (w : World) : Calls Tryz.prog 101 #[.int .i64 p] w fun e w' => e = .returned (.bool (isLo p)) ∧ w = w' := by
  by_cases h0 : 56320 ≤ p
  · by_cases h1 : p ≤ 57343
    · have HI : Hid (isLo p = true) := by simp [Hid, isLo, h0, h1]
      go_enter Tryz.func101, Tryz.ntmps101
      go_wp2
      go_ret
      exact ⟨by rw [HI.out]; rfl, rfl⟩
    · have HI : Hid (isLo p = false) := by simp [Hid, isLo]; omega
      go_enter Tryz.func101, Tryz.ntmps101
      go_wp2
      go_ret
      exact ⟨by rw [HI.out]; rfl, rfl⟩
  · have HI : Hid (isLo p = false) := by simp [Hid, isLo]; omega
    go_enter Tryz.func101, Tryz.ntmps101
    go_wp2
    go_ret
    exact ⟨by rw [HI.out]; rfl, rfl⟩

end Go.Proofs.YthcjmmpkgljjhaaGreatDoor

namespace Go.Proofs.YthcjmmpkgljjhaaGreatDoor
open Go.RowKit

set_option maxHeartbeats 400000 in
theorem hasForm_any (p : Int) (w : World) : Calls Tryz.prog 88 #[.int .i64 p] w fun e w' => e = .returned (.bool (okPt p)) ∧ w = w' := by
  have hnot : ∀ (x : Bool) (w : World), (Op.unary .not (.bool x)).run Tryz.prog w = .ok (.bool (!x)) w := fun _ _ => rfl
  have HO : Hid (okPt p = (isPt p && !isHi p && !isLo p)) := ok_parts p
  cases h1 : isPt p
  · go_enter Tryz.func88, Tryz.ntmps88
    go_wp2_with (go_at_call 99; refine (isPoint_any _ _).mono ?_; rintro e w' ⟨rfl, rfl⟩; rw [h1])
    go_ret
    exact ⟨by rw [HO.out, h1]; rfl, rfl⟩
  · cases h2 : isHi p
    · cases h3 : isLo p
      all_goals
        go_enter Tryz.func88, Tryz.ntmps88
        go_wp2_with (first
          | (go_at_call 99; refine (isPoint_any _ _).mono ?_; rintro e w' ⟨rfl, rfl⟩; rw [h1])
          | (go_at_call 100; refine (isHigh_any _ _).mono ?_; rintro e w' ⟨rfl, rfl⟩; rw [h2])
          | (go_at_call 101; refine (isLow_any _ _).mono ?_; rintro e w' ⟨rfl, rfl⟩; rw [h3]))
        go_ret
        exact ⟨by rw [HO.out, h1, h2, h3]; rfl, rfl⟩
    · go_enter Tryz.func88, Tryz.ntmps88
      go_wp2_with (first
        | (go_at_call 99; refine (isPoint_any _ _).mono ?_; rintro e w' ⟨rfl, rfl⟩; rw [h1])
        | (go_at_call 100; refine (isHigh_any _ _).mono ?_; rintro e w' ⟨rfl, rfl⟩; rw [h2]))
      go_ret
      exact ⟨by rw [HO.out, h1, h2]; rfl, rfl⟩

end Go.Proofs.YthcjmmpkgljjhaaGreatDoor

namespace Go.Proofs.YthcjmmpkgljjhaaGreatDoor
open Go.RowKit

/-- The table of the forms' ends, as it lies in block 0. -/
structure Tab (w : World) : Prop where
  c0 : w.cell? ⟨0, 0, none⟩ = some (.int .i32 0)
  c1 : w.cell? ⟨0, 1, none⟩ = some (.int .i32 128)
  c2 : w.cell? ⟨0, 2, none⟩ = some (.int .i32 2048)
  c3 : w.cell? ⟨0, 3, none⟩ = some (.int .i32 65536)
  c4 : w.cell? ⟨0, 4, none⟩ = some (.int .i32 2097152)
theorem Tab.keep {w w' : World} (h : Tab w) (hg : w.grownBy w' none) : Tab w' :=
  ⟨hg.cell h.c0 (by simp), hg.cell h.c1 (by simp), hg.cell h.c2 (by simp), hg.cell h.c3 (by simp), hg.cell h.c4 (by simp)⟩
theorem Tab.pos {w : World} (h : Tab w) : 0 < w.heap.size := World.block_lt_of_cell? w _ h.c0
theorem Tab.below {B : Nat} {w w' : World} (h : Tab w) (hg : Below B w w') (hB : 0 < B) : Tab w' :=
  ⟨(hg.cell hB).trans h.c0, (hg.cell hB).trans h.c1, (hg.cell hB).trans h.c2, (hg.cell hB).trans h.c3, (hg.cell hB).trans h.c4⟩

end Go.Proofs.YthcjmmpkgljjhaaGreatDoor

