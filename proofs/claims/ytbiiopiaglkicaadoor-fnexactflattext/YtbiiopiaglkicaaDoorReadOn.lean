import Derived.Test.YtbiiopiaglkicaaDoorBits
import Derived.Test.YtbiiopiaglkicaaDoorDec
namespace Go.Proofs.YtbiiopiaglkicaaDoor
open Go.RowKit

/-- The box of a form that is being read. -/
def Frm (F : Nat) (w : World) (p n : Int) (c : Bool) : Prop := w.heap[F]? = some (.cells #[.int .i32 p, .int .i64 n, .bool c] 182 (0, 0))
theorem Frm.c0 {F : Nat} {w : World} {p n : Int} {c : Bool} (h : Frm F w p n c) : w.cell? ⟨F, 0, none⟩ = some (.int .i32 p) := by rw [cell_of_row w F 0 _ _ _ h]; rfl
theorem Frm.c1 {F : Nat} {w : World} {p n : Int} {c : Bool} (h : Frm F w p n c) : w.cell? ⟨F, 1, none⟩ = some (.int .i64 n) := by rw [cell_of_row w F 1 _ _ _ h]; rfl
theorem Frm.c2 {F : Nat} {w : World} {p n : Int} {c : Bool} (h : Frm F w p n c) : w.cell? ⟨F, 2, none⟩ = some (.bool c) := by rw [cell_of_row w F 2 _ _ _ h]; rfl
theorem Frm.fr {F : Nat} {w : World} {p n : Int} {c : Bool} (h : Frm F w p n c) (j : Nat) : w.frozen? ⟨F, j, none⟩ = false := frozen_of_row w F j _ _ h
theorem Frm.set0 {F : Nat} {w : World} {p n q : Int} {c : Bool} (h : Frm F w p n c) : Frm F (w.setCell ⟨F, 0, none⟩ (.int .i32 q)) q n c := heap_setCell_same w F 0 _ _ _ h
theorem Frm.set1 {F : Nat} {w : World} {p n q : Int} {c : Bool} (h : Frm F w p n c) : Frm F (w.setCell ⟨F, 1, none⟩ (.int .i64 q)) p q c := heap_setCell_same w F 1 _ _ _ h
theorem Frm.set2 {F : Nat} {w : World} {p n : Int} {c b : Bool} (h : Frm F w p n c) : Frm F (w.setCell ⟨F, 2, none⟩ (.bool b)) p n b := heap_setCell_same w F 2 _ _ _ h

set_option maxRecDepth 10000 in
theorem byte_on (z : Int) (h0 : 0 ≤ z) (h1 : z ≤ 255) : (bits .and .u8 z 192 != 128) = !decide (z / 64 = 2) := by
  obtain ⟨n, rfl⟩ := Int.eq_ofNat_of_zero_le h0
  have hd : ∀ m : Nat, m < 256 → (m &&& 192 = 128 ↔ m / 64 = 2) := by decide
  have h := hd n (by omega)
  have e : bits .and .u8 (n : Int) 192 = ((n &&& 192 : Nat) : Int) := u8_and_nat n 192 (by omega) (by omega)
  rw [e]
  by_cases hh : n / 64 = 2
  · rw [h.2 hh]; simp; omega
  · have : ¬ n &&& 192 = 128 := fun x => hh (h.1 x)
    have h2 : ¬ (n : Int) / 64 = 2 := by omega
    have h3 : ¬ ((n &&& 192 : Nat) : Int) = 128 := by omega
    simp [h2, h3]
theorem byte_low (z : Int) (h0 : 0 ≤ z) (h1 : z ≤ 255) : bits .and .u8 z 63 = z % 64 := by
  obtain ⟨n, rfl⟩ := Int.eq_ofNat_of_zero_le h0
  have e : bits .and .u8 (n : Int) 63 = ((n &&& 63 : Nat) : Int) := u8_and_nat n 63 (by omega) (by omega)
  have e2 : n &&& 63 = n % 64 := by simpa using Nat.and_two_pow_sub_one_eq_mod n 6
  rw [e, e2]; omega
theorem or_low (p z : Int) (h0 : 0 ≤ p) (h1 : p < 16777216) (hz0 : 0 ≤ z) (hz1 : z < 64) : bits .or .i32 (p * 64) z = p * 64 + z := by
  obtain ⟨n, rfl⟩ := Int.eq_ofNat_of_zero_le h0
  obtain ⟨m, rfl⟩ := Int.eq_ofNat_of_zero_le hz0
  have e : bits .or .i32 ((n * 64 : Nat) : Int) (m : Int) = ((n * 64 ||| m : Nat) : Int) := i32_or_nat (n * 64) m (by omega) (by omega)
  have e2 : n * 64 ||| m = n * 64 + m := by
    have := Nat.shiftLeft_add_eq_or_of_lt (i := 6) (b := m) (by omega) n
    rw [Nat.shiftLeft_eq] at this
    exact this.symm
  rw [e2] at e
  rw [show ((n : Int) * 64) = ((n * 64 : Nat) : Int) by omega, e]
  omega

set_option maxHeartbeats 1000000 in
set_option maxRecDepth 100000 in
theorem readOn_cut (F : Nat) (v : Value) (zs : List Int) (p : Int) (n : Nat) (c : Bool) (w : World) (hF : Frm F w p n c) (hv : RdB F w v zs) (hby : Bys zs) (_hm : zs.length ≤ 4194304) (_hn : n ≤ 4)
    (hc : zs.length ≤ n ∨ ¬ zs[n]?.getD 0 / 64 = 2) :
    Calls Tryd.prog 109 #[.pointer (some ⟨F, 0, none⟩), v] w fun e w' => e = .returned (.tuple #[]) ∧ Frm F w' p n true ∧ Below F w w' := by
  obtain ⟨a, cap, rfl, hr⟩ := hv
  have q0 := hF.c0
  have q1 := hF.c1
  have q2 := hF.c2
  have r2 := hF.fr 2
  have HF : Hid (Frm F w p n c) := hF
  clear hF
  by_cases hl : zs.length ≤ n
  · clear hc hr
    go_enter Tryd.func109, Tryd.ntmps109
    go_wp2
    first | go_end0 | refine bodyPost_ret (results_none rfl _ _ _) rfl ?_
    exact ⟨rfl, HF.out.set2, (Below.refl _ _).setCell (p := ⟨F, 2, none⟩) (Nat.le_refl _) _⟩
  · obtain ⟨b, off, rfl, hb, hcl⟩ := hr (fun h => by simp [h] at hl)
    have hcx := hcl n (by omega)
    have hcb := hby.get n
    have hne : ¬ zs[n]?.getD 0 / 64 = 2 := by omega
    generalize zs[n]?.getD 0 = z at hcx hcb hne
    have hbit : (bits .and .u8 z 192 != 128) = true := by rw [byte_on z hcb.1 hcb.2]; simp [hne]
    have hln : n < zs.length := by omega
    clear hc hr hcl hne hl
    go_enter Tryd.func109, Tryd.ntmps109
    go_wp2
    first | go_end0 | refine bodyPost_ret (results_none rfl _ _ _) rfl ?_
    exact ⟨rfl, HF.out.set2, (Below.refl _ _).setCell (p := ⟨F, 2, none⟩) (Nat.le_refl _) _⟩

set_option maxHeartbeats 1000000 in
set_option maxRecDepth 100000 in
theorem readOn_go (F : Nat) (v : Value) (zs : List Int) (p : Int) (n : Nat) (c : Bool) (w : World) (hF : Frm F w p n c) (hv : RdB F w v zs) (hby : Bys zs) (_hm : zs.length ≤ 4194304) (hn : n ≤ 4)
    (hln : n < zs.length) (hd : zs[n]?.getD 0 / 64 = 2) (hp0 : 0 ≤ p) (hp1 : p < 16777216) :
    Calls Tryd.prog 109 #[.pointer (some ⟨F, 0, none⟩), v] w fun e w' => e = .returned (.tuple #[]) ∧ Frm F w' (p * 64 + zs[n]?.getD 0 % 64) ((n : Int) + 1) c ∧ Below F w w' := by
  obtain ⟨a, cap, rfl, hr⟩ := hv
  have q0 := hF.c0
  have q1 := hF.c1
  have q2 := hF.c2
  have r0 := hF.fr 0
  have r1 := hF.fr 1
  have HF : Hid (Frm F w p n c) := hF
  clear hF
  obtain ⟨b, off, rfl, hb, hcl⟩ := hr (fun h => by simp [h] at hln)
  have hcx := hcl n hln
  have hcb := hby.get n
  generalize zs[n]?.getD 0 = z at hcx hcb hd
  have hbit : (bits .and .u8 z 192 != 128) = false := by rw [byte_on z hcb.1 hcb.2]; simp [hd]
  have hb2 : bits .and .u8 z 63 = z % 64 := byte_low z hcb.1 hcb.2
  have hb3 : bits .or .i32 (p * 64) (z % 64) = p * 64 + z % 64 := or_low p (z % 64) hp0 hp1 (by omega) (by omega)
  have hlt : (n : Int) < (zs.length : Int) := by omega
  have hbF : ¬ b = F := by omega
  obtain ⟨hz0, hz1⟩ := hcb
  clear hr hcl hd
  go_enter Tryd.func109, Tryd.ntmps109
  go_wp2
  go_region
  go_wp2
  go_end0
  exact ⟨rfl, HF.out.set0.set1, (((Below.refl F w).setCell (p := ⟨F, 0, none⟩) (Nat.le_refl _) _).setCell (p := ⟨F, 1, none⟩) (Nat.le_refl _) _).drew⟩

end Go.Proofs.YtbiiopiaglkicaaDoor
