import Derived.Test.YtdcajkgmhimffabDoorDec
namespace Go.Proofs.YtdcajkgmhimffabDoor
open Go.RowKit

/-- A reader's step: the byte at i (0 at the end) and where it stands then. -/
def nx (zs : List Int) (i : Nat) : Int × Nat := if i < zs.length then (zs[i]?.getD 0, i + 1) else (0, i)
theorem nx_bd {zs : List Int} (h : Bys zs) (i : Nat) : 0 ≤ (nx zs i).1 ∧ (nx zs i).1 ≤ 255 := by
  unfold nx; split
  · exact h.get i
  · simp
theorem nx_le {zs : List Int} {i : Nat} (h : i ≤ zs.length) : (nx zs i).2 ≤ zs.length := by
  unfold nx; split <;> simp only <;> omega

/-- A reader's box. -/
def Rdr (F : Nat) (w : World) (vb : Value) (i : Int) : Prop := w.heap[F]? = some (.cells #[vb, .int .i64 i] 52 (0, 0))
theorem Rdr.c0 {F : Nat} {w : World} {vb : Value} {i : Int} (h : Rdr F w vb i) : w.cell? ⟨F, 0, none⟩ = some vb := by rw [cell_of_row w F 0 _ _ _ h]; rfl
theorem Rdr.c1 {F : Nat} {w : World} {vb : Value} {i : Int} (h : Rdr F w vb i) : w.cell? ⟨F, 1, none⟩ = some (.int .i64 i) := by rw [cell_of_row w F 1 _ _ _ h]; rfl
theorem Rdr.fr {F : Nat} {w : World} {vb : Value} {i : Int} (h : Rdr F w vb i) (j : Nat) : w.frozen? ⟨F, j, none⟩ = false := frozen_of_row w F j _ _ h
theorem Rdr.set1 {F : Nat} {w : World} {vb : Value} {i q : Int} (h : Rdr F w vb i) : Rdr F (w.setCell ⟨F, 1, none⟩ (.int .i64 q)) vb q := heap_setCell_same w F 1 _ _ _ h
theorem Rdr.lt {F : Nat} {w : World} {vb : Value} {i : Int} (h : Rdr F w vb i) : F < w.heap.size := (Array.getElem?_eq_some_iff.1 h).1
theorem Rdr.kept {F : Nat} {w w' : World} {vb : Value} {i : Int} {row : Option Nat} (h : Rdr F w vb i) (hg : w.grownBy w' row) (hne : some F ≠ row) : Rdr F w' vb i := (hg.block F h.lt hne).trans h
theorem grown_set (w : World) (F j : Nat) (v : Value) : w.grownBy (w.setCell ⟨F, j, none⟩ v) (some F) :=
  ⟨rfl, rfl, rfl, by simp, fun k _ hk => heap_setCell_other w ⟨F, j, none⟩ k v (fun e => hk (by simp [e]))⟩
theorem grown_row {a b : World} (h : a.grownBy b none) (r : Option Nat) : a.grownBy b r := ⟨h.os, h.tape, h.output, h.size, fun k hk _ => h.block k hk (by simp)⟩

set_option maxHeartbeats 400000 in
set_option maxRecDepth 100000 in
theorem next_any (F : Nat) (v : Value) (zs : List Int) (i : Nat) (w : World) (hF : Rdr F w v i) (hv : RdB F w v zs) (hby : Bys zs) (hm : zs.length ≤ 4194304) (hi : i ≤ zs.length) :
    Calls Tryd.prog 18 #[.pointer (some ⟨F, 0, none⟩)] w fun e w' => e = .returned (.int .i64 (nx zs i).1) ∧ Rdr F w' v ((nx zs i).2 : Int) ∧ w.grownBy w' (some F) := by
  obtain ⟨a, cap, rfl, hr⟩ := hv
  have q0 := hF.c0
  have q1 := hF.c1
  have r1 := hF.fr 1
  have HF : Hid (Rdr F w (.slice a zs.length cap) i) := hF
  clear hF
  by_cases hlt : i < zs.length
  · have HN : Hid (nx zs i = (zs[i]?.getD 0, i + 1)) := by unfold Hid nx; rw [if_pos hlt]
    obtain ⟨b, off, rfl, hb, hcl⟩ := hr (fun h => by simp [h] at hlt)
    have hcx := hcl i hlt
    have hcb := hby.get i
    generalize zs[i]?.getD 0 = z at hcx hcb HN
    have hlt' : (i : Int) < (zs.length : Int) := by omega
    have hbF : ¬ b = F := by omega
    obtain ⟨hz0, hz1⟩ := hcb
    clear hr hcl
    go_enter Tryd.func18, Tryd.ntmps18
    go_wp2
    go_quiet (fail)
    go_wp2
    go_quiet (fail)
    go_wp2
    go_ret
    refine ⟨by rw [HN.out]; rfl, ?_, ?_⟩
    · rw [HN.out]; exact HF.out.set1
    · exact grown_trans (grown_row (grown_drewN (World.grownBy.refl w none) _) _) (grown_set _ F 1 _)
  · have HN : Hid (nx zs i = (0, i)) := by unfold Hid nx; rw [if_neg hlt]
    clear hr
    go_enter Tryd.func18, Tryd.ntmps18
    go_wp2
    go_quiet (fail)
    go_wp2
    go_ret
    refine ⟨by rw [HN.out]; rfl, ?_, ?_⟩
    · rw [HN.out]; exact HF.out
    · exact grown_drewN (World.grownBy.refl _ _) _

set_option maxHeartbeats 400000 in
set_option maxRecDepth 100000 in
theorem l1open_any (a : Option Addr) (cap : Nat) (zs : List Int) (w : World) (hm : zs.length ≤ 1048576) (hlc : zs.length ≤ cap) (hcm : cap ≤ 9223372036854775807) :
    Calls Tryd.prog 17 #[.slice a zs.length cap] w fun e w' => e = .returned (.pointer (some ⟨w.heap.size, 0, none⟩)) ∧ w.alloc (.cells #[.slice a (min 500 zs.length) cap, .int .i64 0] 52) = w' := by
  by_cases h : 500 < zs.length
  · have HE : Hid (min 500 zs.length = 500) := by unfold Hid; omega
    go_enter Tryd.func17, Tryd.ntmps17
    go_wp2
    go_ret
    exact ⟨rfl, by rw [HE.out]⟩
  · have HE : Hid (min 500 zs.length = zs.length) := by unfold Hid; omega
    go_enter Tryd.func17, Tryd.ntmps17
    go_wp2
    go_ret
    exact ⟨rfl, by rw [HE.out]⟩

end Go.Proofs.YtdcajkgmhimffabDoor
