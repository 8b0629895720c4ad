import Derived.Test.YtdcajkgmhimffabDoorDraw1
namespace Go.Proofs.YtdcajkgmhimffabDoor
open Go.RowKit

def oddL : List Int := [0, 9, 10, 13, 31, 32, 34, 39, 92, 47, 42, 127, 128, 160, 233, 2047, 2048, 8232, 8233, 65279, 65535, 65536, 128512, 1114111, 48, 57, 110, 117, 120, 36]
def surL : List Int := [55296, 56319, 56320, 57343]
/-- A drawn point, from the byte k. -/
def dpV (sur : Bool) (k : Int) : Int := if k < 150 then 97 + k % 20 else if k < 240 then oddL.getD (k % 30).toNat 0 else if sur then surL.getD (k % 4).toNat 0 else 945 + k % 16
def dp (zs : List Int) (sur : Bool) (i : Nat) : Int × Nat := (dpV sur (nx zs i).1, (nx zs i).2)

theorem lit_cell (W : World) (L : List Int) (t : TypeId) (j : Nat) (hj : j < L.length) (A : Array Value) (hA : A = (L.map (Value.int .i64)).toArray) :
    (W.alloc (.cells A t)).cell? ⟨W.heap.size, j, none⟩ = some (.int .i64 (L.getD j 0)) := by
  rw [cell_of_row (W.alloc (.cells A t)) W.heap.size j A t (0, 0) (heap_alloc_new W _), hA]
  simp [hj]
theorem odd_bd (j : Nat) : 0 ≤ oddL.getD j 0 ∧ oddL.getD j 0 ≤ 1114111 := by
  by_cases h : j < 30
  · have : ∀ m : Nat, m < 30 → 0 ≤ oddL.getD m 0 ∧ oddL.getD m 0 ≤ 1114111 := by decide
    exact this j h
  · rw [List.getD_eq_getElem?_getD, List.getElem?_eq_none (by simp [oddL]; omega)]; simp
theorem sur_bd (j : Nat) : 0 ≤ surL.getD j 0 ∧ surL.getD j 0 ≤ 1114111 := by
  by_cases h : j < 4
  · have : ∀ m : Nat, m < 4 → 0 ≤ surL.getD m 0 ∧ surL.getD m 0 ≤ 1114111 := by decide
    exact this j h
  · rw [List.getD_eq_getElem?_getD, List.getElem?_eq_none (by simp [surL]; omega)]; simp
theorem dp_bd (sur : Bool) (k : Int) (_h0 : 0 ≤ k) : 0 ≤ dpV sur k ∧ dpV sur k ≤ 1114111 := by
  unfold dpV
  split
  · omega
  · split
    · exact odd_bd _
    · split
      · exact sur_bd _
      · omega

set_option maxHeartbeats 1000000 in
set_option maxRecDepth 100000 in
theorem drawPoint_any (F : Nat) (v : Value) (zs : List Int) (i : Nat) (sur : Bool) (w : World) (hF : Rdr F w v i) (hv : RdB F w v zs) (hby : Bys zs) (hm : zs.length ≤ 4194304) (hi : i ≤ zs.length) :
    Calls Tryd.prog 32 #[.pointer (some ⟨F, 0, none⟩), .bool sur] w fun e w' => e = .returned (.int .i64 (dp zs sur i).1) ∧ Rdr F w' v ((dp zs sur i).2 : Int) ∧ w.grownBy w' (some F) := by
  have hnot : ∀ (x : Bool) (w : World), (Op.unary .not (.bool x)).run Tryd.prog w = .ok (.bool (!x)) w := fun _ _ => rfl
  have hkb := nx_bd hby i
  have hnx := next_any F v zs i w hF hv hby hm hi
  have HP : Hid (dp zs sur i = (dpV sur (nx zs i).1, (nx zs i).2)) := rfl
  generalize (nx zs i).1 = k at hkb hnx HP
  generalize (nx zs i).2 = j at hnx HP
  obtain ⟨hk0, hk1⟩ := hkb
  clear hF hv
  by_cases h1 : k < 150
  · have HD : Hid (dpV sur k = 97 + k % 20) := by unfold Hid dpV; rw [if_pos h1]
    go_enter Tryd.func32, Tryd.ntmps32
    go_wp2_with (go_at_call 18; refine hnx.mono ?_; rintro e w1 ⟨rfl, f1, g1⟩)
    go_ret
    exact ⟨by rw [HP.out, HD.out]; rfl, by rw [HP.out]; exact f1, g1⟩
  · by_cases h2 : k < 240
    · have HD : Hid (dpV sur k = oddL.getD (k % 30).toNat 0) := by unfold Hid dpV; rw [if_neg h1, if_pos h2]
      have hcell := fun W => lit_cell W oddL 3 (k % 30).toNat (by simp [oddL]; omega) _ rfl
      unfold oddL at hcell
      simp only [List.map_cons, List.map_nil] at hcell
      generalize hval : [0, 9, 10, 13, 31, 32, 34, 39, 92, 47, 42, 127, 128, 160, 233, 2047, 2048, 8232, 8233, 65279, 65535, 65536, 128512, 1114111, 48, 57, 110, 117, 120, 36].getD (k % 30).toNat (0 : Int) = y at hcell
      have HV : Hid (oddL.getD (k % 30).toNat 0 = y) := hval
      clear hval
      go_enter Tryd.func32, Tryd.ntmps32
      go_wp2_with (go_at_call 18; refine hnx.mono ?_; rintro e w1 ⟨rfl, f1, g1⟩)
      go_ret
      exact ⟨by rw [HP.out, HD.out, HV.out]; rfl, by rw [HP.out]; exact f1.kept (World.grownBy_alloc _ _ none) (by simp), grown_trans g1 (World.grownBy_alloc _ _ _)⟩
    · cases sur
      · have HD : Hid (dpV false k = 945 + k % 16) := by unfold Hid dpV; rw [if_neg h1, if_neg h2]; rfl
        go_enter Tryd.func32, Tryd.ntmps32
        go_wp2_with (go_at_call 18; refine hnx.mono ?_; rintro e w1 ⟨rfl, f1, g1⟩)
        go_ret
        exact ⟨by rw [HP.out, HD.out]; rfl, by rw [HP.out]; exact f1.kept (World.grownBy_alloc _ _ none) (by simp), grown_trans g1 (World.grownBy_alloc _ _ _)⟩
      · have HD : Hid (dpV true k = surL.getD (k % 4).toNat 0) := by unfold Hid dpV; rw [if_neg h1, if_neg h2]; rfl
        have hcell := fun (w1 : World) (o : Obj) => lit_cell (w1.alloc o) surL 3 (k % 4).toNat (by simp [surL]; omega) _ rfl
        unfold surL at hcell
        simp only [List.map_cons, List.map_nil, World.size_alloc] at hcell
        generalize hval : [55296, 56319, 56320, 57343].getD (k % 4).toNat (0 : Int) = y at hcell
        have HV : Hid (surL.getD (k % 4).toNat 0 = y) := hval
        clear hval
        go_enter Tryd.func32, Tryd.ntmps32
        go_wp2_with (go_at_call 18; refine hnx.mono ?_; rintro e w1 ⟨rfl, f1, g1⟩)
        go_ret
        exact ⟨by rw [HP.out, HD.out, HV.out]; rfl, by rw [HP.out]; exact (f1.kept (World.grownBy_alloc _ _ none) (by simp)).kept (World.grownBy_alloc _ _ none) (by simp), grown_trans (grown_trans g1 (World.grownBy_alloc _ _ _)) (World.grownBy_alloc _ _ _)⟩

end Go.Proofs.YtdcajkgmhimffabDoor
