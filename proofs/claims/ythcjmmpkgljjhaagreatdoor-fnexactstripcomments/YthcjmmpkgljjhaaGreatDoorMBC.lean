import Derived.Test.YthcjmmpkgljjhaaGreatDoorMAX
import Derived.Test.YthcjmmpkgljjhaaGreatDoorMBB
namespace Go.Proofs.YthcjmmpkgljjhaaGreatDoor
open Go.RowKit

/-- What is known of a tree. -/
structure TreOk (t : Tre) : Prop where
  n : NsOk t.nodes
  l : t.nodes.length ≤ 1048576
  t : t.tail.length ≤ 1048576 ∧ CsOk t.tail

/-- The program's answer. -/
noncomputable def validI (t : Tre) : Bool :=
  decide (t.nodes.length ≤ 4000) && (match walkL (chkP comI numI) 201 false (t.nodes, (4000, 100000)) with
    | some ([], s) => (comP comI t.tail s).isSome
    | _ => false)

theorem grown_above {a b c : World} {h : Nat} (g : a.grownBy b none) (k : b.grownBy c (some h)) (hh : a.heap.size ≤ h) : a.grownBy c none :=
  ⟨k.os.trans g.os, k.tape.trans g.tape, k.output.trans g.output, Nat.le_trans g.size k.size, fun i hi _ => (k.block i (Nat.lt_of_lt_of_le hi g.size) (by simp only [ne_eq, Option.some.injEq]; omega)).trans (g.block i hi (by simp))⟩

set_option maxHeartbeats 4000000 in
set_option maxRecDepth 100000 in
theorem implValidTree_any (nv tv : Value) (t : Tre) (m : Int) (w : World) (hv : RdT' w.heap.size w nv tv t) (ho : TreOk t) (hT : Tab w) (hM : w.cell? ⟨1, 0, none⟩ = some (.int .i64 m)) :
    Calls Tryz.prog 17 #[.agg #[nv, tv]] w fun e w' => e = .returned (.bool (validI t)) ∧ w.grownBy w' none := by
  obtain ⟨hvn, hvt⟩ := hv
  obtain ⟨na, ncap, hn0, _⟩ := id hvn
  obtain ⟨ta, tcap, ht0, _⟩ := id hvt
  have hsz : 2 ≤ w.heap.size := World.block_lt_of_cell? w _ hM
  have HN := hide hvn
  have HT := hide hvt
  have HO := hide ho
  have HX : Hid (Cx w w.heap.size m) := ⟨hT, hM, hsz, Nat.le_refl _⟩
  have hl := ho.l
  subst hn0 ht0
  clear hvn hvt hT hM ho
  by_cases hbig : 4000 < t.nodes.length
  · have HF : Hid (validI t = false) := by unfold Hid validI; rw [decide_eq_false (by omega)]; rfl
    go_enter Tryz.func17, Tryz.ntmps17
    go_wp2
    go_ret
    exact ⟨by rw [HF.out]; rfl, World.grownBy_alloc _ _ _⟩
  · have hle : t.nodes.length ≤ 4000 := by omega
    go_enter Tryz.func17, Tryz.ntmps17
    go_wp2_with fail
    obtain ⟨W1, hW1⟩ : ∃ W1, W1 = w.alloc (Obj.cells #[Value.slice na t.nodes.length ncap, Value.slice ta t.tail.length tcap] 30) := ⟨_, rfl⟩
    obtain ⟨W2, hW2⟩ : ∃ W2, W2 = W1.alloc (Obj.cells #[Value.slice na t.nodes.length ncap, Value.int IntKind.i64 4000, Value.int IntKind.i64 100000] 67) := ⟨_, rfl⟩
    have g12 : w.grownBy W2 none := by rw [hW2, hW1]; exact grown_trans (World.grownBy_alloc _ _ _) (World.grownBy_alloc _ _ _)
    have s2 : W2.heap.size = w.heap.size + 2 := by rw [hW2, hW1]; simp
    have hK : Ck W2 (w.heap.size + 1) (.slice na t.nodes.length ncap) 4000 100000 := by
      rw [hW2, hW1]
      exact ⟨by simp [go_sem], by simp [go_sem], by simp [go_sem], by simp [go_sem], by simp [go_sem], by simp [go_sem]⟩
    have d1 : W2.cell? ⟨w.heap.size, 1, none⟩ = some (.slice ta t.tail.length tcap) := by rw [hW2, hW1]; simp [go_sem]
    rw [← hW1, ← hW2]
    clear hW2 hW1
    refine (takeValue_any (w.heap.size + 1) w.heap.size m (by omega) 200 (Nat.le_refl _) false _ t.nodes 4000 100000 W2 hK (HX.out.below ((below_of_grown g12).mono (Nat.le_refl _)) (by omega)) (HN.out.keep g12) HO.out.n HO.out.l (by omega) (by omega)).mono ?_
    rintro e w3 ⟨b, v3, R3, P3, c3, r3, rfl, k3, hres, hyes, g3⟩
    have d3 : w3.cell? ⟨w.heap.size, 1, none⟩ = some (.slice ta t.tail.length tcap) := g3.cell d1 (by simp)
    have G3 := hide (grown_above g12 g3 (by omega))
    cases b with
    | false =>
      have HF : Hid (validI t = false) := by unfold Hid validI; rw [hres, Bool.and_eq_false_iff]; exact .inr rfl
      clear hyes hres k3 g3
      go_wp2
      go_ret
      exact ⟨by rw [HF.out]; rfl, G3.out⟩
    | true =>
      obtain ⟨hR3, hP3, hc3, hr3⟩ := hyes rfl
      obtain ⟨a3, cap3, hv3, _⟩ := id hR3
      have z0 := k3.n
      cases R3 with
      | cons n R =>
        have HF : Hid (validI t = false) := by unfold Hid validI; rw [hres, Bool.and_eq_false_iff]; exact .inr rfl
        have hlr : ((n :: R).length : Int) ≠ 0 := by simp only [List.length_cons]; omega
        have hne : (((n :: R).length : Int) == 0) = false := by simpa using hlr
        subst hv3
        generalize (n :: R).length = L at *
        clear hyes hres k3 g3
        go_wp2
        go_ret
        exact ⟨by rw [HF.out]; rfl, G3.out⟩
      | nil =>
        subst hv3
        have HTC := hide (takeComments_any (w.heap.size + 1) (.slice a3 0 cap3) (.slice ta t.tail.length tcap) t.tail c3 r3 m w.heap.size w3 k3 (HX.out.below ((below_of_grown G3.out).mono (Nat.le_refl _)) G3.out.size) (HT.out.keep G3.out) (by omega) HO.out.t.1 HO.out.t.2 hr3 (by omega))
        have HVI : Hid (validI t = (comP comI t.tail (c3, r3)).isSome) := by unfold Hid validI; rw [hres, decide_eq_true hle]; rfl
        clear hyes hres k3 g3 hR3
        go_wp2_with fail
        refine HTC.out.mono ?_
        rintro e w4 ⟨b, c4, r4, rfl, k4, hcom, g4⟩
        have HB : Hid (validI t = b) := by unfold Hid; rw [HVI.out, hcom]; cases b <;> rfl
        have G4 := hide (grown_above G3.out g4 (by omega))
        clear hcom k4 g4
        go_wp2
        go_ret
        exact ⟨by rw [HB.out]; rfl, G4.out⟩
end Go.Proofs.YthcjmmpkgljjhaaGreatDoor

