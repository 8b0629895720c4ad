import Derived.Test.YtkkcnpokobndcaaDoorFsCra
namespace Go.Proofs.YtkkcnpokobndcaaDoor
open Go.RowKit
attribute [-go_sem] Builtin.append_

/-- What FsCrash answers. -/
def craF (fs : List Fl) (keep : Int) : List Fl := if validF fs && decide (0 ≤ keep) then crashF keep fs else []
def craC (fs : List Fl) (keep : Int) : Int := if validF fs && decide (0 ≤ keep) then 0 else 1

set_option maxHeartbeats 8000000 in
set_option maxRecDepth 100000 in
theorem specCrash_any (v : Value) (fs : List Fl) (keep : Int) (w : World) (hv : RdF w.heap.size w v fs) (hd : Fss fs) (hk2 : keep ≤ 9223372036854775807) :
    Calls Tryd.prog 18 #[.agg #[v], .int .i64 keep] w fun e w' => ∃ v', e = .returned (.tuple #[.agg #[v'], .int .i64 (craC fs keep)]) ∧ OwF w.heap.size w' v' (craF fs keep) ∧ w.grownBy w' none := by
  obtain ⟨a, cap, hv0, _⟩ := id hv
  have HV : Hid (∀ w', w.grownBy w' none → Calls Tryd.prog 28 #[.agg #[v]] w' fun e w'' => e = .returned (.bool (validF fs)) ∧ w'.grownBy w'' none) := fun w' g => specValid_any v fs w' (hv.now g) hd
  have HK : Hid (∀ w', w.grownBy w' none → 0 ≤ keep → validF fs = true → Calls Tryd.prog 39 #[.agg #[v], .int .i64 keep] w' fun e w'' => ∃ v', e = .returned (.agg #[v']) ∧ OwF w'.heap.size w'' v' (crashF keep fs) ∧ w'.grownBy w'' none) := fun w' g h1 h2 => l7crash_any v fs keep w' (hv.now g) hd h1 hk2 h2
  subst hv0
  clear hv
  by_cases h1 : validF fs = true
  · have hval := hide h1
    rw [h1] at HV
    by_cases h2 : 0 ≤ keep
    · have HC : Hid (craC fs keep = 0) := by unfold Hid craC; rw [h1, decide_eq_true h2]; rfl
      have HL : Hid (craF fs keep = crashF keep fs) := by unfold Hid craF; rw [h1, decide_eq_true h2]; rfl
      clear h1
      go_enter Tryd.func18, Tryd.ntmps18
      go_wp2_with fail
      have CX0 := hide (FsCtx.start w (.slice a fs.length cap))
      refine (HV.out _ CX0.out.g).mono ?_
      rintro e w1 ⟨rfl, g1⟩
      have CX := hide (CX0.out.later g1)
      have cp := CX.out.p
      clear g1 CX0
      go_wp2_with fail
      refine (HK.out _ CX.out.g h2 hval.out).mono ?_
      rintro e w5 ⟨v5, rfl, o5, g5⟩
      have HO5 := hide o5
      have HS5 : Hid (w.heap.size + 2 ≤ (_)) := CX.out.s
      have CX := hide (CX.out.later g5)
      obtain ⟨a5, c5, e5, _⟩ := o5.rd
      subst e5
      clear o5 g5
      have rr := CX.out.r
      have rf := CX.out.f
      go_wp2
      refine bodyPost_ret (v := .tuple #[.agg #[(.slice a5 (crashF keep fs).length c5)], .int .i64 0]) (by simp [results, Tryd.results18, go_sem, rr]) rfl ?_
      exact ⟨_, by rw [HC.out], by rw [HL.out]; exact (CX.out.ends HO5.out HS5.out _).1, (CX.out.ends HO5.out HS5.out _).2⟩
    · have HC : Hid (craC fs keep = 1) := by unfold Hid craC; rw [decide_eq_false h2]; simp
      have HL : Hid (craF fs keep = []) := by unfold Hid craF; rw [decide_eq_false h2]; simp
      clear h1
      go_enter Tryd.func18, Tryd.ntmps18
      go_wp2_with fail
      have CX0 := hide (FsCtx.start w (.slice a fs.length cap))
      refine (HV.out _ CX0.out.g).mono ?_
      rintro e w1 ⟨rfl, g1⟩
      have CX := hide (CX0.out.later g1)
      have cp := CX.out.p
      clear g1 CX0
      have rr := CX.out.r
      have rf := CX.out.f
      go_wp2
      refine bodyPost_ret (v := .tuple #[.agg #[(.slice none 0 0)], .int .i64 1]) (by simp [results, Tryd.results18, go_sem, rr]) rfl ?_
      exact ⟨_, by rw [HC.out], by rw [HL.out]; exact (CX.out.ends (OwF.nil (w.heap.size + 2) _) (Nat.le_refl _) _).1, (CX.out.ends (OwF.nil (w.heap.size + 2) _) (Nat.le_refl _) _).2⟩
  · rw [show validF fs = false by simpa using h1] at HV
    have h1b : validF fs = false := by simpa using h1
    have HC : Hid (craC fs keep = 1) := by unfold Hid craC; rw [h1b]; simp
    have HL : Hid (craF fs keep = []) := by unfold Hid craF; rw [h1b]; simp
    go_enter Tryd.func18, Tryd.ntmps18
    go_wp2_with fail
    have CX0 := hide (FsCtx.start w (.slice a fs.length cap))
    refine (HV.out _ CX0.out.g).mono ?_
    rintro e w1 ⟨rfl, g1⟩
    have CX := hide (CX0.out.later g1)
    have cp := CX.out.p
    clear g1 CX0
    have rr := CX.out.r
    have rf := CX.out.f
    go_wp2
    refine bodyPost_ret (v := .tuple #[.agg #[(.slice none 0 0)], .int .i64 1]) (by simp [results, Tryd.results18, go_sem, rr]) rfl ?_
    exact ⟨_, by rw [HC.out], by rw [HL.out]; exact (CX.out.ends (OwF.nil (w.heap.size + 2) _) (Nat.le_refl _) _).1, (CX.out.ends (OwF.nil (w.heap.size + 2) _) (Nat.le_refl _) _).2⟩

end Go.Proofs.YtkkcnpokobndcaaDoor
