import Derived.Test.YtkkcnpokobndcaaFsLawK
import Derived.Test.YtkkcnpokobndcaaFsValid
import Derived.Test.YtkkcnpokobndcaaOrdI
namespace Go.Proofs.Ytkkcnpokobndcaa
open Go.RowKit

/-- What is asked of the program. -/
def ImplValidFs : Prop := ∀ (fs : List Fl), Fss fs → ∀ (u : Value) (w' : World), RdF w'.heap.size w' u fs → Calls Try.prog 7 #[.agg #[u]] w' fun e w'' => e = .returned (.bool (validF fs)) ∧ w'.grownBy w'' none

set_option maxHeartbeats 8000000 in
set_option maxRecDepth 100000 in
theorem lawValidFs (v : Value) (fs : List Fl) (w : World) (hv : RdF w.heap.size w v fs) (hby : ∀ p ∈ fs, Byt p.n ∧ Byt p.d) (himpl : Fss fs → ∀ (u : Value) (w' : World), RdF w'.heap.size w' u fs → Calls Try.prog 7 #[.agg #[u]] w' fun e w'' => e = .returned (.bool (validF fs)) ∧ w'.grownBy w'' none) :
    Calls Try.prog 3 #[.agg #[v]] w fun e w' => e = .returned (.bool true) ∧ Below w.heap.size w w' := by
  obtain ⟨a, cap, e0, hcap, hmax, _⟩ := id hv
  unfold maxLen at hmax
  have HSZ := hide (fun w' (g : w.grownBy w' none) => szFs_any v fs 1048576 w' (hv.now g) (by omega) (by omega))
  have hbd := szB_bd (fs.length + tot fs) 1048576 (by omega)
  by_cases h0 : szB (fs.length + tot fs) 1048576 < 0
  · subst e0
    generalize szB (fs.length + tot fs) 1048576 = sz at *
    clear himpl hv
    go_enter Try.func3, Try.ntmps3
    go_wp2_with fail
    refine (HSZ.out _ (World.grownBy_alloc _ _ _)).mono ?_
    rintro e w1 ⟨rfl, g1⟩
    go_wp2
    go_ret
    exact ⟨rfl, below_of_grown (grown_trans (World.grownBy_alloc _ _ _) g1)⟩
  have hle := (szB_pos h0).2
  have hd : Fss fs := ⟨by omega, fun p hp => by have := tot_mem fs p hp; omega, hby⟩
  have HD : Hid (Fss fs) := hd
  have HI := hide (himpl hd)
  have HS : Hid (∀ (u : Value) (w' : World), RdF w'.heap.size w' u fs → Calls Try.prog 5 #[.agg #[u]] w' fun e w'' => e = .returned (.bool (validF fs)) ∧ w'.grownBy w'' none) := fun u w' h => specValid_any u fs w' h hd
  have hnot : ∀ (x : Bool) (w : World), (Op.unary .not (.bool x)).run Try.prog w = .ok (.bool (!x)) w := fun _ _ => rfl
  generalize validF fs = rr at *
  have hne : (rr != rr) = false := by simp
  have HV := hide hv
  subst e0
  generalize szB (fs.length + tot fs) 1048576 = sz at *
  clear hd himpl hby hv
  go_enter Try.func3, Try.ntmps3
  go_wp2_with fail
  refine (HSZ.out _ (World.grownBy_alloc _ _ _)).mono ?_
  rintro e w1 ⟨rfl, g1⟩
  have ca : w1.cell? ⟨w.heap.size, 0, none⟩ = some (.slice a fs.length cap) := g1.cell (by simp [go_sem]) (by simp)
  have tB := below_of_grown (grown_trans (World.grownBy_alloc w (Obj.cells #[.slice a fs.length cap] 24) none) g1)
  have zz1 : Hid (w.heap.size + 1 ≤ w1.heap.size) := by have := g1.size; first | exact this | (simp only [World.size_alloc] at this; exact this)
  clear g1
  go_wp2_with fail
  refine (toFs_any _ fs _ ((HV.out.belowB tB).wide tB.size) HD.out.len HD.out.tlen).mono ?_
  rintro e w2 ⟨vvos0, rfl, os0, g⟩
  have zz2 : Hid (w1.heap.size ≤ w2.heap.size) := by have := g.size; first | exact this | (simp only [World.size_alloc] at this; exact this)
  have ca := g.cell ca (by simp)
  have tB := tB.grown g tB.size (fun k e => by cases e)
  clear g
  go_wp2_with fail
  refine (HS.out _ _ os0.rd).mono ?_
  rintro e w3 ⟨rfl, g⟩
  clear os0
  have zz3 : Hid (w2.heap.size ≤ w3.heap.size) := by have := g.size; first | exact this | (simp only [World.size_alloc] at this; exact this)
  have ca := g.cell ca (by simp)
  have tB := tB.grown g tB.size (fun k e => by cases e)
  clear g
  go_wp2_with fail
  refine (toFs_any _ fs _ ((HV.out.belowB tB).wide tB.size) HD.out.len HD.out.tlen).mono ?_
  rintro e w4 ⟨vvox0, rfl, ox0, g⟩
  have zz4 : Hid (w3.heap.size ≤ w4.heap.size) := by have := g.size; first | exact this | (simp only [World.size_alloc] at this; exact this)
  have ca := g.cell ca (by simp)
  have tB := tB.grown g tB.size (fun k e => by cases e)
  clear g
  obtain ⟨xxa, xxc, q, _⟩ := ox0.rd
  subst q
  have gv := World.grownBy_alloc w4 (Obj.cells #[.slice xxa fs.length xxc] 29) none
  have cx : (w4.alloc (Obj.cells #[.slice xxa fs.length xxc] 29)).cell? ⟨w4.heap.size, 0, none⟩ = some (.slice xxa fs.length xxc) := by simp [go_sem]
  have ox0 := ox0.later gv
  have ca := gv.cell ca (by simp)
  have tB := tB.grown gv tB.size (fun k e => by cases e)
  clear gv
  go_wp2_with fail
  refine (HI.out _ _ ox0.rd).mono ?_
  rintro e w5 ⟨rfl, g⟩
  have zz5 : Hid (w4.heap.size + 1 ≤ w5.heap.size) := by have := g.size; first | exact this | (simp only [World.size_alloc] at this; exact this)
  have ox0 := ox0.later g
  have ca := g.cell ca (by simp)
  have cx := g.cell cx (by simp)
  have tB := tB.grown g tB.size (fun k e => by cases e)
  clear g
  go_wp2
  obtain ⟨I, hI⟩ : ∃ I : World → Prop, I = (fun W : World => W.cell? ⟨w4.heap.size, 0, none⟩ = some (.slice xxa fs.length xxc) ∧ W.cell? ⟨w.heap.size, 0, none⟩ = some (.slice a fs.length cap)) := ⟨_, rfl⟩
  have gd : w5.grownBy w5.drew none := ⟨rfl, rfl, rfl, Nat.le_refl _, fun _ _ _ => rfl⟩
  have ox0 := ox0.later gd
  have ca := gd.cell ca (by simp)
  have cx := gd.cell cx (by simp)
  have tB := tB.grown gd tB.size (fun k e => by cases e)
  clear gd
  have HI0 : I w5.drew := by rw [hI]; exact ⟨cx, ca⟩
  refine region_anyI I (fun _ => false) (by kernel_rfl) ?_
  show anyI _ _ _ _ _ _ 5 (Array.replicate 5 false) _ _
  refine anyI_take (i := 0) (.agg #[.slice xxa fs.length xxc]) rfl (by kernel_rfl) (by kernel_rfl) (by kernel_rfl) (by kernel_rfl) (fun _ _ _ h => h) HI0 (yldI rfl (fun W hW => by rw [hI] at hW; obtain ⟨h1, h2⟩ := hW; go_simp)) ?_
  refine anyI_take (i := 1) (.agg #[.slice a fs.length cap]) rfl (by kernel_rfl) (by kernel_rfl) (by kernel_rfl) (by kernel_rfl) (fun _ _ _ h => h) HI0 (yldI rfl (fun W hW => by rw [hI] at hW; obtain ⟨h1, h2⟩ := hW; go_simp)) ?_
  refine anyI_one (i := 2) (by kernel_rfl) (wpOp_call rfl rfl (by go_simp) (toFs_any _ fs _ ((HV.out.belowB tB).wide tB.size) HD.out.len HD.out.tlen) ?_)
  rintro e w6 ⟨vvy, rfl, oy0, g⟩
  have zz6 : Hid (w5.heap.size ≤ w6.heap.size) := by have := g.size; first | exact this | (simp only [World.size_alloc] at this; exact this)
  have ox0 := ox0.later g
  have ca := g.cell ca (by simp)
  have cx := g.cell cx (by simp)
  have tB := tB.grown g tB.size (fun k e => by cases e)
  clear g
  have HI1 : I w6 := by rw [hI]; exact ⟨cx, ca⟩
  refine ⟨_, rfl, .inr HI1, ?_⟩
  refine anyI_one (i := 3) (by kernel_rfl) (wpOp_call rfl rfl (by go_simp) (eqFs_same _ _ fs _ ox0.rd oy0.rd (by have := HD.out.len; omega) (fun p hp => by have := HD.out.tlen p hp; omega)) ?_)
  rintro e w7 ⟨rfl, g⟩
  have zz7 : Hid (w6.heap.size ≤ w7.heap.size) := by have := g.size; first | exact this | (simp only [World.size_alloc] at this; exact this)
  have ox0 := ox0.later g
  have oy0 := oy0.later g
  have ca := g.cell ca (by simp)
  have cx := g.cell cx (by simp)
  have tB := tB.grown g tB.size (fun k e => by cases e)
  clear g
  have HI1 : I w7 := by rw [hI]; exact ⟨cx, ca⟩
  refine ⟨_, rfl, .inr HI1, ?_⟩
  refine anyI_one (i := 4) (by kernel_rfl) (wpOp_val (v := .bool false) rfl rfl (by go_simp) ⟨.inr HI1, ?_⟩)
  refine anyI_done (by kernel_rfl) ?_ _
  clear oy0
  clear HI0 HI1
  subst hI
  clear ox0
  go_wp2
  go_ret
  exact ⟨rfl, tB⟩

end Go.Proofs.Ytkkcnpokobndcaa
