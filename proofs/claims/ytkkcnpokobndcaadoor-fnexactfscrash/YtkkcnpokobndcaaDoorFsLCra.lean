import Derived.Test.YtkkcnpokobndcaaDoorFsLens
import Derived.Test.YtkkcnpokobndcaaDoorFsCrs
import Derived.Test.YtkkcnpokobndcaaDoorOrdI
namespace Go.Proofs.YtkkcnpokobndcaaDoor
open Go.RowKit

theorem totM_crash (keep : Int) (hk : 0 ≤ keep) : ∀ fs : List Fl, (∀ p ∈ fs, 0 ≤ p.s) → totM (crashF keep fs) ≤ totM fs
  | [], _ => by simp [crashF, totM]
  | p :: ps, h => by
    have ih := totM_crash keep hk ps (fun q hq => h q (by simp [hq]))
    have hc : ((crashed keep p).n.length : Int) + (crashed keep p).d.length ≤ p.n.length + p.d.length := by
      unfold crashed; split
      · simp; omega
      · simp
    show totM (crashed keep p :: crashF keep ps) ≤ _
    simp only [totM]; omega
theorem lenFsCrash {fs : List Fl} (z1 : Int) (hd : Fss fs) (hle : ((fs.length + tot fs : Nat) : Int) ≤ 1048576) : Lens (craF fs z1) := by
  unfold craF
  split
  · rename_i hc
    rw [Bool.and_eq_true] at hc
    obtain ⟨hv, hk⟩ := hc
    have hk0 : 0 ≤ z1 := by simpa using hk
    have h1 := totM_crash z1 hk0 fs (fun p hp => (valid_safe hv hp).1)
    have h3 := totM_bd fs
    refine lens_of (by simp [crashF]; omega) (fun p hp => ?_) (by omega)
    simp only [crashF, List.mem_map] at hp
    obtain ⟨q, hq, rfl⟩ := hp
    have := hd.tlen q hq
    unfold crashed; split
    · simp; omega
    · exact this
  · exact lens_nil

/-- What is asked of the program. -/
def ImplFsCrash (w : World) : Prop := ∀ (fs : List Fl) (z1 : Int), Fss fs → z1 ≤ 9223372036854775807 → -9223372036854775808 ≤ z1 → ∀ (u : Value) (w' : World), Below w.heap.size w w' → RdF w'.heap.size w' u fs → Calls Tryd.prog 19 #[.agg #[u], .int .i64 z1] w' fun e w'' => ∃ v', e = .returned (.tuple #[.agg #[v'], .int .i64 (craC fs z1)]) ∧ OwF w'.heap.size w'' v' (craF fs z1) ∧ w'.grownBy w'' none

set_option maxHeartbeats 8000000 in
set_option maxRecDepth 100000 in
theorem lawFsCrash (v : Value) (fs : List Fl) (z1 : Int) (w : World) (hv : RdF w.heap.size w v fs) (hby : ∀ p ∈ fs, Byt p.n ∧ Byt p.d) (hk1 : z1 ≤ 9223372036854775807) (himpl : Fss fs → ∀ (u : Value) (w' : World), Below w.heap.size w w' → RdF w'.heap.size w' u fs → Calls Tryd.prog 19 #[.agg #[u], .int .i64 z1] w' fun e w'' => ∃ v', e = .returned (.tuple #[.agg #[v'], .int .i64 (craC fs z1)]) ∧ OwF w'.heap.size w'' v' (craF fs z1) ∧ w'.grownBy w'' none) :
    Calls Tryd.prog 4 #[.agg #[v], .int .i64 z1] w fun e w' => e = .returned (.bool true) ∧ Below w.heap.size w w' := by
  obtain ⟨a, cap, e0, hcap, hmax, _⟩ := id hv
  unfold maxLen at hmax
  have HSZ := hide (fun w' (g : w.grownBy w' none) => szFs_any v fs 1048576 w' (hv.now g) (by omega) (by omega))
  have hbd := szB_bd (fs.length + tot fs) 1048576 (by omega)
  by_cases h0 : szB (fs.length + tot fs) 1048576 < 0
  · subst e0
    generalize szB (fs.length + tot fs) 1048576 = sz at *
    clear himpl hv
    go_enter Tryd.func4, Tryd.ntmps4
    go_wp2_with fail
    refine (HSZ.out _ (World.grownBy_alloc _ _ _)).mono ?_
    rintro e w1 ⟨rfl, g1⟩
    go_wp2
    go_ret
    exact ⟨rfl, below_of_grown (grown_trans (World.grownBy_alloc _ _ _) g1)⟩
  have hle := (szB_pos h0).2
  have hd : Fss fs := ⟨by omega, fun p hp => by have := tot_mem fs p hp; omega, hby⟩
  have HD : Hid (Fss fs) := hd
  have HI := hide (himpl hd)
  have HS : Hid (∀ (u : Value) (w' : World), RdF w'.heap.size w' u fs → Calls Tryd.prog 18 #[.agg #[u], .int .i64 z1] w' fun e w'' => ∃ v', e = .returned (.tuple #[.agg #[v'], .int .i64 (craC fs z1)]) ∧ OwF w'.heap.size w'' v' (craF fs z1) ∧ w'.grownBy w'' none) := fun u w' h => specCrash_any u fs z1 w' h hd hk1
  have hnot : ∀ (x : Bool) (w : World), (Op.unary .not (.bool x)).run Tryd.prog w = .ok (.bool (!x)) w := fun _ _ => rfl
  obtain ⟨hRl, hRt, hRm⟩ := lenFsCrash z1  hd hle
  generalize craF fs z1 = R at *
  generalize craC fs z1 = cc at *
  have hne : (cc != cc) = false := by simp
  have hmm : ((1 + totM R) != (1 + totM R)) = false := by simp
  have hm0 := totM_nonneg R
  have hfm : totM fs ≤ 1048576 := by have := totM_bd fs; omega
  have hfn := totM_nonneg fs
  have HV := hide hv
  subst e0
  generalize szB (fs.length + tot fs) 1048576 = sz at *
  clear hd himpl hby hv
  go_enter Tryd.func4, Tryd.ntmps4
  go_wp2_with fail
  refine (HSZ.out _ (World.grownBy_alloc _ _ _)).mono ?_
  rintro e w1 ⟨rfl, g1⟩
  have ca : w1.cell? ⟨w.heap.size, 0, none⟩ = some (.slice a fs.length cap) := g1.cell (by simp [go_sem]) (by simp)
  have tB := below_of_grown (grown_trans (World.grownBy_alloc w (Obj.cells #[.slice a fs.length cap] 24) none) g1)
  have zz1 : Hid (w.heap.size + 1 ≤ w1.heap.size) := by have := g1.size; first | exact this | (simp only [World.size_alloc] at this; exact this)
  clear g1
  go_wp2_with fail
  refine (toFs_any _ fs _ ((HV.out.belowB tB).wide tB.size) HD.out.len HD.out.tlen).mono ?_
  rintro e w2 ⟨vvos0, rfl, os0, g⟩
  have zz2 : Hid (w1.heap.size ≤ w2.heap.size) := by have := g.size; first | exact this | (simp only [World.size_alloc] at this; exact this)
  have ca := g.cell ca (by simp)
  have tB := tB.grown g tB.size (fun k e => by cases e)
  clear g
  go_wp2_with fail
  refine (HS.out _ _ os0.rd).mono ?_
  rintro e w3 ⟨sp, rfl, op, g⟩
  clear os0
  have zz3 : Hid (w2.heap.size ≤ w3.heap.size) := by have := g.size; first | exact this | (simp only [World.size_alloc] at this; exact this)
  have ca := g.cell ca (by simp)
  have tB := tB.grown g tB.size (fun k e => by cases e)
  clear g
  obtain ⟨spa, spc, q, _⟩ := op.rd
  subst q
  have op := op.high
  try simp only [World.size_alloc] at op
  have gv := World.grownBy_alloc w3 (Obj.cells #[.slice spa R.length spc] 31) none
  have cw : (w3.alloc (Obj.cells #[.slice spa R.length spc] 31)).cell? ⟨w3.heap.size, 0, none⟩ = some (.slice spa R.length spc) := by simp [go_sem]
  have op := op.later gv
  have ca := gv.cell ca (by simp)
  have tB := tB.grown gv tB.size (fun k e => by cases e)
  clear gv
  go_wp2_with fail
  refine (toFs_any _ fs _ ((HV.out.belowB tB).wide tB.size) HD.out.len HD.out.tlen).mono ?_
  rintro e w4 ⟨vvox0, rfl, ox0, g⟩
  have zz4 : Hid (w3.heap.size + 1 ≤ w4.heap.size) := by have := g.size; first | exact this | (simp only [World.size_alloc] at this; exact this)
  have op := op.later g
  have ca := g.cell ca (by simp)
  have cw := g.cell cw (by simp)
  have tB := tB.grown g tB.size (fun k e => by cases e)
  clear g
  have ox0 := ox0.high
  try simp only [World.size_alloc] at ox0
  obtain ⟨xxa, xxc, q, _⟩ := ox0.low.rd
  subst q
  have gv := World.grownBy_alloc w4 (Obj.cells #[.slice xxa fs.length xxc] 31) none
  have cx : (w4.alloc (Obj.cells #[.slice xxa fs.length xxc] 31)).cell? ⟨w4.heap.size, 0, none⟩ = some (.slice xxa fs.length xxc) := by simp [go_sem]
  have op := op.later gv
  have ox0 := ox0.later gv
  have ca := gv.cell ca (by simp)
  have cw := gv.cell cw (by simp)
  have tB := tB.grown gv tB.size (fun k e => by cases e)
  clear gv
  go_wp2_with fail
  refine (HI.out _ _ tB ox0.low.rd).mono ?_
  rintro e w5 ⟨gp, rfl, og, g⟩
  have zz5 : Hid (w4.heap.size + 1 ≤ w5.heap.size) := by have := g.size; first | exact this | (simp only [World.size_alloc] at this; exact this)
  have op := op.later g
  have ox0 := ox0.later g
  have ca := g.cell ca (by simp)
  have cw := g.cell cw (by simp)
  have cx := g.cell cx (by simp)
  have tB := tB.grown g tB.size (fun k e => by cases e)
  clear g
  obtain ⟨gga, ggc, q, _⟩ := og.rd
  subst q
  have og := og.high
  try simp only [World.size_alloc] at og
  have gv := World.grownBy_alloc w5 (Obj.cells #[.slice gga R.length ggc] 31) none
  have cg : (w5.alloc (Obj.cells #[.slice gga R.length ggc] 31)).cell? ⟨w5.heap.size, 0, none⟩ = some (.slice gga R.length ggc) := by simp [go_sem]
  have op := op.later gv
  have ox0 := ox0.later gv
  have og := og.later gv
  have ca := gv.cell ca (by simp)
  have cw := gv.cell cw (by simp)
  have cx := gv.cell cx (by simp)
  have tB := tB.grown gv tB.size (fun k e => by cases e)
  clear gv
  go_wp2_with fail
  refine (eqFs_same _ _ R _ og.low.rd op.low.rd (by omega) hRt).mono ?_
  rintro e w6 ⟨rfl, g⟩
  have zz6 : Hid (w5.heap.size + 1 ≤ w6.heap.size) := by have := g.size; first | exact this | (simp only [World.size_alloc] at this; exact this)
  have op := op.later g
  have ox0 := ox0.later g
  have og := og.later g
  have ca := g.cell ca (by simp)
  have cw := g.cell cw (by simp)
  have cx := g.cell cx (by simp)
  have cg := g.cell cg (by simp)
  have tB := tB.grown g tB.size (fun k e => by cases e)
  clear g
  go_wp2
  obtain ⟨I, hI⟩ : ∃ I : World → Prop, I = (fun W : World => W.cell? ⟨w4.heap.size, 0, none⟩ = some (.slice xxa fs.length xxc) ∧ W.cell? ⟨w.heap.size, 0, none⟩ = some (.slice a fs.length cap)) := ⟨_, rfl⟩
  have gd : w6.grownBy w6.drew none := ⟨rfl, rfl, rfl, Nat.le_refl _, fun _ _ _ => rfl⟩
  have op := op.later gd
  have ox0 := ox0.later gd
  have og := og.later gd
  have ca := gd.cell ca (by simp)
  have cw := gd.cell cw (by simp)
  have cx := gd.cell cx (by simp)
  have cg := gd.cell cg (by simp)
  have tB := tB.grown gd tB.size (fun k e => by cases e)
  clear gd
  have HI0 : I w6.drew := by rw [hI]; exact ⟨cx, ca⟩
  refine region_anyI I (fun _ => false) (by kernel_rfl) ?_
  show anyI _ _ _ _ _ _ 5 (Array.replicate 5 false) _ _
  refine anyI_take (i := 0) (.agg #[.slice xxa fs.length xxc]) rfl (by kernel_rfl) (by kernel_rfl) (by kernel_rfl) (by kernel_rfl) (fun _ _ _ h => h) HI0 (yldI rfl (fun W hW => by rw [hI] at hW; obtain ⟨h1, h2⟩ := hW; go_simp)) ?_
  refine anyI_take (i := 1) (.agg #[.slice a fs.length cap]) rfl (by kernel_rfl) (by kernel_rfl) (by kernel_rfl) (by kernel_rfl) (fun _ _ _ h => h) HI0 (yldI rfl (fun W hW => by rw [hI] at hW; obtain ⟨h1, h2⟩ := hW; go_simp)) ?_
  refine anyI_one (i := 2) (by kernel_rfl) (wpOp_call rfl rfl (by go_simp) (toFs_any _ fs _ ((HV.out.belowB tB).wide tB.size) HD.out.len HD.out.tlen) ?_)
  rintro e w7 ⟨vvy, rfl, oy0, g⟩
  have zz7 : Hid (w6.heap.size ≤ w7.heap.size) := by have := g.size; first | exact this | (simp only [World.size_alloc] at this; exact this)
  have op := op.later g
  have ox0 := ox0.later g
  have og := og.later g
  have ca := g.cell ca (by simp)
  have cw := g.cell cw (by simp)
  have cx := g.cell cx (by simp)
  have cg := g.cell cg (by simp)
  have tB := tB.grown g tB.size (fun k e => by cases e)
  clear g
  have HI1 : I w7 := by rw [hI]; exact ⟨cx, ca⟩
  refine ⟨_, rfl, .inr HI1, ?_⟩
  refine anyI_one (i := 3) (by kernel_rfl) (wpOp_call rfl rfl (by go_simp) (eqFs_same _ _ fs _ ox0.low.rd oy0.rd (by have := HD.out.len; omega) (fun p hp => by have := HD.out.tlen p hp; omega)) ?_)
  rintro e w8 ⟨rfl, g⟩
  have zz8 : Hid (w7.heap.size ≤ w8.heap.size) := by have := g.size; first | exact this | (simp only [World.size_alloc] at this; exact this)
  have op := op.later g
  have ox0 := ox0.later g
  have og := og.later g
  have oy0 := oy0.later g
  have ca := g.cell ca (by simp)
  have cw := g.cell cw (by simp)
  have cx := g.cell cx (by simp)
  have cg := g.cell cg (by simp)
  have tB := tB.grown g tB.size (fun k e => by cases e)
  clear g
  have HI1 : I w8 := by rw [hI]; exact ⟨cx, ca⟩
  refine ⟨_, rfl, .inr HI1, ?_⟩
  refine anyI_one (i := 4) (by kernel_rfl) (wpOp_val (v := .bool false) rfl rfl (by go_simp) ⟨.inr HI1, ?_⟩)
  refine anyI_done (by kernel_rfl) ?_ _
  clear oy0
  clear HI0 HI1
  subst hI
  go_wp2_with fail
  refine (markFs_any _ _ _ fs 1 _ ox0 (by have := HD.out.len; omega) (fun p hp => by have := HD.out.tlen p hp; omega) (by omega) (by omega)).mono ?_
  rintro e w9 ⟨rfl, _, fr⟩
  have fz : Hid (w8.heap.size ≤ w9.heap.size) := by have := fr.size; first | exact this | (simp only [World.size_alloc] at this; exact this)
  have zz9 := fz
  have op := fr.ofFH op (by have q1 := zz1.out; have q2 := zz2.out; have q3 := zz3.out; have q4 := zz4.out; have q5 := zz5.out; have q6 := zz6.out; have q7 := zz7.out; have q8 := zz8.out; have q9 := zz9.out; omega)
  have og := fr.ofFH og (by have q1 := zz1.out; have q2 := zz2.out; have q3 := zz3.out; have q4 := zz4.out; have q5 := zz5.out; have q6 := zz6.out; have q7 := zz7.out; have q8 := zz8.out; have q9 := zz9.out; omega)
  have ca := fr.cellF ca (by have q1 := zz1.out; have q2 := zz2.out; have q3 := zz3.out; have q4 := zz4.out; have q5 := zz5.out; have q6 := zz6.out; have q7 := zz7.out; have q8 := zz8.out; have q9 := zz9.out; omega)
  have cw := fr.cellF cw (by have q1 := zz1.out; have q2 := zz2.out; have q3 := zz3.out; have q4 := zz4.out; have q5 := zz5.out; have q6 := zz6.out; have q7 := zz7.out; have q8 := zz8.out; have q9 := zz9.out; omega)
  have cx := fr.cellF cx (by have q1 := zz1.out; have q2 := zz2.out; have q3 := zz3.out; have q4 := zz4.out; have q5 := zz5.out; have q6 := zz6.out; have q7 := zz7.out; have q8 := zz8.out; have q9 := zz9.out; omega)
  have cg := fr.cellF cg (by have q1 := zz1.out; have q2 := zz2.out; have q3 := zz3.out; have q4 := zz4.out; have q5 := zz5.out; have q6 := zz6.out; have q7 := zz7.out; have q8 := zz8.out; have q9 := zz9.out; omega)
  have tB := tB.trans ((fr.below (by have q1 := zz1.out; have q2 := zz2.out; have q3 := zz3.out; have q4 := zz4.out; have q5 := zz5.out; have q6 := zz6.out; have q7 := zz7.out; have q8 := zz8.out; have q9 := zz9.out; omega)).mono (by have q1 := zz1.out; have q2 := zz2.out; have q3 := zz3.out; have q4 := zz4.out; have q5 := zz5.out; have q6 := zz6.out; have q7 := zz7.out; have q8 := zz8.out; have q9 := zz9.out; omega))
  clear fr fz ox0
  go_wp2_with fail
  refine (eqFs_same _ _ R _ og.low.rd op.low.rd (by omega) hRt).mono ?_
  rintro e w10 ⟨rfl, g⟩
  have zz10 : Hid (w9.heap.size ≤ w10.heap.size) := by have := g.size; first | exact this | (simp only [World.size_alloc] at this; exact this)
  have op := op.later g
  have og := og.later g
  have ca := g.cell ca (by simp)
  have cw := g.cell cw (by simp)
  have cx := g.cell cx (by simp)
  have cg := g.cell cg (by simp)
  have tB := tB.grown g tB.size (fun k e => by cases e)
  clear g
  go_wp2_with fail
  refine (markFs_any _ _ _ R 1 _ og (by omega) hRt (by omega) (by omega)).mono ?_
  rintro e w11 ⟨rfl, om, fr⟩
  have fz : Hid (w10.heap.size ≤ w11.heap.size) := by have := fr.size; first | exact this | (simp only [World.size_alloc] at this; exact this)
  have zz11 := fz
  have op := fr.ofFH op (by have q1 := zz1.out; have q2 := zz2.out; have q3 := zz3.out; have q4 := zz4.out; have q5 := zz5.out; have q6 := zz6.out; have q7 := zz7.out; have q8 := zz8.out; have q9 := zz9.out; have q10 := zz10.out; have q11 := zz11.out; omega)
  have ca := fr.cellF ca (by have q1 := zz1.out; have q2 := zz2.out; have q3 := zz3.out; have q4 := zz4.out; have q5 := zz5.out; have q6 := zz6.out; have q7 := zz7.out; have q8 := zz8.out; have q9 := zz9.out; have q10 := zz10.out; have q11 := zz11.out; omega)
  have cw := fr.cellF cw (by have q1 := zz1.out; have q2 := zz2.out; have q3 := zz3.out; have q4 := zz4.out; have q5 := zz5.out; have q6 := zz6.out; have q7 := zz7.out; have q8 := zz8.out; have q9 := zz9.out; have q10 := zz10.out; have q11 := zz11.out; omega)
  have cx := fr.cellF cx (by have q1 := zz1.out; have q2 := zz2.out; have q3 := zz3.out; have q4 := zz4.out; have q5 := zz5.out; have q6 := zz6.out; have q7 := zz7.out; have q8 := zz8.out; have q9 := zz9.out; have q10 := zz10.out; have q11 := zz11.out; omega)
  have cg := fr.cellF cg (by have q1 := zz1.out; have q2 := zz2.out; have q3 := zz3.out; have q4 := zz4.out; have q5 := zz5.out; have q6 := zz6.out; have q7 := zz7.out; have q8 := zz8.out; have q9 := zz9.out; have q10 := zz10.out; have q11 := zz11.out; omega)
  have tB := tB.trans ((fr.below (by have q1 := zz1.out; have q2 := zz2.out; have q3 := zz3.out; have q4 := zz4.out; have q5 := zz5.out; have q6 := zz6.out; have q7 := zz7.out; have q8 := zz8.out; have q9 := zz9.out; have q10 := zz10.out; have q11 := zz11.out; omega)).mono (by have q1 := zz1.out; have q2 := zz2.out; have q3 := zz3.out; have q4 := zz4.out; have q5 := zz5.out; have q6 := zz6.out; have q7 := zz7.out; have q8 := zz8.out; have q9 := zz9.out; have q10 := zz10.out; have q11 := zz11.out; omega))
  clear fr fz og
  go_wp2_with fail
  refine (heldFs_any _ R 1 _ om.low.rd (by omega) hRt (by omega) (by omega)).mono ?_
  rintro e w12 ⟨rfl, g⟩
  clear om
  have zz12 : Hid (w11.heap.size ≤ w12.heap.size) := by have := g.size; first | exact this | (simp only [World.size_alloc] at this; exact this)
  have op := op.later g
  have ca := g.cell ca (by simp)
  have cw := g.cell cw (by simp)
  have cx := g.cell cx (by simp)
  have cg := g.cell cg (by simp)
  have tB := tB.grown g tB.size (fun k e => by cases e)
  clear g
  go_wp2_with fail
  refine (toFs_any _ fs _ ((HV.out.belowB tB).wide tB.size) HD.out.len HD.out.tlen).mono ?_
  rintro e w13 ⟨vvoh0, rfl, oh0, g⟩
  have zz13 : Hid (w12.heap.size ≤ w13.heap.size) := by have := g.size; first | exact this | (simp only [World.size_alloc] at this; exact this)
  have op := op.later g
  have ca := g.cell ca (by simp)
  have cw := g.cell cw (by simp)
  have cx := g.cell cx (by simp)
  have cg := g.cell cg (by simp)
  have tB := tB.grown g tB.size (fun k e => by cases e)
  clear g
  go_wp2_with fail
  refine (HI.out _ _ tB oh0.rd).mono ?_
  rintro e w14 ⟨hp, rfl, oh, g⟩
  clear oh0
  have zz14 : Hid (w13.heap.size ≤ w14.heap.size) := by have := g.size; first | exact this | (simp only [World.size_alloc] at this; exact this)
  have op := op.later g
  have ca := g.cell ca (by simp)
  have cw := g.cell cw (by simp)
  have cx := g.cell cx (by simp)
  have cg := g.cell cg (by simp)
  have tB := tB.grown g tB.size (fun k e => by cases e)
  clear g
  obtain ⟨hha, hhc, q, _⟩ := oh.rd
  subst q
  have oh := oh.high
  try simp only [World.size_alloc] at oh
  have gv := World.grownBy_alloc w14 (Obj.cells #[.slice hha R.length hhc] 31) none
  have ch : (w14.alloc (Obj.cells #[.slice hha R.length hhc] 31)).cell? ⟨w14.heap.size, 0, none⟩ = some (.slice hha R.length hhc) := by simp [go_sem]
  have op := op.later gv
  have oh := oh.later gv
  have ca := gv.cell ca (by simp)
  have cw := gv.cell cw (by simp)
  have cx := gv.cell cx (by simp)
  have cg := gv.cell cg (by simp)
  have tB := tB.grown gv tB.size (fun k e => by cases e)
  clear gv
  go_wp2_with fail
  refine (eqFs_same _ _ R _ oh.low.rd op.low.rd (by omega) hRt).mono ?_
  rintro e w15 ⟨rfl, g⟩
  have zz15 : Hid (w14.heap.size + 1 ≤ w15.heap.size) := by have := g.size; first | exact this | (simp only [World.size_alloc] at this; exact this)
  have op := op.later g
  have oh := oh.later g
  have ca := g.cell ca (by simp)
  have cw := g.cell cw (by simp)
  have cx := g.cell cx (by simp)
  have cg := g.cell cg (by simp)
  have ch := g.cell ch (by simp)
  have tB := tB.grown g tB.size (fun k e => by cases e)
  clear g
  go_wp2
  go_ret
  exact ⟨rfl, tB⟩

end Go.Proofs.YtkkcnpokobndcaaDoor
