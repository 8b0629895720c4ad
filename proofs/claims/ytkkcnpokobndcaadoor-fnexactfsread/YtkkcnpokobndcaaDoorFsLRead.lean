import Derived.Test.YtkkcnpokobndcaaDoorFsLawM
import Derived.Test.YtkkcnpokobndcaaDoorFsRea
import Derived.Test.YtkkcnpokobndcaaDoorOrdI
namespace Go.Proofs.YtkkcnpokobndcaaDoor
open Go.RowKit

theorem lenFsRead {fs : List Fl} (z1 : List Int) (hd : Fss fs) (_ : z1.length ≤ 1048576) (_ : ((fs.length + tot fs : Nat) : Int) ≤ 1048576) : (readL fs z1).length ≤ 1048576 := by
  unfold readL
  split
  · cases h : findF fs z1 with
    | none => simp
    | some f => exact (hd.tlen f (find_mem h).1).2
  · simp

/-- What is asked of the program. -/
def ImplFsRead (w : World) : Prop := ∀ (fs : List Fl) (z1 : List Int), Fss fs → Byt z1 → z1.length ≤ 1048576 → ∀ (u : Value) (u1 : Value) (w' : World), Below w.heap.size w w' → RdF w'.heap.size w' u fs → RdB w'.heap.size w' u1 z1 → Sl u1 z1.length → Calls Tryd.prog 12 #[.agg #[u], u1] w' fun e w'' => ∃ v', e = .returned (.tuple #[v', .int .i64 (readC fs z1)]) ∧ OwB w'.heap.size w'' v' (readL fs z1) ∧ w'.grownBy w'' none

set_option maxHeartbeats 8000000 in
set_option maxRecDepth 100000 in
theorem lawFsRead (v : Value) (fs : List Fl) (v1 : Value) (z1 : List Int) (w : World) (hv : RdF w.heap.size w v fs) (hby : ∀ p ∈ fs, Byt p.n ∧ Byt p.d) (hv1 : RdB w.heap.size w v1 z1) (hs1 : Sl v1 z1.length) (hb1 : Byt z1) (himpl : Fss fs → Byt z1 → z1.length ≤ 1048576 → ∀ (u : Value) (u1 : Value) (w' : World), Below w.heap.size w w' → RdF w'.heap.size w' u fs → RdB w'.heap.size w' u1 z1 → Sl u1 z1.length → Calls Tryd.prog 12 #[.agg #[u], u1] w' fun e w'' => ∃ v', e = .returned (.tuple #[v', .int .i64 (readC fs z1)]) ∧ OwB w'.heap.size w'' v' (readL fs z1) ∧ w'.grownBy w'' none) :
    Calls Tryd.prog 3 #[.agg #[v], v1] w fun e w' => e = .returned (.bool true) ∧ Below w.heap.size w w' := by
  obtain ⟨a, cap, e0, hcap, hmax, _⟩ := id hv
  unfold maxLen at hmax
  obtain ⟨a1, cap1, e1, hc1, hm1⟩ := id hs1
  unfold maxLen at hm1
  by_cases hl1 : 1048576 < z1.length
  · subst e0 e1
    clear himpl hv hv1 hs1
    go_enter Tryd.func3, Tryd.ntmps3
    go_wp2
    go_ret
    exact ⟨rfl, (Below.refl _ _).alloc (Nat.le_refl _) _⟩
  have HSZ := hide (fun w' (g : w.grownBy w' none) => szFs_any v fs 1048576 w' (hv.now g) (by omega) (by omega))
  have hbd := szB_bd (fs.length + tot fs) 1048576 (by omega)
  by_cases h0 : szB (fs.length + tot fs) 1048576 < 0
  · subst e0 e1
    generalize szB (fs.length + tot fs) 1048576 = sz at *
    clear himpl hv hv1 hs1
    go_enter Tryd.func3, Tryd.ntmps3
    go_wp2_with fail
    refine (HSZ.out _ (World.grownBy_alloc _ _ _)).mono ?_
    rintro e w1 ⟨rfl, g1⟩
    go_wp2
    go_ret
    exact ⟨rfl, below_of_grown (grown_trans (World.grownBy_alloc _ _ _) g1)⟩
  have hle := (szB_pos h0).2
  have hd : Fss fs := ⟨by omega, fun p hp => by have := tot_mem fs p hp; omega, hby⟩
  have HD : Hid (Fss fs) := hd
  have HI := hide (himpl hd hb1 (by omega))
  have HS : Hid (∀ (u : Value) (u1 : Value) (w' : World), RdF w'.heap.size w' u fs → RdB w'.heap.size w' u1 z1 → Sl u1 z1.length → Calls Tryd.prog 9 #[.agg #[u], u1] w' fun e w'' => ∃ v', e = .returned (.tuple #[v', .int .i64 (readC fs z1)]) ∧ OwB w'.heap.size w'' v' (readL fs z1) ∧ w'.grownBy w'' none) := fun u u1 w' h h1 h2 => specRead_any u u1 fs z1 w' h h1 h2 hd hb1 (by omega)
  have hnot : ∀ (x : Bool) (w : World), (Op.unary .not (.bool x)).run Tryd.prog w = .ok (.bool (!x)) w := fun _ _ => rfl
  have hRl := lenFsRead z1  hd (show z1.length ≤ 1048576 by omega) hle
  generalize readL fs z1 = R at *
  generalize readC fs z1 = cc at *
  have hne : (cc != cc) = false := by simp
  have hmm : (((1 : Int) + (R.length : Int)) != (1 + (R.length : Int))) = false := by simp
  have hfm : totM fs ≤ 1048576 := by have := totM_bd fs; omega
  have hfn := totM_nonneg fs
  have HV := hide hv
  have HV1 := hide hv1
  subst e0 e1
  generalize szB (fs.length + tot fs) 1048576 = sz at *
  clear hd himpl hby hv hv1 hs1 hb1
  go_enter Tryd.func3, Tryd.ntmps3
  go_wp2_with fail
  refine (HSZ.out _ (World.grownBy_alloc _ _ _)).mono ?_
  rintro e w1 ⟨rfl, g1⟩
  have ca : w1.cell? ⟨w.heap.size, 0, none⟩ = some (.slice a fs.length cap) := g1.cell (by simp [go_sem]) (by simp)
  have tB := below_of_grown (grown_trans (World.grownBy_alloc w (Obj.cells #[.slice a fs.length cap] 24) none) g1)
  have zz1 : Hid (w.heap.size + 1 ≤ w1.heap.size) := by have := g1.size; first | exact this | (simp only [World.size_alloc] at this; exact this)
  clear g1
  go_wp2_with fail
  refine (toFs_any _ fs _ ((HV.out.belowB tB).wide tB.size) HD.out.len HD.out.tlen).mono ?_
  rintro e w2 ⟨vvos0, rfl, os0, g⟩
  have zz2 : Hid (w1.heap.size ≤ w2.heap.size) := by have := g.size; first | exact this | (simp only [World.size_alloc] at this; exact this)
  have ca := g.cell ca (by simp)
  have tB := tB.grown g tB.size (fun k e => by cases e)
  clear g
  go_wp2_with fail
  refine (toByteS_any _ z1 _ ((rdB_belowB HV1.out tB).wideF tB.size) (by omega)).mono ?_
  rintro e w3 ⟨vvos1, rfl, os1, g⟩
  have zz3 : Hid (w2.heap.size ≤ w3.heap.size) := by have := g.size; first | exact this | (simp only [World.size_alloc] at this; exact this)
  have os0 := os0.later g
  have ca := g.cell ca (by simp)
  have tB := tB.grown g tB.size (fun k e => by cases e)
  clear g
  go_wp2_with fail
  refine (HS.out _ _ _ os0.rd os1.rd os1.sl).mono ?_
  rintro e w4 ⟨sp, rfl, op, g⟩
  clear os0 os1
  have zz4 : Hid (w3.heap.size ≤ w4.heap.size) := by have := g.size; first | exact this | (simp only [World.size_alloc] at this; exact this)
  have ca := g.cell ca (by simp)
  have tB := tB.grown g tB.size (fun k e => by cases e)
  clear g
  obtain ⟨spa, spc, q, _⟩ := op.rd
  subst q
  have lp := World.ownsRow.lt op
  try simp only [World.size_alloc] at lp
  go_wp2_with fail
  refine (toFs_any _ fs _ ((HV.out.belowB tB).wide tB.size) HD.out.len HD.out.tlen).mono ?_
  rintro e w5 ⟨vvox0, rfl, ox0, g⟩
  have zz5 : Hid (w4.heap.size ≤ w5.heap.size) := by have := g.size; first | exact this | (simp only [World.size_alloc] at this; exact this)
  have op := op.later g
  have ca := g.cell ca (by simp)
  have tB := tB.grown g tB.size (fun k e => by cases e)
  clear g
  have ox0 := ox0.high
  try simp only [World.size_alloc] at ox0
  obtain ⟨xxa, xxc, q, _⟩ := ox0.low.rd
  subst q
  have gv := World.grownBy_alloc w5 (Obj.cells #[.slice xxa fs.length xxc] 31) none
  have cx : (w5.alloc (Obj.cells #[.slice xxa fs.length xxc] 31)).cell? ⟨w5.heap.size, 0, none⟩ = some (.slice xxa fs.length xxc) := by simp [go_sem]
  have op := op.later gv
  have ox0 := ox0.later gv
  have ca := gv.cell ca (by simp)
  have tB := tB.grown gv tB.size (fun k e => by cases e)
  clear gv
  go_wp2_with fail
  refine (toByteS_any _ z1 _ ((rdB_belowB HV1.out tB).wideF tB.size) (by omega)).mono ?_
  rintro e w6 ⟨vvox1, rfl, ox1, g⟩
  have zz6 : Hid (w5.heap.size + 1 ≤ w6.heap.size) := by have := g.size; first | exact this | (simp only [World.size_alloc] at this; exact this)
  have op := op.later g
  have ox0 := ox0.later g
  have ca := g.cell ca (by simp)
  have cx := g.cell cx (by simp)
  have tB := tB.grown g tB.size (fun k e => by cases e)
  clear g
  have lx1 := World.ownsRow.lt ox1
  try simp only [World.size_alloc] at lx1
  obtain ⟨xx1a, xx1c, q, _⟩ := ox1.rd
  subst q
  go_wp2_with fail
  refine (HI.out _ _ _ tB ox0.low.rd ox1.rd ox1.sl).mono ?_
  rintro e w7 ⟨gp, rfl, og, g⟩
  have zz7 : Hid (w6.heap.size ≤ w7.heap.size) := by have := g.size; first | exact this | (simp only [World.size_alloc] at this; exact this)
  have op := op.later g
  have ox0 := ox0.later g
  have ox1 := ox1.later g
  have ca := g.cell ca (by simp)
  have cx := g.cell cx (by simp)
  have tB := tB.grown g tB.size (fun k e => by cases e)
  clear g
  obtain ⟨gga, ggc, q, _⟩ := og.rd
  subst q
  have lg := World.ownsRow.lt og
  try simp only [World.size_alloc] at lg
  go_wp2_with fail
  refine (eqByteS_same _ _ R _ og.rd op.rd (by omega)).mono ?_
  rintro e w8 ⟨rfl, g⟩
  have zz8 : Hid (w7.heap.size ≤ w8.heap.size) := by have := g.size; first | exact this | (simp only [World.size_alloc] at this; exact this)
  have op := op.later g
  have ox0 := ox0.later g
  have ox1 := ox1.later g
  have og := og.later g
  have ca := g.cell ca (by simp)
  have cx := g.cell cx (by simp)
  have tB := tB.grown g tB.size (fun k e => by cases e)
  clear g
  go_wp2
  obtain ⟨I, hI⟩ : ∃ I : World → Prop, I = (fun W : World => W.cell? ⟨w5.heap.size, 0, none⟩ = some (.slice xxa fs.length xxc) ∧ W.cell? ⟨w.heap.size, 0, none⟩ = some (.slice a fs.length cap)) := ⟨_, rfl⟩
  have gd : w8.grownBy w8.drew none := ⟨rfl, rfl, rfl, Nat.le_refl _, fun _ _ _ => rfl⟩
  have op := op.later gd
  have ox0 := ox0.later gd
  have ox1 := ox1.later gd
  have og := og.later gd
  have ca := gd.cell ca (by simp)
  have cx := gd.cell cx (by simp)
  have tB := tB.grown gd tB.size (fun k e => by cases e)
  clear gd
  have HI0 : I w8.drew := by rw [hI]; exact ⟨cx, ca⟩
  refine region_anyI I (fun _ => false) (by kernel_rfl) ?_
  show anyI _ _ _ _ _ _ 5 (Array.replicate 5 false) _ _
  refine anyI_take (i := 0) (.agg #[.slice xxa fs.length xxc]) rfl (by kernel_rfl) (by kernel_rfl) (by kernel_rfl) (by kernel_rfl) (fun _ _ _ h => h) HI0 (yldI rfl (fun W hW => by rw [hI] at hW; obtain ⟨h1, h2⟩ := hW; go_simp)) ?_
  refine anyI_take (i := 1) (.agg #[.slice a fs.length cap]) rfl (by kernel_rfl) (by kernel_rfl) (by kernel_rfl) (by kernel_rfl) (fun _ _ _ h => h) HI0 (yldI rfl (fun W hW => by rw [hI] at hW; obtain ⟨h1, h2⟩ := hW; go_simp)) ?_
  refine anyI_one (i := 2) (by kernel_rfl) (wpOp_call rfl rfl (by go_simp) (toFs_any _ fs _ ((HV.out.belowB tB).wide tB.size) HD.out.len HD.out.tlen) ?_)
  rintro e w9 ⟨vvy, rfl, oy0, g⟩
  have zz9 : Hid (w8.heap.size ≤ w9.heap.size) := by have := g.size; first | exact this | (simp only [World.size_alloc] at this; exact this)
  have op := op.later g
  have ox0 := ox0.later g
  have ox1 := ox1.later g
  have og := og.later g
  have ca := g.cell ca (by simp)
  have cx := g.cell cx (by simp)
  have tB := tB.grown g tB.size (fun k e => by cases e)
  clear g
  have HI1 : I w9 := by rw [hI]; exact ⟨cx, ca⟩
  refine ⟨_, rfl, .inr HI1, ?_⟩
  refine anyI_one (i := 3) (by kernel_rfl) (wpOp_call rfl rfl (by go_simp) (eqFs_same _ _ fs _ ox0.low.rd oy0.rd (by have := HD.out.len; omega) (fun p hp => by have := HD.out.tlen p hp; omega)) ?_)
  rintro e w10 ⟨rfl, g⟩
  have zz10 : Hid (w9.heap.size ≤ w10.heap.size) := by have := g.size; first | exact this | (simp only [World.size_alloc] at this; exact this)
  have op := op.later g
  have ox0 := ox0.later g
  have ox1 := ox1.later g
  have og := og.later g
  have oy0 := oy0.later g
  have ca := g.cell ca (by simp)
  have cx := g.cell cx (by simp)
  have tB := tB.grown g tB.size (fun k e => by cases e)
  clear g
  have HI1 : I w10 := by rw [hI]; exact ⟨cx, ca⟩
  refine ⟨_, rfl, .inr HI1, ?_⟩
  refine anyI_one (i := 4) (by kernel_rfl) (wpOp_val (v := .bool false) rfl rfl (by go_simp) ⟨.inr HI1, ?_⟩)
  refine anyI_done (by kernel_rfl) ?_ _
  clear oy0
  clear HI0 HI1
  subst hI
  go_wp2_with fail
  refine (toByteS_any _ z1 _ ((rdB_belowB HV1.out tB).wideF tB.size) (by omega)).mono ?_
  rintro e w11 ⟨vvoy1, rfl, oy1, g⟩
  have zz11 : Hid (w10.heap.size ≤ w11.heap.size) := by have := g.size; first | exact this | (simp only [World.size_alloc] at this; exact this)
  have op := op.later g
  have ox0 := ox0.later g
  have ox1 := ox1.later g
  have og := og.later g
  have ca := g.cell ca (by simp)
  have cx := g.cell cx (by simp)
  have tB := tB.grown g tB.size (fun k e => by cases e)
  clear g
  go_wp2_with fail
  refine (eqByteS_same _ _ z1 _ ox1.rd oy1.rd (by omega)).mono ?_
  rintro e w12 ⟨rfl, g⟩
  clear oy1
  have zz12 : Hid (w11.heap.size ≤ w12.heap.size) := by have := g.size; first | exact this | (simp only [World.size_alloc] at this; exact this)
  have op := op.later g
  have ox0 := ox0.later g
  have ox1 := ox1.later g
  have og := og.later g
  have ca := g.cell ca (by simp)
  have cx := g.cell cx (by simp)
  have tB := tB.grown g tB.size (fun k e => by cases e)
  clear g
  go_wp2_with fail
  refine (markFs_any _ _ _ fs 1 _ ox0 (by have := HD.out.len; omega) (fun p hp => by have := HD.out.tlen p hp; omega) (by omega) (by omega)).mono ?_
  rintro e w13 ⟨rfl, _, fr⟩
  have fz : Hid (w12.heap.size ≤ w13.heap.size) := by have := fr.size; first | exact this | (simp only [World.size_alloc] at this; exact this)
  have zz13 := fz
  have op : OwB _ _ _ R := fr.row op (fun g hg => by have := lp g hg; have q1 := zz1.out; have q2 := zz2.out; have q3 := zz3.out; have q4 := zz4.out; have q5 := zz5.out; have q6 := zz6.out; have q7 := zz7.out; have q8 := zz8.out; have q9 := zz9.out; have q10 := zz10.out; have q11 := zz11.out; have q12 := zz12.out; have q13 := zz13.out; omega)
  have ox1 : OwB _ _ _ z1 := fr.row ox1 (fun g hg => by have := lx1 g hg; have q1 := zz1.out; have q2 := zz2.out; have q3 := zz3.out; have q4 := zz4.out; have q5 := zz5.out; have q6 := zz6.out; have q7 := zz7.out; have q8 := zz8.out; have q9 := zz9.out; have q10 := zz10.out; have q11 := zz11.out; have q12 := zz12.out; have q13 := zz13.out; omega)
  have og : OwB _ _ _ R := fr.row og (fun g hg => by have := lg g hg; have q1 := zz1.out; have q2 := zz2.out; have q3 := zz3.out; have q4 := zz4.out; have q5 := zz5.out; have q6 := zz6.out; have q7 := zz7.out; have q8 := zz8.out; have q9 := zz9.out; have q10 := zz10.out; have q11 := zz11.out; have q12 := zz12.out; have q13 := zz13.out; omega)
  have ca := fr.cellF ca (by have q1 := zz1.out; have q2 := zz2.out; have q3 := zz3.out; have q4 := zz4.out; have q5 := zz5.out; have q6 := zz6.out; have q7 := zz7.out; have q8 := zz8.out; have q9 := zz9.out; have q10 := zz10.out; have q11 := zz11.out; have q12 := zz12.out; have q13 := zz13.out; omega)
  have cx := fr.cellF cx (by have q1 := zz1.out; have q2 := zz2.out; have q3 := zz3.out; have q4 := zz4.out; have q5 := zz5.out; have q6 := zz6.out; have q7 := zz7.out; have q8 := zz8.out; have q9 := zz9.out; have q10 := zz10.out; have q11 := zz11.out; have q12 := zz12.out; have q13 := zz13.out; omega)
  have tB := tB.trans ((fr.below (by have q1 := zz1.out; have q2 := zz2.out; have q3 := zz3.out; have q4 := zz4.out; have q5 := zz5.out; have q6 := zz6.out; have q7 := zz7.out; have q8 := zz8.out; have q9 := zz9.out; have q10 := zz10.out; have q11 := zz11.out; have q12 := zz12.out; have q13 := zz13.out; omega)).mono (by have q1 := zz1.out; have q2 := zz2.out; have q3 := zz3.out; have q4 := zz4.out; have q5 := zz5.out; have q6 := zz6.out; have q7 := zz7.out; have q8 := zz8.out; have q9 := zz9.out; have q10 := zz10.out; have q11 := zz11.out; have q12 := zz12.out; have q13 := zz13.out; omega))
  clear fr fz ox0
  go_wp2_with fail
  refine (markByteS_any _ _ z1 (1 + totM fs) _ ox1 (by omega) (by omega) (by omega)).mono ?_
  rintro e w14 ⟨rfl, _, g⟩
  have zz14 : Hid (w13.heap.size ≤ w14.heap.size) := by have := g.size; first | exact this | (simp only [World.size_alloc] at this; exact this)
  have op := op.beside g (fun k hk q hq e => by have := lx1 q hq; have := lp k hk; have q1 := zz1.out; have q2 := zz2.out; have q3 := zz3.out; have q4 := zz4.out; have q5 := zz5.out; have q6 := zz6.out; have q7 := zz7.out; have q8 := zz8.out; have q9 := zz9.out; have q10 := zz10.out; have q11 := zz11.out; have q12 := zz12.out; have q13 := zz13.out; have q14 := zz14.out; omega)
  have og := og.beside g (fun k hk q hq e => by have := lx1 q hq; have := lg k hk; have q1 := zz1.out; have q2 := zz2.out; have q3 := zz3.out; have q4 := zz4.out; have q5 := zz5.out; have q6 := zz6.out; have q7 := zz7.out; have q8 := zz8.out; have q9 := zz9.out; have q10 := zz10.out; have q11 := zz11.out; have q12 := zz12.out; have q13 := zz13.out; have q14 := zz14.out; omega)
  have ca := grown_cellF g ca (fun k hk => by have := lx1 k hk; have q1 := zz1.out; have q2 := zz2.out; have q3 := zz3.out; have q4 := zz4.out; have q5 := zz5.out; have q6 := zz6.out; have q7 := zz7.out; have q8 := zz8.out; have q9 := zz9.out; have q10 := zz10.out; have q11 := zz11.out; have q12 := zz12.out; have q13 := zz13.out; have q14 := zz14.out; omega)
  have cx := grown_cellF g cx (fun k hk => by have := lx1 k hk; have q1 := zz1.out; have q2 := zz2.out; have q3 := zz3.out; have q4 := zz4.out; have q5 := zz5.out; have q6 := zz6.out; have q7 := zz7.out; have q8 := zz8.out; have q9 := zz9.out; have q10 := zz10.out; have q11 := zz11.out; have q12 := zz12.out; have q13 := zz13.out; have q14 := zz14.out; omega)
  have tB := tB.grown g tB.size (fun k hk => by have := lx1 k hk; have q1 := zz1.out; have q2 := zz2.out; have q3 := zz3.out; have q4 := zz4.out; have q5 := zz5.out; have q6 := zz6.out; have q7 := zz7.out; have q8 := zz8.out; have q9 := zz9.out; have q10 := zz10.out; have q11 := zz11.out; have q12 := zz12.out; have q13 := zz13.out; have q14 := zz14.out; omega)
  clear g ox1
  go_wp2_with fail
  refine (eqByteS_same _ _ R _ og.rd op.rd (by omega)).mono ?_
  rintro e w15 ⟨rfl, g⟩
  have zz15 : Hid (w14.heap.size ≤ w15.heap.size) := by have := g.size; first | exact this | (simp only [World.size_alloc] at this; exact this)
  have op := op.later g
  have og := og.later g
  have ca := g.cell ca (by simp)
  have cx := g.cell cx (by simp)
  have tB := tB.grown g tB.size (fun k e => by cases e)
  clear g
  go_wp2_with fail
  refine (markByteS_any _ _ R 1 _ og (by omega) (by omega) (by omega)).mono ?_
  rintro e w16 ⟨rfl, om, g⟩
  have zz16 : Hid (w15.heap.size ≤ w16.heap.size) := by have := g.size; first | exact this | (simp only [World.size_alloc] at this; exact this)
  have op := op.beside g (fun k hk q hq e => by have := lg q hq; have := lp k hk; have q1 := zz1.out; have q2 := zz2.out; have q3 := zz3.out; have q4 := zz4.out; have q5 := zz5.out; have q6 := zz6.out; have q7 := zz7.out; have q8 := zz8.out; have q9 := zz9.out; have q10 := zz10.out; have q11 := zz11.out; have q12 := zz12.out; have q13 := zz13.out; have q14 := zz14.out; have q15 := zz15.out; have q16 := zz16.out; omega)
  have ca := grown_cellF g ca (fun k hk => by have := lg k hk; have q1 := zz1.out; have q2 := zz2.out; have q3 := zz3.out; have q4 := zz4.out; have q5 := zz5.out; have q6 := zz6.out; have q7 := zz7.out; have q8 := zz8.out; have q9 := zz9.out; have q10 := zz10.out; have q11 := zz11.out; have q12 := zz12.out; have q13 := zz13.out; have q14 := zz14.out; have q15 := zz15.out; have q16 := zz16.out; omega)
  have cx := grown_cellF g cx (fun k hk => by have := lg k hk; have q1 := zz1.out; have q2 := zz2.out; have q3 := zz3.out; have q4 := zz4.out; have q5 := zz5.out; have q6 := zz6.out; have q7 := zz7.out; have q8 := zz8.out; have q9 := zz9.out; have q10 := zz10.out; have q11 := zz11.out; have q12 := zz12.out; have q13 := zz13.out; have q14 := zz14.out; have q15 := zz15.out; have q16 := zz16.out; omega)
  have tB := tB.grown g tB.size (fun k hk => by have := lg k hk; have q1 := zz1.out; have q2 := zz2.out; have q3 := zz3.out; have q4 := zz4.out; have q5 := zz5.out; have q6 := zz6.out; have q7 := zz7.out; have q8 := zz8.out; have q9 := zz9.out; have q10 := zz10.out; have q11 := zz11.out; have q12 := zz12.out; have q13 := zz13.out; have q14 := zz14.out; have q15 := zz15.out; have q16 := zz16.out; omega)
  clear g og
  go_wp2_with fail
  refine (heldByteS_any _ R.length 1 _ om.rd (by omega) (by omega) (by omega)).mono ?_
  rintro e w17 ⟨rfl, rfl⟩
  clear om
  go_wp2_with fail
  refine (toFs_any _ fs _ ((HV.out.belowB tB).wide tB.size) HD.out.len HD.out.tlen).mono ?_
  rintro e w17 ⟨vvoh0, rfl, oh0, g⟩
  have zz17 : Hid (w16.heap.size ≤ w17.heap.size) := by have := g.size; first | exact this | (simp only [World.size_alloc] at this; exact this)
  have op := op.later g
  have ca := g.cell ca (by simp)
  have cx := g.cell cx (by simp)
  have tB := tB.grown g tB.size (fun k e => by cases e)
  clear g
  go_wp2_with fail
  refine (toByteS_any _ z1 _ ((rdB_belowB HV1.out tB).wideF tB.size) (by omega)).mono ?_
  rintro e w18 ⟨vvoh1, rfl, oh1, g⟩
  have zz18 : Hid (w17.heap.size ≤ w18.heap.size) := by have := g.size; first | exact this | (simp only [World.size_alloc] at this; exact this)
  have op := op.later g
  have oh0 := oh0.later g
  have ca := g.cell ca (by simp)
  have cx := g.cell cx (by simp)
  have tB := tB.grown g tB.size (fun k e => by cases e)
  clear g
  go_wp2_with fail
  refine (HI.out _ _ _ tB oh0.rd oh1.rd oh1.sl).mono ?_
  rintro e w19 ⟨hp, rfl, oh, g⟩
  clear oh0 oh1
  have zz19 : Hid (w18.heap.size ≤ w19.heap.size) := by have := g.size; first | exact this | (simp only [World.size_alloc] at this; exact this)
  have op := op.later g
  have ca := g.cell ca (by simp)
  have cx := g.cell cx (by simp)
  have tB := tB.grown g tB.size (fun k e => by cases e)
  clear g
  obtain ⟨hha, hhc, q, _⟩ := oh.rd
  subst q
  go_wp2_with fail
  refine (eqByteS_same _ _ R _ oh.rd op.rd (by omega)).mono ?_
  rintro e w20 ⟨rfl, g⟩
  have zz20 : Hid (w19.heap.size ≤ w20.heap.size) := by have := g.size; first | exact this | (simp only [World.size_alloc] at this; exact this)
  have op := op.later g
  have oh := oh.later g
  have ca := g.cell ca (by simp)
  have cx := g.cell cx (by simp)
  have tB := tB.grown g tB.size (fun k e => by cases e)
  clear g
  go_wp2
  go_ret
  exact ⟨rfl, tB⟩

end Go.Proofs.YtkkcnpokobndcaaDoor
