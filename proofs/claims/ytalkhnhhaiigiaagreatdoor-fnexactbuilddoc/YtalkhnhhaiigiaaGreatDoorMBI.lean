import Derived.RegionTactic
import Derived.ChangeAlike
import Derived.BigRegion
import Derived.Test.YtalkhnhhaiigiaaGreatDoorMAI
import Derived.Test.YtalkhnhhaiigiaaGreatDoorMBH
namespace Go.Proofs.YtalkhnhhaiigiaaGreatDoor
open Go.RowKit
attribute [-go_sem] Builtin.append_

theorem grown_setBoth {a b : World} (g : a.grownBy b none) (c o : Nat) (x : Value) (hc : c < a.heap.size) : (a.setCell ⟨c, o, none⟩ x).grownBy (b.setCell ⟨c, o, none⟩ x) none := by
  refine ⟨g.os, g.tape, g.output, by simpa using g.size, fun k hk _ => ?_⟩
  have hk' : k < a.heap.size := by simpa using hk
  have e := g.block k hk' (by simp)
  by_cases h : k = c
  · subst h
    unfold World.setCell
    simp only [Array.getElem?_modify, if_true, e]
  · rw [Below.heap_setCell _ _ _ _ (by simpa using h), Below.heap_setCell _ _ _ _ (by simpa using h)]; exact e

/-- The document and the new text behind the first store. -/
theorem put_mid (H bd : Nat) (ps : List Pc) (t : List Int) (tv v : Value) (w0 w W X : World) (hv : ∃ dv, w0.cell? ⟨bd, 0, none⟩ = some dv ∧ DfR H w0 dv ps) (d0 : W.cell? ⟨bd, 0, none⟩ = some v) (g0 : w0.grownBy w none) (gW : w.grownBy W none) (ht : TxO w0.heap.size w tv t) (hbd : bd < H) (hH : H ≤ w0.heap.size)
    (hX : X = ((W.setCell ⟨bd, 2, none⟩ (.bool false)).drew).drew) : DfR H (w0.setCell ⟨bd, 2, none⟩ (.bool false)) v ps ∧ TxO (w0.setCell ⟨bd, 2, none⟩ (.bool false)).heap.size X tv t ∧ (w0.setCell ⟨bd, 2, none⟩ (.bool false)).grownBy X none := by
  obtain ⟨dv, h1, h2⟩ := hv
  have e := (grown_trans g0 gW).cell h1 (by simp)
  rw [d0] at e
  cases e
  have gd : ∀ U : World, U.grownBy U.drew none := fun U => ⟨rfl, rfl, rfl, Nat.le_refl _, fun _ _ _ => rfl⟩
  refine ⟨h2.set _ _ _ hbd, ?_, ?_⟩
  · have gs : W.grownBy (W.setCell ⟨bd, 2, none⟩ (.bool false)) (some bd) := ⟨rfl, rfl, rfl, by simp, fun i _ hn => Below.heap_setCell _ _ _ _ (fun e => hn (by rw [e]))⟩
    have h3 := ((ht.keep gW).row gs (fun x e h => by cases h; have := (ht.lt bd e).1; omega))
    rw [hX]
    have h4 := (h3.keep (gd _)).keep (gd _)
    simpa using h4
  · rw [hX]
    exact grown_trans (grown_trans (grown_setBoth (grown_trans g0 gW) bd 2 (.bool false) (by omega)) (gd _)) (gd _)

/-- The draft is full. -/
theorem full_end (H bd : Nat) (ps : List Pc) (fb : Bool) (p : Pc) (w0 w W : World) (hd : Draft H w0 bd (ps, fb)) (g0 : w0.grownBy w none) (gW : w.grownBy W none) (hbd : bd < H) (hH : H ≤ w0.heap.size) (hp : putS (ps, fb) p = (ps, true)) :
    Draft H (W.setCell ⟨bd, 2, none⟩ (.bool true)).drew bd (putS (ps, fb) p) ∧ Frd H bd w (W.setCell ⟨bd, 2, none⟩ (.bool true)).drew := by
  have hdW := (hd.keep g0).keep gW
  obtain ⟨dv, h1, h2⟩ := hdW.v
  have gd : ∀ U : World, U.grownBy U.drew none := fun U => ⟨rfl, rfl, rfl, Nat.le_refl _, fun _ _ _ => rfl⟩
  have hs := g0.size
  refine ⟨?_, (Frd.grown gW (by omega) (fun x e => by cases e)).trans ((Frd.set H bd W 2 (.bool true)).trans (Frd.grown (gd _) (by have := gW.size; simp; omega) (fun x e => by cases e)))⟩
  rw [hp]
  have c : ∀ j, j ≠ 2 → (W.setCell ⟨bd, 2, none⟩ (.bool true)).cell? ⟨bd, j, none⟩ = W.cell? ⟨bd, j, none⟩ := fun j hj => World.cell?_setCell_other _ _ _ _ (by intro e; have := congrArg Addr.off e; simp only at this; omega)
  refine Draft.keep (w := W.setCell ⟨bd, 2, none⟩ (.bool true)) ⟨⟨dv, by rw [c 0 (by omega)]; exact h1, h2.set _ _ _ hbd⟩, by rw [c 1 (by omega)]; exact hdW.r, ?_, fun j => by simpa using hdW.fz j, hdW.n, hdW.sm⟩ (gd _)
  have := hdW.f
  simp [go_sem, this]

/-- There was room. -/
theorem ok_end (H bd : Nat) (ps : List Pc) (p : Pc) (w Y : World) (v x : Value) (hdf : DfR H Y v (ps ++ [p])) (r0 : Y.cell? ⟨bd, 0, none⟩ = some v) (r1 : Y.cell? ⟨bd, 1, none⟩ = some x) (r2 : Y.cell? ⟨bd, 2, none⟩ = some (.bool false)) (rf : ∀ j, Y.frozen? ⟨bd, j, none⟩ = false) (hf : Frd H bd w Y) (hbd : bd < H)
    (hn : ps.length < 40000) (hs : ¬ 100000 - sumT ps < (p.t.length : Int)) : Draft H (Y.setCell ⟨bd, 1, none⟩ (.int .i64 (100000 - sumT (ps ++ [p])))).drew bd (ps ++ [p], false) ∧ Frd H bd w (Y.setCell ⟨bd, 1, none⟩ (.int .i64 (100000 - sumT (ps ++ [p])))).drew := by
  have gd : ∀ U : World, U.grownBy U.drew none := fun U => ⟨rfl, rfl, rfl, Nat.le_refl _, fun _ _ _ => rfl⟩
  have c : ∀ j, j ≠ 1 → (Y.setCell ⟨bd, 1, none⟩ (.int .i64 (100000 - sumT (ps ++ [p])))).cell? ⟨bd, j, none⟩ = Y.cell? ⟨bd, j, none⟩ := fun j hj => World.cell?_setCell_other _ _ _ _ (by intro e; have := congrArg Addr.off e; simp only at this; omega)
  refine ⟨Draft.keep (w := Y.setCell ⟨bd, 1, none⟩ (.int .i64 (100000 - sumT (ps ++ [p])))) ⟨⟨v, by rw [c 0 (by omega)]; exact r0, hdf.set _ _ _ hbd⟩, by simp [go_sem, r1], by rw [c 2 (by omega)]; exact r2, fun j => by simpa using rf j, by simp; omega, by simp only [sumT_snoc]; omega⟩ (gd _), ?_⟩
  have h1 := hf.trans (Frd.set H bd Y 1 (.int .i64 (100000 - sumT (ps ++ [p]))))
  exact ⟨h1.os, h1.tape, h1.output, h1.size, h1.block⟩

set_option maxHeartbeats 8000000 in
set_option maxRecDepth 100000 in
theorem put_any (H bd : Nat) (s : List Pc × Bool) (p : Pc) (tv : Value) (w0 w : World) (hd : Draft H w0 bd s) (g0 : w0.grownBy w none) (ht : TxO w0.heap.size w tv p.t) (hbd : bd < H) (hH : H ≤ w0.heap.size) (hn : p.t.length ≤ 1000000000) :
    Calls Tryz.prog 87 #[.pointer (some ⟨bd, 0, none⟩), .agg #[.int .i64 p.k, tv, .int .i64 p.n]] w fun e w' => e = .returned (.tuple #[]) ∧ Draft H w' bd (putS s p) ∧ Frd H bd w w' := by
  have hdw := hd.keep g0
  obtain ⟨dv, c0, hdf⟩ := hdw.v
  have c1 := hdw.r
  have c2 := hdw.f
  have fz := hdw.fz
  have hs1 := hdw.n
  have hs2 := hdw.sm
  have hs3 := sumT_nonneg s.1
  obtain ⟨ta, tcap, htv, _, _⟩ := ht.sl
  obtain ⟨da, dcap, hdv⟩ := hdf.sl
  have HD := hide hd
  have HT := hide ht
  have HG := hide g0
  have hsz := g0.size
  subst htv hdv
  obtain ⟨W, hW⟩ : ∃ W, W = w.alloc (Obj.cells #[Value.int IntKind.i64 p.k, .slice ta p.t.length tcap, Value.int IntKind.i64 p.n] 59) := ⟨_, rfl⟩
  have gW : w.grownBy W none := by rw [hW]; exact World.grownBy_alloc _ _ _
  have sW : W.heap.size = w.heap.size + 1 := by rw [hW]; simp
  have d0 := gW.cell c0 (by simp)
  have d1 := gW.cell c1 (by simp)
  have d2 := gW.cell c2 (by simp)
  have d3 : W.cell? ⟨w.heap.size, 1, none⟩ = some (.slice ta p.t.length tcap) := by rw [hW]; simp [go_sem]
  have e0 : W.cell? ⟨w.heap.size, 0, none⟩ = some (.int .i64 p.k) := by rw [hW]; simp [go_sem]
  have e2 : W.cell? ⟨w.heap.size, 2, none⟩ = some (.int .i64 p.n) := by rw [hW]; simp [go_sem]
  have f2 : ∀ j, W.frozen? ⟨bd, j, none⟩ = false := fun j => by rw [World.frozen?_of_block (gW.block bd (World.block_lt_of_cell? w _ c0) (by simp))]; exact fz j
  have f2' := f2 2
  have GW := hide gW
  have HW := hide hW
  clear c0 c1 c2 fz hdw hd ht g0 hdf gW
  obtain ⟨ps, full⟩ := s
  simp only at *
  cases full with
  | true =>
    have HR := hide (show putS (ps, true) p = (ps, true) by simp [putS])
    go_enter Tryz.func87, Tryz.ntmps87
    go_wp2
    rw [← HW.out]
    clear hW
    go_region
    go_wp2
    refine bodyPost_ret (results_none rfl _ _ _) rfl ?_
    exact ⟨rfl, full_end H bd ps true p w0 w W HD.out HG.out GW.out hbd hH HR.out⟩
  | false =>
    by_cases hA : ps.length = 40000
    · have HR := hide (show putS (ps, false) p = (ps, true) by simp [putS, hA])
      have hA' : ((ps.length : Int) == 40000) = true := by simp; omega
      go_enter Tryz.func87, Tryz.ntmps87
      go_wp2
      rw [← HW.out]
      clear hW
      go_region
      go_wp2
      refine bodyPost_ret (results_none rfl _ _ _) rfl ?_
      exact ⟨rfl, full_end H bd ps false p w0 w W HD.out HG.out GW.out hbd hH HR.out⟩
    · have hA' : ((ps.length : Int) == 40000) = false := by simp; omega
      by_cases hB : 100000 - sumT ps < (p.t.length : Int)
      · have HR := hide (show putS (ps, false) p = (ps, true) by simp [putS, hB])
        have hB' : decide (100000 - sumT ps < (p.t.length : Int)) = true := by simpa using hB
        go_enter Tryz.func87, Tryz.ntmps87
        go_wp2
        rw [← HW.out]
        clear hW
        generalize 100000 - sumT ps = rm at *
        go_region
        go_wp2
        refine bodyPost_ret (results_none rfl _ _ _) rfl ?_
        exact ⟨rfl, full_end H bd ps false p w0 w W HD.out HG.out GW.out hbd hH HR.out⟩
      · have HR := hide (show putS (ps, false) p = (ps ++ [p], false) by unfold putS; rw [if_neg (by simp; omega)])
        have hB' : decide (100000 - sumT ps < (p.t.length : Int)) = false := by simpa using hB
        have HRM : Hid (100000 - sumT (ps ++ [p]) = 100000 - sumT ps - p.t.length) := by unfold Hid; rw [sumT_snoc]; omega
        obtain ⟨X, hX⟩ : ∃ X, X = ((W.setCell ⟨bd, 2, none⟩ (.bool false)).drew).drew := ⟨_, rfl⟩
        obtain ⟨hdX, htX, gX⟩ := put_mid H bd ps p.t (.slice ta p.t.length tcap) (.slice da ps.length dcap) w0 w W X HD.out.v d0 HG.out GW.out HT.out hbd hH hX
        have hXs : X.heap.size = w.heap.size + 1 := by rw [hX]; simp [sW]
        obtain ⟨v2, w2, run2, o2, g2, a2, c2, hv2⟩ := hdX.push p.k p.n _ p.t gX htX (by simpa using hH) (by omega)
        rw [hXs] at run2
        have HO2 := hide o2
        have hvl : ∀ x, (Value.slice da ps.length dcap).ownBlock = some x → H ≤ x := fun x e => (hdX.lt x e).1
        have bX : ∀ j, X.cell? ⟨bd, j, none⟩ = if j = 2 then some (.bool false) else W.cell? ⟨bd, j, none⟩ := fun j => by
          rw [hX]
          by_cases h : j = 2
          · subst h; simp [go_sem, d2]
          · rw [if_neg h]; show (W.setCell _ _).cell? _ = _; rw [World.cell?_setCell_other _ _ _ _ (by intro e; have := congrArg Addr.off e; simp only at this; omega)]
        have wX : ∀ j, X.cell? ⟨w.heap.size, j, none⟩ = W.cell? ⟨w.heap.size, j, none⟩ := fun j => by
          rw [hX]
          show (W.setCell _ _).cell? _ = _
          rw [World.cell?_setCell_other _ _ _ _ (by intro e; have := congrArg Addr.block e; simp only at this; omega)]
        have fX : ∀ j, X.frozen? ⟨bd, j, none⟩ = false := fun j => by rw [hX]; simpa using f2 j
        obtain ⟨I, hI⟩ : ∃ I : World → Prop, I = (fun U : World => U.cell? ⟨bd, 0, none⟩ = some (.slice da ps.length dcap) ∧ U.frozen? ⟨bd, 0, none⟩ = false ∧ U.cell? ⟨w.heap.size, 0, none⟩ = some (.int .i64 p.k) ∧ U.cell? ⟨w.heap.size, 1, none⟩ = some (.slice ta p.t.length tcap) ∧ U.cell? ⟨w.heap.size, 2, none⟩ = some (.int .i64 p.n)) := ⟨_, rfl⟩
        have HI0 : I X := by rw [hI]; exact ⟨by rw [bX]; exact d0, fX 0, by rw [wX]; exact e0, by rw [wX]; exact d3, by rw [wX]; exact e2⟩
        have gA := World.grownBy_alloc X (Obj.cells #[.int .i64 p.k, .slice ta p.t.length tcap, .int .i64 p.n] 59) none
        have kpI : ∀ (U : World) (r : Option Nat), X.grownBy U r → (∀ x, r = some x → x ≠ bd ∧ x ≠ w.heap.size) → I U := fun U r g hr => by
          rw [hI] at HI0 ⊢
          have n1 : some bd ≠ r := fun e => (hr bd e.symm).1 rfl
          have n2 : some w.heap.size ≠ r := fun e => (hr _ e.symm).2 rfl
          exact ⟨g.cell HI0.1 n1, by rw [World.frozen?_of_block (g.block bd (World.block_lt_of_cell? X _ HI0.1) n1)]; exact HI0.2.1, g.cell HI0.2.2.1 n2, g.cell HI0.2.2.2.1 n2, g.cell HI0.2.2.2.2 n2⟩
        have HI1 := kpI _ none gA (fun x e => by cases e)
        have HI2 := kpI _ _ g2 (fun x e => by have h1 := hvl x e; have h2 := (hdX.lt x e).2; simp at h2; have := HG.out.size; omega)
        have G2 := hide g2
        have hw2 := g2.size
        have q1 : w2.cell? ⟨bd, 1, none⟩ = some (.int .i64 (100000 - sumT ps)) := g2.cell (by rw [bX]; simpa using d1) (fun e => by have := hvl bd e.symm; omega)
        have q2 : w2.cell? ⟨bd, 2, none⟩ = some (.bool false) := g2.cell (by rw [bX]; simp) (fun e => by have := hvl bd e.symm; omega)
        have qf : ∀ j, w2.frozen? ⟨bd, j, none⟩ = false := fun j => by
          rw [World.frozen?_of_block (g2.block bd (by rw [hXs]; have := World.block_lt_of_cell? _ _ q1; omega) (fun e => by have := hvl bd e.symm; omega))]; exact fX j
        have HF2 : Hid (Frd H bd w w2) := ((Frd.grown GW.out (by omega) (fun x e => by cases e)).trans ((Frd.set H bd W 2 (.bool false)).trans ⟨by rw [hX]; rfl, by rw [hX]; rfl, by rw [hX]; rfl, by rw [hX]; simp, fun k _ _ => by rw [hX]; rfl⟩)).trans (Frd.grown g2 (by omega) (fun x e => .inl (hvl x e)))
        have QF := hide qf
        have qf1 := qf 1
        have qf0 := qf 0
        subst hv2
        have h3' := HI2
        rw [hI] at h3'
        obtain ⟨y0, y1, y2, y3, y4⟩ := h3'
        have hp0 := sumT_nonneg ps
        have HXH := hide hX
        clear o2 g2 gA kpI wX bX hdX htX gX qf hX
        go_enter Tryz.func87, Tryz.ntmps87
        go_wp2
        rw [← HW.out]
        clear hW
        generalize hrm : 100000 - sumT ps = rm at *
        go_region
        go_wp2
        refine region_anyI I (fun i => i == 10) (by kernel_rfl) ?_
        rw [← HXH.out]
        show anyI _ _ _ _ _ _ 11 (Array.replicate 11 false) _ _
        refine anyI_take (i := 0) (.pointer (some ⟨bd, 0, none⟩)) rfl (by kernel_rfl) (by kernel_rfl) (by kernel_rfl) (by kernel_rfl) (fun _ _ _ h => h) HI0 (yldI rfl (fun W hW => by go_simp)) ?_
        refine anyI_take (i := 1) (.pointer (some ⟨bd, 0, none⟩)) rfl (by kernel_rfl) (by kernel_rfl) (by kernel_rfl) (by kernel_rfl) (fun _ _ _ h => h) HI0 (yldI rfl (fun W hW => by go_simp)) ?_
        refine anyI_take (i := 2) (.pointer (some ⟨bd, 0, none⟩)) rfl (by kernel_rfl) (by kernel_rfl) (by kernel_rfl) (by kernel_rfl) (fun _ _ _ h => h) HI0 (yldI rfl (fun W hW => by go_simp)) ?_
        refine anyI_take (i := 3) (.pointer (some ⟨bd, 0, none⟩)) rfl (by kernel_rfl) (by kernel_rfl) (by kernel_rfl) (by kernel_rfl) (fun _ _ _ h => h) HI0 (yldI rfl (fun W hW => by go_simp)) ?_
        refine anyI_take (i := 4) (.slice da ps.length dcap) rfl (by kernel_rfl) (by kernel_rfl) (by kernel_rfl) (by kernel_rfl) (fun _ _ _ h => h) HI0 (yldI rfl (fun W hW => by rw [hI] at hW; obtain ⟨h1, h2, h3, h4, h5⟩ := hW; go_simp)) ?_
        refine anyI_take (i := 5) (.agg #[.int .i64 p.k, .slice ta p.t.length tcap, .int .i64 p.n]) rfl (by kernel_rfl) (by kernel_rfl) (by kernel_rfl) (by kernel_rfl) (fun _ _ _ h => h) HI0 (yldI rfl (fun W hW => by rw [hI] at hW; obtain ⟨h1, h2, h3, h4, h5⟩ := hW; go_simp)) ?_
        generalize hG : Act.put _ _ _ = A0
        simp [Act.put] at hG
        subst hG
        refine anyI_one (i := 6) (by kernel_rfl) (wpOp_val (w' := X.alloc (Obj.cells #[.int .i64 p.k, .slice ta p.t.length tcap, .int .i64 p.n] 59)) (v := .slice (some ⟨X.heap.size, 0, none⟩) 1 1) rfl rfl (by go_simp) ⟨.inr HI1, ?_⟩)
        refine anyI_one (i := 7) (by kernel_rfl) (wpOp_val (w' := w2) (v := .slice a2 (ps.length + 1) c2) rfl rfl (by go_simp) ⟨.inr HI2, ?_⟩)
        refine anyI_one (i := 8) (by kernel_rfl) (wpOp_val (w' := w2) (v := .pointer (some ⟨bd, 0, none⟩)) rfl rfl (by go_simp) ⟨.inr HI2, ?_⟩)
        refine anyI_one (i := 9) (by kernel_rfl) (wpOp_val (w' := w2) (v := .pointer (some ⟨bd, 0, none⟩)) rfl rfl (by go_simp) ⟨.inr HI2, ?_⟩)
        refine anyI_one (i := 10) (by kernel_rfl) (wpOp_skip (w' := w2.setCell ⟨bd, 0, none⟩ (.slice a2 (ps.length + 1) c2)) rfl rfl (by go_simp) ⟨.inl rfl, ?_⟩)
        refine anyI_done (by kernel_rfl) ?_ _
        subst hI
        obtain ⟨Y, hY⟩ : ∃ Y, Y = w2.setCell ⟨bd, 0, none⟩ (.slice a2 (ps.length + 1) c2) := ⟨_, rfl⟩
        have hYc : ∀ j, j ≠ 0 → Y.cell? ⟨bd, j, none⟩ = w2.cell? ⟨bd, j, none⟩ := fun j hj => by rw [hY]; exact World.cell?_setCell_other _ _ _ _ (by intro e; have := congrArg Addr.off e; simp only at this; omega)
        have r1 : Y.cell? ⟨bd, 1, none⟩ = some (.int .i64 rm) := by rw [hYc 1 (by omega)]; exact q1
        have r2 : Y.cell? ⟨bd, 2, none⟩ = some (.bool false) := by rw [hYc 2 (by omega)]; exact q2
        have r0 : Y.cell? ⟨bd, 0, none⟩ = some (.slice a2 (ps.length + 1) c2) := by rw [hY]; simp [go_sem, y0]
        have r3 : Y.cell? ⟨w.heap.size, 1, none⟩ = some (.slice ta p.t.length tcap) := by rw [hY, World.cell?_setCell_other _ _ _ _ (by intro e; have := congrArg Addr.block e; simp only at this; omega)]; exact y3
        have rf : ∀ j, Y.frozen? ⟨bd, j, none⟩ = false := fun j => by rw [hY]; simpa using QF.out j
        have rf1 := rf 1
        have RF := hide rf
        have HDF : Hid (DfR H Y (.slice a2 (ps.length + 1) c2) (ps ++ [p])) := by unfold Hid; rw [hY]; exact HO2.out.set _ _ _ hbd
        have HFY : Hid (Frd H bd w Y) := by unfold Hid; rw [hY]; exact HF2.out.trans (Frd.set _ _ _ _ _)
        clear HI0 HI1 HI2 run2 y0 y1 y2 y3 y4 q1 q2 qf0 qf1 hYc rf d0 d1 d2 d3 e0 e2 f2 f2'
        go_wp2
        rw [← hY]
        clear hY
        go_region
        all_goals go_wp2
        all_goals go_end0
        all_goals rw [HR.out]
        all_goals have hfin := ok_end H bd ps p w Y _ _ HDF.out r0 r1 r2 RF.out HFY.out hbd (by have := hs1; omega) (by have := hB; rw [← hrm] at this; omega)
        all_goals rw [HRM.out] at hfin
        all_goals have hrb : rm ≤ 100000 := by omega
        all_goals have hrl : (p.t.length : Int) ≤ rm := by omega
        all_goals have hwr : IntKind.i64.wrap (rm - ↑p.t.length) = rm - ↑p.t.length := by rw [IntKind.wrap_i64]; omega
        all_goals rw [hwr]
        all_goals exact ⟨rfl, hfin⟩
end Go.Proofs.YtalkhnhhaiigiaaGreatDoor

namespace Go.Proofs.YtalkhnhhaiigiaaGreatDoor
open Go.RowKit

/-- A function value that puts ps down; F: the blocks that it lives in. -/
def PartAt (w : World) (F : Nat → Prop) (f : Nat) (caps : Array Value) (ps : List Pc) : Prop :=
  (∀ (args : Array Value) (W : World), (callFunc f args).run Tryz.prog W = .ok (.enter f args) W) ∧ (∀ p ∈ ps, p.t.length ≤ 1000000000) ∧
  ∀ (H bd : Nat) (W : World) (s : List Pc × Bool), (∀ k, F k → k < H ∧ k ≠ bd ∧ W.heap[k]? = w.heap[k]?) → Draft H W bd s → bd < H → H ≤ W.heap.size →
    Calls Tryz.prog f (#[.pointer (some ⟨bd, 0, none⟩)] ++ caps) W fun e W' => e = .returned (.tuple #[]) ∧ Draft H W' bd (putsS s ps) ∧ Frd H bd W W'
theorem PartAt.at {w w' : World} {F F' : Nat → Prop} {f : Nat} {caps : Array Value} {ps : List Pc} (h : PartAt w F f caps ps) (hF : ∀ k, F k → F' k) (hw : ∀ k, F k → w'.heap[k]? = w.heap[k]?) : PartAt w' F' f caps ps :=
  ⟨h.1, h.2.1, fun H bd W s hk => h.2.2 H bd W s (fun k hF' => ⟨(hk k (hF k hF')).1, (hk k (hF k hF')).2.1, (hk k (hF k hF')).2.2.trans (hw k hF')⟩)⟩

theorem cell_of_heap {w w' : World} {b o : Nat} {v : Value} (h : w.cell? ⟨b, o, none⟩ = some v) (e : w'.heap[b]? = w.heap[b]?) : w'.cell? ⟨b, o, none⟩ = some v := by
  rw [← h]; exact World.cell?_of_block e
theorem Frd.draftless {H bd : Nat} {w w' : World} (h : Frd H bd w w') (hH : H ≤ w.heap.size) : H ≤ w'.heap.size := Nat.le_trans hH h.size

set_option maxHeartbeats 2000000 in
set_option maxRecDepth 100000 in
theorem textRun (H bd g : Nat) (s : List Pc × Bool) (wl : List Int) (hb : Bys wl) (hn : wl.length ≤ 1000000000) (W : World) (hc : W.cell? ⟨g, 0, none⟩ = some (.string (strOfNums wl))) (hd : Draft H W bd s) (hbd : bd < H) (hH : H ≤ W.heap.size) :
    Calls Tryz.prog 106 #[.pointer (some ⟨bd, 0, none⟩), .pointer (some ⟨g, 0, none⟩)] W fun e W' => e = .returned (.tuple #[]) ∧ Draft H W' bd (putS s ⟨1, wl, 0⟩) ∧ Frd H bd W W' := by
  obtain ⟨cap, w1, hrun, hT, g1, hs, hf⟩ := conv_bytes wl hb hn W
  have ht : TxO W.heap.size w1 (.slice (some ⟨W.heap.size, 0, none⟩) wl.length cap) wl := by
    obtain ⟨a, cap', e, k1, k2, k3⟩ := hT
    simp only [Value.slice.injEq] at e
    obtain ⟨rfl, _, rfl⟩ := e
    refine .inr ⟨W.heap.size, cap, rfl, k1, k2, Nat.le_refl _, by omega, fun j hj => ⟨?_, hf j hj⟩⟩
    obtain ⟨b, off, ha, _, hc⟩ := k3 (fun e => by rw [e] at hj; simp at hj)
    cases ha
    have := hc j hj
    rwa [Nat.zero_add] at this
  have HP := hide (put_any H bd s ⟨1, wl, 0⟩ _ W w1 hd g1 ht hbd hH hn)
  have HG := hide g1
  clear hd ht hT hf hs g1
  go_enter Tryz.func106, Tryz.ntmps106
  go_wp2_with fail
  refine HP.out.mono ?_
  rintro e w2 ⟨rfl, h1, h2⟩
  have HF := hide ((Frd.grown (bd := bd) HG.out hH (fun x e => by cases e)).trans h2)
  have HD := hide h1
  clear HP h1 h2
  go_wp2
  go_end0
  exact ⟨rfl, HD.out, HF.out⟩

set_option maxHeartbeats 2000000 in
set_option maxRecDepth 100000 in
theorem textPart_any (wl : List Int) (hb : Bys wl) (hn : wl.length ≤ 1000000000) (w : World) :
    Calls Tryz.prog 81 #[.string (strOfNums wl)] w fun e w' => ∃ f caps, e = .returned (.func (.func f) #[] caps) ∧ PartAt w' (fun k => w.heap.size ≤ k ∧ k < w'.heap.size) f caps (textP wl) ∧ w.grownBy w' none := by
  go_enter Tryz.func81, Tryz.ntmps81
  go_wp2
  go_ret
  refine ⟨_, _, rfl, ⟨fun args W => by kernel_rfl, fun p hp => by simp [textP] at hp; subst hp; exact hn, fun H bd W s hk hd hbd hH => ?_⟩, World.grownBy_alloc _ _ _⟩
  have h0 := hk w.heap.size ⟨Nat.le_refl _, by simp⟩
  exact textRun H bd w.heap.size s wl hb hn W (cell_of_heap (w := w.alloc (Obj.cells #[.string (strOfNums wl)] 9)) (by simp [go_sem]) h0.2.2) hd hbd hH

/-- A list of such functions. -/
def PaR (w : World) (F : Nat → Prop) (v : Value) (dss : List (List Pc)) : Prop :=
  ∃ a cap, v = .slice a dss.length cap ∧ dss.length ≤ cap ∧ cap ≤ maxLen ∧ (dss ≠ [] → ∃ b off, a = some ⟨b, off, none⟩ ∧ F b ∧ b < w.heap.size ∧ ∀ (j : Nat) (ds : List Pc), dss[j]? = some ds → ∃ f caps, w.cell? ⟨b, off + j, none⟩ = some (.func (.func f) #[] caps) ∧ PartAt w F f caps ds)
theorem PaR.at {w w' : World} {F F' : Nat → Prop} {v : Value} {dss : List (List Pc)} (h : PaR w F v dss) (hF : ∀ k, F k → F' k) (hs : w.heap.size ≤ w'.heap.size) (hw : ∀ k, F k → w'.heap[k]? = w.heap[k]?) : PaR w' F' v dss := by
  obtain ⟨a, cap, e, h1, h2, h3⟩ := h
  refine ⟨a, cap, e, h1, h2, fun h0 => ?_⟩
  obtain ⟨b, off, ha, hb, hbs, hc⟩ := h3 h0
  refine ⟨b, off, ha, hF b hb, by omega, fun j ds hj => ?_⟩
  obtain ⟨f, caps, h4, h5⟩ := hc j ds hj
  exact ⟨f, caps, cell_of_heap h4 (hw b hb), h5.at hF hw⟩
theorem PaR.sl {w : World} {F : Nat → Prop} {v : Value} {dss : List (List Pc)} (h : PaR w F v dss) : Sl v dss.length := by
  obtain ⟨a, cap, e, h1, h2, _⟩ := h
  exact ⟨a, cap, e, h1, h2⟩
end Go.Proofs.YtalkhnhhaiigiaaGreatDoor

namespace Go.Proofs.YtalkhnhhaiigiaaGreatDoor
open Go.RowKit

theorem putsS_one (s : List Pc × Bool) (p : Pc) : putsS s [p] = putS s p := rfl

set_option maxHeartbeats 4000000 in
set_option maxRecDepth 100000 in
theorem overRun (H bd b1 b2 : Nat) (s : List Pc × Bool) (F : Nat → Prop) (kd n : Int) (v : Value) (dss : List (List Pc)) (W : World) (hF : ∀ k, F k → k < H ∧ k ≠ bd) (hb2 : b2 < H ∧ b2 ≠ bd) (hl : dss.length ≤ 1000000000)
    (c1 : W.cell? ⟨b1, 0, none⟩ = some v) (c20 : W.cell? ⟨b2, 0, none⟩ = some (.int .i64 kd)) (c21 : W.cell? ⟨b2, 1, none⟩ = some (.slice none 0 0)) (c22 : W.cell? ⟨b2, 2, none⟩ = some (.int .i64 n)) (hp : PaR W F v dss) (hd : Draft H W bd s) (hbd : bd < H) (hH : H ≤ W.heap.size) :
    Calls Tryz.prog 111 #[.pointer (some ⟨bd, 0, none⟩), .pointer (some ⟨b1, 0, none⟩), .pointer (some ⟨b2, 0, none⟩)] W fun e W' => e = .returned (.tuple #[]) ∧ Draft H W' bd (putsS s (dss.flatten ++ [⟨kd, [], n⟩])) ∧ Frd H bd W W' := by
  obtain ⟨a, cap, hv, hc1, hc2, hh⟩ := id hp
  have HH := hide hh
  have HD := hide hd
  subst hv
  clear hd hh hp
  go_enter Tryz.func111, Tryz.ntmps111
  go_wp2
  go_loopw [8] (fun i U => ∃ (j : Nat), j ≤ dss.length ∧ i = .int .i64 j ∧ Draft H U bd (putsS s (dss.take j).flatten) ∧ Frd H bd W U)
    (fun i _ => dss.length - (intOf i).toNat)
  case atStart => exact ⟨0, Nat.zero_le _, rfl, by simpa [putsS] using HD.out, Frd.refl _ _ _⟩
  case round =>
    obtain ⟨j, hj, rfl, hdr, hfr⟩ := hrel
    have hHr := hfr.draftless hH
    by_cases hlt : j < dss.length
    · obtain ⟨b, off, ha, hb, hbs, hc⟩ := HH.out (fun e => by rw [e] at hlt; simp at hlt)
      obtain ⟨f, caps, hcj, hpt⟩ := hc j dss[j] (by simp [hlt])
      have hcj' : wr.cell? ⟨b, off + j, none⟩ = some (.func (.func f) #[] caps) := cell_of_heap hcj (hfr.block b (hF b hb).1 (hF b hb).2)
      have hE := hpt.1
      have HC := hide (hpt.2.2 H bd wr _ (fun k hk => ⟨(hF k hk).1, (hF k hk).2, hfr.block k (hF k hk).1 (hF k hk).2⟩) hdr hbd hHr)
      have HT := hide (show (dss.take (j + 1)).flatten = (dss.take j).flatten ++ dss[j] by rw [show dss.take (j + 1) = dss.take j ++ [dss[j]] by rw [List.take_add_one]; simp [hlt], List.flatten_append, List.flatten_singleton])
      have HFR := hide hfr
      subst ha
      clear hcj hpt hc hdr hfr
      generalize dss[j] = ds at *
      go_wp2_with fail
      refine HC.out.mono ?_
      rintro e w1 ⟨rfl, h1, h2⟩
      have HD1 : Hid (Draft H w1 bd (putsS s (dss.take (j + 1)).flatten)) := by unfold Hid; rw [HT.out, putsS_app]; exact h1
      have HF1 := hide (HFR.out.trans h2)
      clear HC h1 h2 HT
      go_wp2
      go_roundw
      case rel => exact ⟨j + 1, by omega, by go_num, HD1.out, HF1.out⟩
      case measure => simp [intOf]; omega
    · have hjn : j = dss.length := by omega
      subst hjn
      rw [List.take_length] at hdr
      have q0 : wr.cell? ⟨b2, 0, none⟩ = some (.int .i64 kd) := cell_of_heap c20 (hfr.block b2 hb2.1 hb2.2)
      have q1 : wr.cell? ⟨b2, 1, none⟩ = some (.slice none 0 0) := cell_of_heap c21 (hfr.block b2 hb2.1 hb2.2)
      have q2 : wr.cell? ⟨b2, 2, none⟩ = some (.int .i64 n) := cell_of_heap c22 (hfr.block b2 hb2.1 hb2.2)
      have HP := hide (put_any H bd _ ⟨kd, [], n⟩ (.slice none 0 0) wr wr hdr (World.grownBy.refl _ _) (TxO.nil _ _) hbd hHr (by simp))
      have HFR := hide hfr
      clear hdr hfr c1 c20 c21 c22
      go_wp2_with fail
      refine HP.out.mono ?_
      rintro e w1 ⟨rfl, h1, h2⟩
      have HD1 : Hid (Draft H w1 bd (putsS s (dss.flatten ++ [⟨kd, [], n⟩]))) := by unfold Hid; rw [putsS_app]; exact h1
      have HF1 := hide (HFR.out.trans h2)
      clear HP h1 h2
      go_wp2
      go_end0
      exact ⟨rfl, HD1.out, HF1.out⟩

set_option maxHeartbeats 4000000 in
set_option maxRecDepth 100000 in
theorem rowRun (H bd b1 : Nat) (s : List Pc × Bool) (F : Nat → Prop) (v : Value) (d0 : List Pc) (dss : List (List Pc)) (W : World) (hF : ∀ k, F k → k < H ∧ k ≠ bd) (hb1 : b1 < H ∧ b1 ≠ bd) (hl : dss.length ≤ 1000000000)
    (c1 : W.cell? ⟨b1, 0, none⟩ = some v) (hp : PaR W F v (d0 :: dss)) (hd : Draft H W bd s) (hbd : bd < H) (hH : H ≤ W.heap.size) :
    Calls Tryz.prog 86 #[.pointer (some ⟨bd, 0, none⟩), .pointer (some ⟨b1, 0, none⟩)] W fun e W' => e = .returned (.tuple #[]) ∧ Draft H W' bd (putsS s (d0 ++ rowT dss)) ∧ Frd H bd W W' := by
  obtain ⟨a, cap, hv, hc1, hc2, hh⟩ := id hp
  obtain ⟨b, off, ha, hb, hbs, hc⟩ := hh (by simp)
  obtain ⟨f0, caps0, hc0, hpt0⟩ := hc 0 d0 rfl
  have HH := hide hc
  have hE0 := hpt0.1
  have HC0 := hide (hpt0.2.2 H bd W s (fun k hk => ⟨(hF k hk).1, (hF k hk).2, rfl⟩) hd hbd hH)
  have hll : (d0 :: dss).length = dss.length + 1 := rfl
  rw [hll] at hv hc1
  rw [Nat.add_zero] at hc0
  have hcm : cap ≤ 9223372036854775807 := by unfold maxLen at hc2; omega
  subst ha hv
  clear hd hh hp hpt0 hc
  go_enter Tryz.func86, Tryz.ntmps86
  go_wp2_with fail
  refine HC0.out.mono ?_
  rintro e w1 ⟨rfl, hd1, hf1⟩
  have HD1 := hide hd1
  have HF1 := hide hf1
  have c1' : w1.cell? ⟨b1, 0, none⟩ = some (.slice (some ⟨b, off, none⟩) (dss.length + 1) cap) := cell_of_heap c1 (hf1.block b1 hb1.1 hb1.2)
  clear HC0 hd1 hf1 hc0 hE0
  have hcap : 1 ≤ cap := by omega
  by_cases hcc : cap = 1
  · have hd0 : dss = [] := List.eq_nil_of_length_eq_zero (by omega)
    subst hd0 hcc
    simp only [List.length_nil, Nat.zero_add] at c1' ⊢
    go_wp2
    go_loopw [13] (fun i U => i = .int .i64 0 ∧ w1 = U) (fun i _ => 0)
    case atStart => exact ⟨rfl, rfl⟩
    case round =>
      obtain ⟨rfl, rfl⟩ := hrel
      go_wp2
      go_end0
      exact ⟨rfl, by simpa [rowT] using HD1.out, HF1.out⟩
  · have hcne : (cap == 1) = false := by simpa using hcc
    go_wp2
    go_loopw [13] (fun i U => ∃ (j : Nat), j ≤ dss.length ∧ i = .int .i64 j ∧ Draft H U bd (putsS s (d0 ++ rowT (dss.take j))) ∧ Frd H bd W U)
      (fun i _ => dss.length - (intOf i).toNat)
    case atStart => exact ⟨0, Nat.zero_le _, rfl, by simpa [rowT] using HD1.out, HF1.out⟩
    case round =>
      obtain ⟨j, hj, rfl, hdr, hfr⟩ := hrel
      have hHr := hfr.draftless hH
      by_cases hlt : j < dss.length
      · obtain ⟨f, caps, hcj, hpt⟩ := HH.out (j + 1) dss[j] (by simp [hlt])
        have hcj' : wr.cell? ⟨b, off + 1 + j, none⟩ = some (.func (.func f) #[] caps) := cell_of_heap (by rw [show off + 1 + j = off + (j + 1) by omega]; exact hcj) (hfr.block b (hF b hb).1 (hF b hb).2)
        have hE := hpt.1
        have HC := hide (hpt.2.2 H bd wr _ (fun k hk => ⟨(hF k hk).1, (hF k hk).2, hfr.block k (hF k hk).1 (hF k hk).2⟩) hdr hbd hHr)
        have HT := hide (show rowT (dss.take (j + 1)) = rowT (dss.take j) ++ (dss[j] ++ [catP]) by rw [show dss.take (j + 1) = dss.take j ++ [dss[j]] by rw [List.take_add_one]; simp [hlt], rowT_snoc])
        have HFR := hide hfr
        clear hcj hpt hdr hfr
        generalize dss[j] = ds at *
        go_wp2_with fail
        refine HC.out.mono ?_
        rintro e w2 ⟨rfl, h1, h2⟩
        have HP := hide (put_any H bd _ ⟨6, [], 0⟩ (.slice none 0 0) w2 w2 h1 (World.grownBy.refl _ _) (TxO.nil _ _) hbd (h2.draftless hHr) (by simp))
        have HF2 := hide (HFR.out.trans h2)
        clear HC h1 h2
        go_wp2_with fail
        refine HP.out.mono ?_
        rintro e w3 ⟨rfl, h1, h2⟩
        have HD3 : Hid (Draft H w3 bd (putsS s (d0 ++ rowT (dss.take (j + 1))))) := by
          unfold Hid
          rw [HT.out]
          have e : d0 ++ (rowT (dss.take j) ++ (ds ++ [catP])) = ((d0 ++ rowT (dss.take j)) ++ ds) ++ [catP] := by simp
          rw [e, putsS_app, putsS_app]
          exact h1
        have HF3 := hide (HF2.out.trans h2)
        clear HP h1 h2 HT
        go_wp2
        go_roundw
        case rel => exact ⟨j + 1, by omega, by go_num, HD3.out, HF3.out⟩
        case measure => simp [intOf]; omega
      · have hjn : j = dss.length := by omega
        subst hjn
        rw [List.take_length] at hdr
        have HDR := hide hdr
        clear hdr
        go_wp2
        go_end0
        exact ⟨rfl, HDR.out, hfr⟩
end Go.Proofs.YtalkhnhhaiigiaaGreatDoor

