import Derived.Deep.LoopGhost
import Derived.Test.YtakkdniikhgpdaaGreatDoorNAX
namespace Go.Proofs.YtakkdniikhgpdaaGreatDoor
open Go.RowKit
attribute [-go_sem] Builtin.append_

theorem RwF.boxn {F B b : Nat} {w : World} {v : Value} {fs : List Fl} {a : Option Addr} {n c : Nat} (h : RwF F B w v fs) (hb : Bx w b (.slice a n c)) (hne : v.ownBlock ≠ some b) (u : Value) : RwF F B (w.setCell ⟨b, 0, none⟩ u) v fs := by
  refine h.low ⟨b, 0, none⟩ u hne (fun b' off z hz e => ⟨z, rfl, fun q e2 => ?_⟩)
  simp only at e
  subst e
  rw [cell_of_row w b' off _ _ _ hb] at hz
  cases off with
  | zero => simp at hz; rw [← hz] at e2; cases e2
  | succ o => simp at hz
theorem KD.row {F B g : Nat} {v u : Value} {zs : List Int} {Γ Γ1 : Gk} {w W : World} {i : Nat} {fs : List Fl} (D : KD F v zs Γ w i Γ1 W) (h : RwF F B W u fs) (hg : u.ownBlock = some g) (hB : w.heap.size ≤ B) (j : Nat) (z : Value) : KD F v zs Γ w i Γ1 (W.setCell ⟨g, j, none⟩ z) := by
  obtain ⟨_, xs, hl, ho, _⟩ := h
  have hlt := World.ownsRow.lt ho g hg
  rcases ho.2 with ⟨hv, _⟩ | ⟨g', cap, cur, hv, hb, hg', _⟩
  · rw [hv] at hg; cases hg
  · rw [hv] at hg
    cases hg
    exact D.off (mt_none D.st.mt hg' (fun k => (kk_fs k).2)) (by omega) j z
theorem KD.rowg {F B : Nat} {v u : Value} {zs : List Int} {Γ Γ1 : Gk} {w W W' : World} {i : Nat} {fs : List Fl} (D : KD F v zs Γ w i Γ1 W) (h : RwF F B W u fs) (g : W.grownBy W' u.ownBlock) (hB : w.heap.size ≤ B) : KD F v zs Γ w i Γ1 W' := by
  have hlt := h.lt
  obtain ⟨_, xs, hl, ho, _⟩ := h
  refine D.turn (fun b k m ys hb => ?_) g (fun b e => by have := (hlt b e).1; omega) D.nw
  have hbl := (D.st.mt.lt hb).2
  obtain ⟨h1, arr, mk, h2, h3⟩ := D.st.mt b k m ys hb
  refine ⟨h1, arr, mk, ?_, h3⟩
  rw [g.block b hbl (fun e => ?_)]
  · exact h2
  · rcases ho.2 with ⟨hv, _⟩ | ⟨g', cap, cur, hv, _, hg', _⟩
    · rw [hv] at e; cases e
    · rw [hv] at e
      cases e
      rw [mt_none D.st.mt hg' (fun k => (kk_fs k).2)] at hb
      cases hb
theorem sp_fin {F B b : Nat} {v u : Value} {zs : List Int} {Γ Γ1 : Gk} {w W : World} {i : Nat} {fs : List Fl} {a : Option Addr} {n c : Nat} (r : RwF F B W u fs) (D : KD F v zs Γ w i Γ1 W) (hb : Bx W b (.slice a n c)) (hne : u.ownBlock ≠ some b) (hlo : w.heap.size ≤ b) : (RwF F B (W.setCell ⟨b, 0, none⟩ u) u fs ∧ KD F v zs Γ w i Γ1 (W.setCell ⟨b, 0, none⟩ u)) ∧ (W.setCell ⟨b, 0, none⟩ u).cell? ⟨b, 0, none⟩ = some u :=
  ⟨⟨r.boxn hb hne u, D.box hb hlo u⟩, (hb.set u).c⟩
theorem drw (W : World) : W.grownBy W.drew none := ⟨rfl, rfl, rfl, Nat.le_refl _, fun _ _ _ => rfl⟩
theorem mod_at {fs : List Fl} {q : Nat} (hq : q < fs.length) (g : Fl → Fl) : modF fs q g = fs.set q (g fs[q]) := by
  unfold modF
  rw [List.getElem?_eq_getElem hq]

set_option maxHeartbeats 8000000 in
set_option maxRecDepth 100000 in
/-- spec.l7spoil. -/
theorem spoilFs_k {F : Nat} {v : Value} {zs : List Int} (hz : Zk zs) (i : Nat) (Γ Γ1 : Gk) (w00 w : World) (D0 : KD F v zs Γ w00 i Γ1 w) (fv : Value) (fs : List Fl) (B : Nat) (hB0 : w00.heap.size ≤ B) (hB : B ≤ w.heap.size) (hrw : RwF F B w fv fs) (hsm : Smf 60 fs) :
    Calls Tryz.prog 42 #[.agg #[fv], .pointer (some ⟨F, 0, none⟩)] w fun e w' => ∃ v', e = .returned (.agg #[v']) ∧ RwF F B w' v' (spF zs fs i).1 ∧ KD F v zs Γ w00 (spF zs fs i).2 Γ1 w' := by
  have HZ := hide hz
  have hFw := D0.lt
  have hw00 := D0.gr.size
  have hb1 := nx_bd hz.by' i
  have hb2 := nx_bd hz.by' (nx zs i).2
  obtain ⟨fa, fc, hfv, hfc1, hfc2⟩ := hrw.rd.sl
  have hown : ∀ k, fv.ownBlock = some k → k < w.heap.size := fun k hk => (hrw.lt k hk).2
  subst hfv
  have hl60 := hsm.l
  unfold maxLen at hfc2
  obtain ⟨w0, hw0⟩ : ∃ w0, w0 = (w.alloc (Obj.cells #[Value.slice fa fs.length fc] 25)).alloc (Obj.cells #[Value.slice none 0 0] 25) := ⟨_, rfl⟩
  have g0 : w.grownBy w0 none := by rw [hw0]; exact grown_trans (World.grownBy_alloc _ _ _) (World.grownBy_alloc _ _ _)
  have bF : Bx w0 w.heap.size (.slice fa fs.length fc) := by rw [hw0]; exact (Bx.new w _).keep (World.grownBy_alloc _ _ none) (by simp)
  have bR : Bx w0 (w.heap.size + 1) (.slice none 0 0) := by
    rw [hw0]
    have := Bx.new (w.alloc (Obj.cells #[Value.slice fa fs.length fc] 25)) (.slice none 0 0)
    rw [show (w.alloc (Obj.cells #[Value.slice fa fs.length fc] 25)).heap.size = w.heap.size + 1 by simp] at this
    exact this
  have HN1 := hide ((D0.keep g0).next hz)
  have HRW0 := hide (hrw.keep g0 (.inl rfl))
  have HBX := hide (And.intro bR bF)
  have HW0 := hide hw0
  have HP : Hid (spF zs fs i = if fs.length = 0 then ([⟨[], [], 0⟩], (nx zs i).2) else if (nx zs i).1 % 7 = 0 then (modF fs ((nx zs (nx zs i).2).1 % fs.length).toNat fun p => { p with s := p.d.length + 1 }, (nx zs (nx zs i).2).2)
    else if (nx zs i).1 % 7 = 1 then (modF fs ((nx zs (nx zs i).2).1 % fs.length).toNat fun p => { p with s := -1 }, (nx zs (nx zs i).2).2)
    else if (nx zs i).1 % 7 = 2 then (modF fs ((nx zs (nx zs i).2).1 % fs.length).toNat fun p => { p with n := [] }, (nx zs (nx zs i).2).2)
    else if (nx zs i).1 % 7 = 3 then (modF fs ((nx zs (nx zs i).2).1 % fs.length).toNat fun p => { p with n := List.replicate (100 + (nx zs (nx zs (nx zs i).2).2).1 % 2).toNat 122 }, (nx zs (nx zs (nx zs i).2).2).2)
    else if (nx zs i).1 % 7 = 4 then (fs ++ (fs[((nx zs (nx zs i).2).1 % fs.length).toNat]?).toList, (nx zs (nx zs i).2).2)
    else if (nx zs i).1 % 7 = 5 then sp5 zs 60 fs (nx zs (nx zs i).2).2
    else (modF fs ((nx zs (nx zs i).2).1 % fs.length).toNat fun p => { p with n := [109] }, (nx zs (nx zs i).2).2)) := rfl
  have HNX : Hid (∀ W, KD F v zs Γ w00 (nx zs i).2 Γ1 W → _) := fun W (D : KD F v zs Γ w00 (nx zs i).2 Γ1 W) => D.next hz
  generalize hn1 : nx zs i = n1 at *
  generalize hn2 : nx zs n1.2 = n2 at *
  rw [hw0] at HN1
  clear hz hn1 hn2 bR bF g0 hw0 hrw D0
  go_enter Tryz.func42, Tryz.ntmps42
  go_wp2_with fail
  refine HN1.out.mono ?_
  rintro e w1 ⟨rfl, D1, g1⟩
  rw [← HW0.out] at g1
  have hbR := HBX.out.1.keep g1 (by simp; omega)
  have hbF := HBX.out.2.keep g1 (by simp; omega)
  have hrw1 := HRW0.out.keep g1 (.inr rfl)
  have hs1 : w.heap.size + 1 < w1.heap.size := hbR.lt
  clear g1 HBX HN1 HRW0 HW0
  obtain ⟨k, hk⟩ : ∃ k : Int, n1.1 % 7 = k := ⟨_, rfl⟩
  have hk7 : 0 ≤ k ∧ k < 7 := by omega
  by_cases h0 : fs.length = 0
  · have hfs : fs = [] := List.length_eq_zero_iff.1 h0
    have HE := hide (HP.out.trans (if_pos h0))
    have gA := World.grownBy_alloc w1 (Obj.cells #[.slice none 0 0, .slice none 0 0, .int .i64 0] 45) none
    have hX := Fx.new w1 (.slice none 0 0) (.slice none 0 0) (.int .i64 0)
    have hrwA := hrw1.keep gA (.inl rfl)
    obtain ⟨pa, pc, w3, run3, hrw3, g3, hob⟩ := hrwA.push w1.heap.size ⟨[], [], 0⟩ (.slice none 0 0, .slice none 0 0) hX.c0 hX.c1 hX.c2 (Txo.nil _ _ _) (Txo.nil _ _ _) (by simp; omega) (by omega)
    have D3 := (D1.keep gA).rowg hrwA g3 hB0
    have hbF3 := (hbF.keep gA (by simp)).keep g3 (fun e => by have := hown _ e.symm; omega)
    have hbR3 := (hbR.keep gA (by simp)).keep g3 (fun e => by have := hown _ e.symm; omega)
    have hne : ∀ b, b = w.heap.size ∨ b = w.heap.size + 1 → (Value.slice pa (fs.length + 1) pc).ownBlock ≠ some b := fun b hb e => by
      rcases hob with h | h
      · rw [h] at e; have := hown b e; omega
      · rw [h] at e; simp at e; omega
    have r1 := hrw3.boxn hbF3 (hne _ (.inl rfl)) (.slice pa (fs.length + 1) pc)
    have hbR4 := hbR3.off ⟨w.heap.size, 0, none⟩ (.slice pa (fs.length + 1) pc) (by simp)
    have hbF4 := hbF3.set (.slice pa (fs.length + 1) pc)
    have HR := hide (r1.boxn hbR4 (hne _ (.inr rfl)) (.slice pa (fs.length + 1) pc))
    have HD := hide ((D3.box hbF3 (by omega) (.slice pa (fs.length + 1) pc)).box hbR4 (by omega) (.slice pa (fs.length + 1) pc))
    have y0 := hbF.c
    have yA := (hbF.keep gA (by simp)).c
    have y3 := hbF3.c
    have f3 := hbF3.fr
    have y4 := hbF4.c
    have y5 := hbR4.c
    have f5 := hbR4.fr
    have y6 := (hbR4.set (.slice pa (fs.length + 1) pc)).c
    have HFS := hide hfs
    clear hbF hbR hrw1 D1 hX hrwA hrw3 g3 D3 hbF3 hbR3 r1 hbR4 hbF4 gA hfs HP hob hne
    generalize fs.length = L at *
    subst h0
    go_wp2
    refine bodyPost_ret (v := .agg #[.slice pa (0 + 1) pc]) (by simp [results, Tryz.results42, go_sem, y6]) rfl ?_
    rw [HE.out]
    exact ⟨_, rfl, by have := HR.out; rw [HFS.out] at this; exact this, HD.out⟩
  · have hP1 := HP.out.trans (if_neg h0)
    rw [hk] at hP1
    have gd : w1.grownBy w1.drew none := ⟨rfl, rfl, rfl, Nat.le_refl _, fun _ _ _ => rfl⟩
    have HN2 := hide (HNX.out w1.drew (D1.keep gd))
    have hne0 : ¬ (fs.length : Int) = 0 := by omega
    have hb0 : ((fs.length : Int) == 0) = false := by simpa using hne0
    obtain ⟨q, hq⟩ : ∃ q : Nat, (n2.1 % (fs.length : Int)).toNat = q := ⟨_, rfl⟩
    have hqz : n2.1 % (fs.length : Int) = (q : Int) := by
      have := Int.emod_nonneg n2.1 hne0
      omega
    have hql : q < fs.length := by
      have := Int.emod_lt_of_pos n2.1 (show (0 : Int) < fs.length by omega)
      omega
    rw [hq] at hP1
    have y0 := hbF.c
    have HB := hide (And.intro (hbR.keep gd (by simp)) (hbF.keep gd (by simp)))
    have HRW := hide (hrw1.keep gd (.inl rfl))
    obtain ⟨I, hI⟩ : ∃ I : World → Prop, I = (fun U => U.cell? ⟨w.heap.size, 0, none⟩ = some (.slice fa fs.length fc)) := ⟨_, rfl⟩
    have HI0 : I w1.drew := by rw [hI]; exact (hbF.keep gd (by simp)).c
    have HTM : n2.1.tmod (fs.length : Int) = (q : Int) := by rw [Int.tmod_eq_emod_of_nonneg hb2.1]; exact hqz
    have hs1d : w.heap.size + 1 < w1.drew.heap.size := hs1
    clear D1 hbR hbF hrw1 HP HNX hq gd
    go_wp2
    refine region_anyI I (fun _ => false) (by kernel_rfl) ?_
    show anyI _ _ _ _ _ _ 7 (Array.replicate 7 false) _ _
    generalize w1.drew = U0 at *
    refine anyI_take (i := 0) (.pointer (some ⟨F, 0, none⟩)) rfl (by kernel_rfl) (by kernel_rfl) (by kernel_rfl) (by kernel_rfl) (fun _ _ _ h => h) HI0 (yldI rfl (fun U hU => by go_simp)) ?_
    refine anyI_take (i := 2) (.pointer (some ⟨w.heap.size, 0, none⟩)) rfl (by kernel_rfl) (by kernel_rfl) (by kernel_rfl) (by kernel_rfl) (fun _ _ _ h => h) HI0 (yldI rfl (fun U hU => by go_simp)) ?_
    refine anyI_take (i := 3) (.slice fa fs.length fc) rfl (by kernel_rfl) (by kernel_rfl) (by kernel_rfl) (by kernel_rfl) (fun _ _ _ h => h) HI0 (yldI rfl (fun U hU => by rw [hI] at hU; go_simp)) ?_
    refine anyI_take (i := 4) (.int .i64 fs.length) rfl (by kernel_rfl) (by kernel_rfl) (by kernel_rfl) (by kernel_rfl) (fun _ _ _ h => h) HI0 (yldI rfl (fun U hU => by go_simp)) ?_
    generalize hGa : Act.put _ _ _ = A0
    simp [Act.put] at hGa
    subst hGa
    refine anyI_one (i := 1) (by kernel_rfl) (wpOp_call rfl rfl (by go_simp) HN2.out ?_)
    rintro e w2 ⟨rfl, D2, g2⟩
    have HI1 : I w2 := by rw [hI] at HI0 ⊢; exact g2.cell HI0 (by simp; omega)
    refine ⟨_, rfl, .inr HI1, ?_⟩
    refine anyI_one (i := 5) (by kernel_rfl) (wpOp_val (w' := w2) (v := .int .i64 q) rfl rfl (by go_simp) ⟨.inr HI1, ?_⟩)
    refine anyI_one (i := 6) (by kernel_rfl) (wpOp_val (w' := w2) (v := .int .i64 q) rfl rfl (by go_simp) ⟨.inr HI1, ?_⟩)
    refine anyI_done (by kernel_rfl) ?_ _
    clear HI0 HI1
    subst hI
    have hbR := HB.out.1.keep g2 (by simp; omega)
    have hbF := HB.out.2.keep g2 (by simp; omega)
    have hrw2 := HRW.out.keep g2 (.inr rfl)
    have hs2 := g2.size
    obtain ⟨g, cap, x, hv, hc1, hc2, hBg, hgw, z0, z1, z2, fz, t1, t2, hS, hN⟩ := hrw2.at hql
    have hgl : g < w.heap.size := hown g (by rw [hv]; rfl)
    obtain ⟨na, nc, hx1, _, _⟩ := t1.sl
    obtain ⟨da, dc, hx2, _, _⟩ := t2.sl
    simp only [Value.slice.injEq, true_and] at hv
    obtain ⟨rfl, rfl⟩ := hv
    obtain ⟨x1, x2⟩ := x
    simp only at hx1 hx2 z0 z1 t1 t2
    subst hx1 hx2
    have f0 := fz (q * 3)
    have f2 := fz (q * 3 + 2)
    have y0 := hbF.c
    have yR := hbR.c
    have fR := hbR.fr
    have hown' : ∀ b, b = w.heap.size ∨ b = w.heap.size + 1 → (Value.slice (some ⟨g, 0, none⟩) fs.length fc).ownBlock ≠ some b := fun b hb e => by
      have : g = b := by simpa [Value.ownBlock] using e
      omega
    clear g2 HN2 HB HRW fz HTM
    have hk' : k = 0 ∨ k = 1 ∨ k = 2 ∨ k = 3 ∨ k = 4 ∨ k = 5 ∨ k = 6 := by omega
    rcases hk' with rfl | rfl | rfl | rfl | rfl | rfl | rfl
    · have HE := hide (hP1.trans (if_pos rfl))
      have hwr : wrap64 ((fs[q].d.length : Int) + 1) = (fs[q].d.length : Int) + 1 := by have := (hsm.b _ (List.getElem_mem hql)).2.1; unfold wrap64; omega
      have HMO := hide (mod_at hql fun p => { p with s := p.d.length + 1 })
      have r1 := hS (fs[q].d.length + 1)
      have D3 := D2.row hrw2 rfl hB0 (q * 3 + 2) (.int .i64 (fs[q].d.length + 1))
      have hbR3 := hbR.off ⟨g, q * 3 + 2, none⟩ (.int .i64 (fs[q].d.length + 1)) (by simp only; omega)
      have hbF3 := hbF.off ⟨g, q * 3 + 2, none⟩ (.int .i64 (fs[q].d.length + 1)) (by simp only; omega)
      have gd3 := drw (w2.setCell ⟨g, q * 3 + 2, none⟩ (.int .i64 (fs[q].d.length + 1)))
      obtain ⟨HF, y6⟩ := sp_fin (r1.keep gd3 (.inl rfl)) (D3.keep gd3) (hbR3.keep gd3 (by simp)) (hown' _ (.inr rfl)) (by omega)
      have yF3 := (hbF3.keep gd3 (by simp)).c
      have yR3 := (hbR3.keep gd3 (by simp)).c
      have fR3 := (hbR3.keep gd3 (by simp)).fr
      have HF' := hide HF
      clear hP1 r1 D3 hbR3 hbF3 gd3 D2 hbR hbF hrw2 hS hN t1 t2 hqz HF
      go_wp2
      go_region
      try rw [hwr]
      generalize (w2.setCell ⟨g, q * 3 + 2, none⟩ (.int .i64 (fs[q].d.length + 1))).drew = W3 at *
      go_wp2
      refine bodyPost_ret (v := .agg #[.slice (some ⟨g, 0, none⟩) fs.length fc]) (by simp [results, Tryz.results42, go_sem, y6]) rfl ?_
      rw [HE.out, HMO.out]
      exact ⟨_, rfl, HF'.out⟩
    · have HE := hide ((hP1.trans (if_neg (by omega))).trans (if_pos rfl))
      have HMO := hide (mod_at hql fun p => { p with s := -1 })
      have r1 := hS (-1)
      have D3 := D2.row hrw2 rfl hB0 (q * 3 + 2) (.int .i64 (-1))
      have hbR3 := hbR.off ⟨g, q * 3 + 2, none⟩ (.int .i64 (-1)) (by simp only; omega)
      have hbF3 := hbF.off ⟨g, q * 3 + 2, none⟩ (.int .i64 (-1)) (by simp only; omega)
      have gd3 := drw (w2.setCell ⟨g, q * 3 + 2, none⟩ (.int .i64 (-1)))
      obtain ⟨HF, y6⟩ := sp_fin r1 D3 hbR3 (hown' _ (.inr rfl)) (by omega)
      have yF3 := hbF3.c
      have yR3 := hbR3.c
      have fR3 := hbR3.fr
      have HF' := hide HF
      clear hP1 r1 D3 hbR3 hbF3 gd3 D2 hbR hbF hrw2 hS hN t1 t2 hqz HF
      go_wp2
      refine bodyPost_ret (v := .agg #[.slice (some ⟨g, 0, none⟩) fs.length fc]) (by simp [results, Tryz.results42, go_sem, y6]) rfl ?_
      rw [HE.out, HMO.out]
      exact ⟨_, rfl, HF'.out⟩
    · have HE := hide (((hP1.trans (if_neg (by omega))).trans (if_neg (by omega))).trans (if_pos rfl))
      have HMO := hide (mod_at hql fun p => { p with n := [] })
      have r1 := hN (.slice none 0 0) [] (Txo.nil _ _ _)
      have D3 := D2.row hrw2 rfl hB0 (q * 3) (.slice none 0 0)
      have hbR3 := hbR.off ⟨g, q * 3, none⟩ (.slice none 0 0) (by simp only; omega)
      have hbF3 := hbF.off ⟨g, q * 3, none⟩ (.slice none 0 0) (by simp only; omega)
      have gd3 := drw (w2.setCell ⟨g, q * 3, none⟩ (.slice none 0 0))
      obtain ⟨HF, y6⟩ := sp_fin r1 D3 hbR3 (hown' _ (.inr rfl)) (by omega)
      have yF3 := hbF3.c
      have yR3 := hbR3.c
      have fR3 := hbR3.fr
      have HF' := hide HF
      clear hP1 r1 D3 hbR3 hbF3 gd3 D2 hbR hbF hrw2 hS hN t1 t2 hqz HF
      go_wp2
      refine bodyPost_ret (v := .agg #[.slice (some ⟨g, 0, none⟩) fs.length fc]) (by simp [results, Tryz.results42, go_sem, y6]) rfl ?_
      rw [HE.out, HMO.out]
      exact ⟨_, rfl, HF'.out⟩
    · have HE := hide ((((hP1.trans (if_neg (by omega))).trans (if_neg (by omega))).trans (if_neg (by omega))).trans (if_pos rfl))
      have gd := drw w2
      have HN3 := hide ((D2.keep gd).next HZ.out)
      have hb3 := nx_bd HZ.out.by' n2.2
      generalize nx zs n2.2 = n3 at *
      have HB := hide (And.intro (hbR.keep gd (by simp)) (hbF.keep gd (by simp)))
      have HRW := hide (hrw2.keep gd (.inl rfl))
      obtain ⟨I, hI⟩ : ∃ I : World → Prop, I = (fun U => U.cell? ⟨w.heap.size, 0, none⟩ = some (.slice (some ⟨g, 0, none⟩) fs.length fc)) := ⟨_, rfl⟩
      have HI0 : I w2.drew := by rw [hI]; exact (hbF.keep gd (by simp)).c
      have hq3 : 100 + n3.1 % 2 = ((100 + n3.1 % 2).toNat : Int) := by omega
      have HFI : Hid (∀ W : World, _) := fun W => fill_any 122 (100 + n3.1 % 2).toNat W (by omega)
      rw [← hq3] at HFI
      have htm : n3.1.tmod 2 = n3.1 % 2 := Int.tmod_eq_emod_of_nonneg hb3.1
      have hs2d : w.heap.size + 1 < w2.drew.heap.size := by have := (hbR.keep gd (by simp)).lt; omega
      clear hP1 D2 hbR hbF hrw2 hS hN t1 t2 hqz gd hq3 z0 z1 z2 f0 f2 y0 yR fR
      go_wp2
      refine region_anyI I (fun _ => false) (by kernel_rfl) ?_
      show anyI _ _ _ _ _ _ 11 (Array.replicate 11 false) _ _
      generalize w2.drew = U0 at *
      refine anyI_take (i := 0) (.pointer (some ⟨w.heap.size, 0, none⟩)) rfl (by kernel_rfl) (by kernel_rfl) (by kernel_rfl) (by kernel_rfl) (fun _ _ _ h => h) HI0 (yldI rfl (fun U hU => by go_simp)) ?_
      refine anyI_take (i := 1) (.slice (some ⟨g, 0, none⟩) fs.length fc) rfl (by kernel_rfl) (by kernel_rfl) (by kernel_rfl) (by kernel_rfl) (fun _ _ _ h => h) HI0 (yldI rfl (fun U hU => by rw [hI] at hU; go_simp)) ?_
      refine anyI_take (i := 2) (.int .i64 q) rfl (by kernel_rfl) (by kernel_rfl) (by kernel_rfl) (by kernel_rfl) (fun _ _ _ h => h) HI0 (yldI rfl (fun U hU => by go_simp)) ?_
      refine anyI_take (i := 3) (.pointer (some ⟨F, 0, none⟩)) rfl (by kernel_rfl) (by kernel_rfl) (by kernel_rfl) (by kernel_rfl) (fun _ _ _ h => h) HI0 (yldI rfl (fun U hU => by go_simp)) ?_
      generalize hGa : Act.put _ _ _ = A0
      simp [Act.put] at hGa
      subst hGa
      refine anyI_one (i := 4) (by kernel_rfl) (wpOp_call rfl rfl (by go_simp) HN3.out ?_)
      rintro e w3 ⟨rfl, D3, g3⟩
      have HI1 : I w3 := by rw [hI] at HI0 ⊢; exact g3.cell HI0 (by simp; omega)
      refine ⟨_, rfl, .inr HI1, ?_⟩
      refine anyI_one (i := 5) (by kernel_rfl) (wpOp_val (w' := w3) (v := .int .i64 (n3.1 % 2)) rfl rfl (by go_simp) ⟨.inr HI1, ?_⟩)
      refine anyI_one (i := 6) (by kernel_rfl) (wpOp_val (w' := w3) (v := .int .i64 (100 + n3.1 % 2)) rfl rfl (by go_simp; rw [IntKind.wrap_i64]; omega) ⟨.inr HI1, ?_⟩)
      refine anyI_one (i := 7) (by kernel_rfl) (wpOp_call rfl rfl (by go_simp) (HFI.out w3) ?_)
      rintro e w4 ⟨v4, rfl, o4, g4⟩
      have HI2 : I w4 := by rw [hI] at HI1 ⊢; exact g4.cell HI1 (by simp)
      refine ⟨_, rfl, .inr HI2, ?_⟩
      have hw3 := g3.size
      have hw4 := g4.size
      have hbR4 := (HB.out.1.keep g3 (by simp; omega)).keep g4 (by simp)
      have hbF4 := (HB.out.2.keep g3 (by simp; omega)).keep g4 (by simp)
      have hrw4 := (HRW.out.keep g3 (.inr rfl)).keep g4 (.inl rfl)
      have D4 := D3.keep g4
      have hT4 := (ab_bw (F := F) o4 (by omega)).txo
      have hnb : ∀ k, v4.ownBlock = some k → w3.heap.size ≤ k := fun k hk => (o4.lt k hk).1
      obtain ⟨g', cap', x', hv', _, _, _, _, z0, _, _, fz, _, _, _, hN⟩ := hrw4.at hql
      simp only [Value.slice.injEq, Option.some.injEq, Addr.mk.injEq, true_and, and_true] at hv'
      obtain ⟨rfl, rfl⟩ := hv'
      obtain ⟨x1, x2⟩ := x'
      simp only at z0
      have f0 := fz (q * 3)
      obtain ⟨a4, c4, hv4, _, _⟩ := o4.sl
      have hT5 : Txo F (some g) w4 v4 (List.replicate (100 + n3.1 % 2).toNat 122) := by
        obtain ⟨ta, tc, e1, e2, e3, e4⟩ := hT4
        refine ⟨ta, tc, e1, e2, e3, fun h0 => ?_⟩
        obtain ⟨b, off, e5, e6, e7, _, e8⟩ := e4 h0
        refine ⟨b, off, e5, e6, e7, fun e9 => ?_, e8⟩
        simp only [Option.some.injEq] at e9
        rcases o4 with o4 | ⟨g5, e10, h5, _⟩
        · have := World.ownsRow.lt o4 b (by rw [e1, e5]; rcases o4.2 with ⟨h6, _⟩ | ⟨g6, cp, cu, h6, _⟩
                                            · rw [e1, e5] at h6; cases h6
                                            · rw [e1, e5] at h6; cases h6; rfl)
          omega
        · rw [e1, e5] at e10
          cases e10
          omega
      have r5 := hN v4 _ hT5
      have D5 := D4.row hrw4 rfl hB0 (q * 3) v4
      have hbR5 := hbR4.off ⟨g, q * 3, none⟩ v4 (by simp only; omega)
      have hbF5 := hbF4.off ⟨g, q * 3, none⟩ v4 (by simp only; omega)
      obtain ⟨HF, y6⟩ := sp_fin r5 D5 hbR5 (hown' _ (.inr rfl)) (by omega)
      have HF' := hide HF
      have HMO := hide (mod_at hql fun p => { p with n := List.replicate (100 + n3.1 % 2).toNat 122 })
      have yF5 := hbF5.c
      have yR5 := hbR5.c
      have fR5 := hbR5.fr
      have hI5 : (w4.setCell ⟨g, q * 3, none⟩ v4).cell? ⟨w.heap.size, 0, none⟩ = some (.slice (some ⟨g, 0, none⟩) fs.length fc) := yF5
      generalize (List.replicate (100 + n3.1 % 2).toNat (122 : Int)).length = LL at hv4
      subst hv4
      clear HN3 HB HRW D3 g3 g4 o4 hbR4 hbF4 hrw4 D4 hT4 hT5 hN fz r5 D5 hbR5 hbF5 HF HFI hnb
      refine anyI_one (i := 8) (by kernel_rfl) (wpOp_val (w' := w4) (v := .pointer (some ⟨g, q * 3, none⟩)) rfl rfl (by go_simp) ⟨.inr HI2, ?_⟩)
      refine anyI_one (i := 9) (by kernel_rfl) (wpOp_val (w' := w4) (v := .pointer (some ⟨g, q * 3, none⟩)) rfl rfl (by go_simp) ⟨.inr HI2, ?_⟩)
      refine anyI_one (i := 10) (by kernel_rfl) (wpOp_skip (w' := w4.setCell ⟨g, q * 3, none⟩ (.slice a4 LL c4)) rfl rfl (by go_simp) ⟨.inr (by rw [hI]; exact hI5), ?_⟩)
      refine anyI_done (by kernel_rfl) ?_ _
      clear HI0 HI1 HI2
      subst hI
      go_wp2
      refine bodyPost_ret (v := .agg #[.slice (some ⟨g, 0, none⟩) fs.length fc]) (by simp [results, Tryz.results42, go_sem, y6]) rfl ?_
      rw [HE.out, HMO.out]
      exact ⟨_, rfl, HF'.out⟩
    · have HE := hide (((((hP1.trans (if_neg (by omega))).trans (if_neg (by omega))).trans (if_neg (by omega))).trans (if_neg (by omega))).trans (if_pos rfl))
      have gd := drw w2
      have hbR' := hbR.keep gd (by simp)
      have hbF' := hbF.keep gd (by simp)
      have hrw' := hrw2.keep gd (.inl rfl)
      have D' := D2.keep gd
      have z0' := gd.cell z0 (by simp)
      have z1' := gd.cell z1 (by simp)
      have z2' := gd.cell z2 (by simp)
      have hs2d : w.heap.size + 1 < w2.drew.heap.size := hbR'.lt
      obtain ⟨I, hI⟩ : ∃ I : World → Prop, I = (fun U => U.cell? ⟨w.heap.size, 0, none⟩ = some (.slice (some ⟨g, 0, none⟩) fs.length fc)) := ⟨_, rfl⟩
      have HI0 : I w2.drew := by rw [hI]; exact hbF'.c
      have t1' := t1.step gd (.inl rfl) (.inl rfl)
      have t2' := t2.step gd (.inl rfl) (.inl rfl)
      generalize hU0 : w2.drew = U0 at *
      obtain ⟨wA, hwA⟩ : ∃ wA, wA = U0.alloc (Obj.cells #[.slice na fs[q].n.length nc, .slice da fs[q].d.length dc, .int .i64 fs[q].s] 45) := ⟨_, rfl⟩
      have gA : U0.grownBy wA none := by rw [hwA]; exact World.grownBy_alloc _ _ _
      have hX : Fx wA U0.heap.size (.slice na fs[q].n.length nc) (.slice da fs[q].d.length dc) (.int .i64 fs[q].s) := by rw [hwA]; exact Fx.new _ _ _ _
      have hrwA := hrw'.keep gA (.inl rfl)
      obtain ⟨pa, pc, w3, run3, hrw3, g3, hob⟩ := hrwA.push U0.heap.size fs[q] (.slice na fs[q].n.length nc, .slice da fs[q].d.length dc) hX.c0 hX.c1 hX.c2 (t1'.step gA (.inl rfl) (.inl rfl)) (t2'.step gA (.inl rfl) (.inl rfl)) (by have := gA.size; omega) (by omega)
      have D3 := (D'.keep gA).rowg hrwA g3 hB0
      have hbFA := hbF'.keep gA (by simp)
      have hbRA := hbR'.keep gA (by simp)
      have hbF3 := hbFA.keep g3 (fun e => hown' _ (.inl rfl) e.symm)
      have hbR3 := hbRA.keep g3 (fun e => hown' _ (.inr rfl) e.symm)
      have hsA : U0.heap.size ≤ wA.heap.size := gA.size
      have hne : ∀ b, b = w.heap.size ∨ b = w.heap.size + 1 → (Value.slice pa (fs.length + 1) pc).ownBlock ≠ some b := fun b hb e => by
        rcases hob with h | h
        · rw [h] at e; exact hown' b hb e
        · rw [h] at e; simp only [Option.some.injEq] at e; omega
      have r1 := hrw3.boxn hbF3 (hne _ (.inl rfl)) (.slice pa (fs.length + 1) pc)
      have hbR4 := hbR3.off ⟨w.heap.size, 0, none⟩ (.slice pa (fs.length + 1) pc) (by simp)
      have hbF4 := hbF3.set (.slice pa (fs.length + 1) pc)
      obtain ⟨HF, y6⟩ := sp_fin r1 (D3.box hbF3 (by omega) (.slice pa (fs.length + 1) pc)) hbR4 (hne _ (.inr rfl)) (by omega)
      have HF' := hide HF
      have HIA : I wA := by rw [hI]; exact hbFA.c
      have HI3 : I w3 := by rw [hI]; exact hbF3.c
      have yF3 := hbF3.c
      have fF3 := hbF3.fr
      have yF4 := hbF4.c
      have yR4 := hbR4.c
      have fR4 := hbR4.fr
      have HLS : Hid ((fs[q]?).toList = [fs[q]]) := by unfold Hid; rw [List.getElem?_eq_getElem hql]; rfl
      clear hP1 D2 hbR hbF hrw2 hS hN t1 t2 hqz gd hbR' hbF' hrw' D' t1' t2' hX hrwA hrw3 g3 D3 hbFA hbRA hbF3 hbR3 r1 hbR4 hbF4 HF hob gA hsA
      subst hwA
      go_wp2
      refine region_anyI I (fun k => k == 10) (by kernel_rfl) ?_
      show anyI _ _ _ _ _ _ 11 (Array.replicate 11 false) _ _
      rw [hU0]
      refine anyI_take (i := 0) (.pointer (some ⟨w.heap.size, 0, none⟩)) rfl (by kernel_rfl) (by kernel_rfl) (by kernel_rfl) (by kernel_rfl) (fun _ _ _ h => h) HI0 (yldI rfl (fun U hU => by go_simp)) ?_
      refine anyI_take (i := 1) (.slice (some ⟨g, 0, none⟩) fs.length fc) rfl (by kernel_rfl) (by kernel_rfl) (by kernel_rfl) (by kernel_rfl) (fun _ _ _ h => h) HI0 (yldI rfl (fun U hU => by rw [hI] at hU; go_simp)) ?_
      refine anyI_take (i := 2) (.pointer (some ⟨w.heap.size, 0, none⟩)) rfl (by kernel_rfl) (by kernel_rfl) (by kernel_rfl) (by kernel_rfl) (fun _ _ _ h => h) HI0 (yldI rfl (fun U hU => by go_simp)) ?_
      refine anyI_take (i := 3) (.slice (some ⟨g, 0, none⟩) fs.length fc) rfl (by kernel_rfl) (by kernel_rfl) (by kernel_rfl) (by kernel_rfl) (fun _ _ _ h => h) HI0 (yldI rfl (fun U hU => by rw [hI] at hU; go_simp)) ?_
      refine anyI_take (i := 4) (.int .i64 q) rfl (by kernel_rfl) (by kernel_rfl) (by kernel_rfl) (by kernel_rfl) (fun _ _ _ h => h) HI0 (yldI rfl (fun U hU => by go_simp)) ?_
      refine anyI_take (i := 5) (.pointer (some ⟨g, q * 3, none⟩)) rfl (by kernel_rfl) (by kernel_rfl) (by kernel_rfl) (by kernel_rfl) (fun _ _ _ h => h) HI0 (yldI rfl (fun U hU => by go_simp)) ?_
      generalize hGa : Act.put _ _ _ = A0
      simp [Act.put] at hGa
      subst hGa
      refine anyI_one (i := 6) (by kernel_rfl) (wpOp_val (w' := U0) (v := .agg #[.slice na fs[q].n.length nc, .slice da fs[q].d.length dc, .int .i64 fs[q].s]) rfl rfl (by go_simp) ⟨.inr HI0, ?_⟩)
      refine anyI_one (i := 7) (by kernel_rfl) (wpOp_val (w' := U0.alloc (Obj.cells #[.slice na fs[q].n.length nc, .slice da fs[q].d.length dc, .int .i64 fs[q].s] 45)) (v := .slice (some ⟨U0.heap.size, 0, none⟩) 1 1) rfl rfl (by go_simp) ⟨.inr HIA, ?_⟩)
      refine anyI_one (i := 8) (by kernel_rfl) (wpOp_val (w' := w3) (v := .slice pa (fs.length + 1) pc) rfl rfl (by go_simp) ⟨.inr HI3, ?_⟩)
      refine anyI_one (i := 9) (by kernel_rfl) (wpOp_val (w' := w3) (v := .pointer (some ⟨w.heap.size, 0, none⟩)) rfl rfl (by go_simp) ⟨.inr HI3, ?_⟩)
      refine anyI_one (i := 10) (by kernel_rfl) (wpOp_skip (w' := w3.setCell ⟨w.heap.size, 0, none⟩ (.slice pa (fs.length + 1) pc)) rfl rfl (by go_simp) ⟨.inl rfl, ?_⟩)
      refine anyI_done (by kernel_rfl) ?_ _
      clear HI0 HIA HI3
      subst hI
      go_wp2
      refine bodyPost_ret (v := .agg #[.slice pa (fs.length + 1) pc]) (by simp [results, Tryz.results42, go_sem, y6]) rfl ?_
      rw [HE.out, HLS.out]
      exact ⟨_, rfl, HF'.out⟩
    · have HE := hide ((((((hP1.trans (if_neg (by omega))).trans (if_neg (by omega))).trans (if_neg (by omega))).trans (if_neg (by omega))).trans (if_neg (by omega))).trans (if_pos rfl))
      have HB := hide (And.intro hbR hbF)
      have HRW := hide hrw2
      have HD2 := hide D2
      clear hP1 D2 hbR hbF hrw2 hS hN t1 t2 hqz z0 z1 z2 f0 f2 y0 yR fR
      go_wp2
      go_loopg [] 60 (fun m W => ∃ (fs' : List Fl) (u : Value) (i' : Nat), sp5 zs 60 fs n2.2 = sp5 zs m fs' i' ∧ m + fs'.length = 60 + fs.length ∧ Smf 60 fs' ∧ Bx W (w.heap.size + 1) (.slice none 0 0) ∧ Bx W w.heap.size u ∧ (∀ b, b = w.heap.size ∨ b = w.heap.size + 1 → u.ownBlock ≠ some b) ∧ RwF F B W u fs' ∧ KD F v zs Γ w00 i' Γ1 W)
      case atStart => exact ⟨fs, _, n2.2, rfl, rfl, hsm, HB.out.1, HB.out.2, hown', HRW.out, HD2.out⟩
      case round =>
        obtain ⟨fs', u, i', hsp, hm, hsm', hbR, hbF, hou, hrw, hD⟩ := hrel
        have hl6 := hsm'.l
        obtain ⟨gk, rfl⟩ : ∃ m', gk = m' + 1 := ⟨gk - 1, by omega⟩
        have gd := drw wr
        have HN3 := hide ((hD.keep gd).next HZ.out)
        have hb3 := nx_bd HZ.out.by' i'
        have HSP := hide hsp
        have H5 : Hid (sp5 zs (gk + 1) fs' i' = if (fs'.length : Int) < 50 + (nx zs i').1 % 2 then sp5 zs gk (fs' ++ [⟨[126, (fs'.length : Int)], [], 0⟩]) (nx zs i').2 else (fs', (nx zs i').2)) := rfl
        generalize nx zs i' = n3 at *
        obtain ⟨ua, uc, huv, huc1, huc2⟩ := hrw.rd.sl
        subst huv
        unfold maxLen at huc2
        have HB3 := hide (And.intro (hbR.keep gd (by simp)) (hbF.keep gd (by simp)))
        have HRW3 := hide (hrw.keep gd (.inl rfl))
        obtain ⟨I, hI⟩ : ∃ I : World → Prop, I = (fun U => U.cell? ⟨w.heap.size, 0, none⟩ = some (.slice ua fs'.length uc)) := ⟨_, rfl⟩
        have HI0 : I wr.drew := by rw [hI]; exact (hbF.keep gd (by simp)).c
        have htm : n3.1.tmod 2 = n3.1 % 2 := Int.tmod_eq_emod_of_nonneg hb3.1
        have hs3 : w.heap.size + 1 < wr.drew.heap.size := (hbR.keep gd (by simp)).lt
        clear hsp hbR hbF hrw hD gd HB HRW HD2
        go_wp2
        refine region_anyI I (fun _ => false) (by kernel_rfl) ?_
        show anyI _ _ _ _ _ _ 8 (Array.replicate 8 false) _ _
        generalize wr.drew = U0 at *
        refine anyI_take (i := 0) (.pointer (some ⟨w.heap.size, 0, none⟩)) rfl (by kernel_rfl) (by kernel_rfl) (by kernel_rfl) (by kernel_rfl) (fun _ _ _ h => h) HI0 (yldI rfl (fun U hU => by go_simp)) ?_
        refine anyI_take (i := 1) (.slice ua fs'.length uc) rfl (by kernel_rfl) (by kernel_rfl) (by kernel_rfl) (by kernel_rfl) (fun _ _ _ h => h) HI0 (yldI rfl (fun U hU => by rw [hI] at hU; go_simp)) ?_
        refine anyI_take (i := 2) (.int .i64 fs'.length) rfl (by kernel_rfl) (by kernel_rfl) (by kernel_rfl) (by kernel_rfl) (fun _ _ _ h => h) HI0 (yldI rfl (fun U hU => by go_simp)) ?_
        refine anyI_take (i := 3) (.pointer (some ⟨F, 0, none⟩)) rfl (by kernel_rfl) (by kernel_rfl) (by kernel_rfl) (by kernel_rfl) (fun _ _ _ h => h) HI0 (yldI rfl (fun U hU => by go_simp)) ?_
        generalize hGa : Act.put _ _ _ = A0
        simp [Act.put] at hGa
        subst hGa
        refine anyI_one (i := 4) (by kernel_rfl) (wpOp_call rfl rfl (by go_simp) HN3.out ?_)
        rintro e w3 ⟨rfl, D3, g3⟩
        have HI1 : I w3 := by rw [hI] at HI0 ⊢; exact g3.cell HI0 (by simp; omega)
        refine ⟨_, rfl, .inr HI1, ?_⟩
        refine anyI_one (i := 5) (by kernel_rfl) (wpOp_val (w' := w3) (v := .int .i64 (n3.1 % 2)) rfl rfl (by go_simp) ⟨.inr HI1, ?_⟩)
        refine anyI_one (i := 6) (by kernel_rfl) (wpOp_val (w' := w3) (v := .int .i64 (50 + n3.1 % 2)) rfl rfl (by go_simp; rw [IntKind.wrap_i64]; omega) ⟨.inr HI1, ?_⟩)
        refine anyI_one (i := 7) (by kernel_rfl) (wpOp_val (w' := w3) (v := .bool (decide ((fs'.length : Int) < 50 + n3.1 % 2))) rfl rfl (by go_simp) ⟨.inr HI1, ?_⟩)
        refine anyI_done (by kernel_rfl) ?_ _
        clear HI0 HI1
        subst hI
        have hbR := HB3.out.1.keep g3 (by simp; omega)
        have hbF := HB3.out.2.keep g3 (by simp; omega)
        have hrw := HRW3.out.keep g3 (.inr rfl)
        have hs3' := g3.size
        by_cases hc : (fs'.length : Int) < 50 + n3.1 % 2
        · have HE5 := hide (H5.out.trans (if_pos hc))
          have hcb : decide ((fs'.length : Int) < 50 + n3.1 % 2) = true := by simpa using hc
          rw [hcb]
          obtain ⟨wA, hwA⟩ : ∃ wA, wA = w3.alloc (Obj.cells #[.int .u8 126, .int .u8 (fs'.length : Int)] 5) := ⟨_, rfl⟩
          have gA : w3.grownBy wA none := by rw [hwA]; exact World.grownBy_alloc _ _ _
          have hsA : wA.heap.size = w3.heap.size + 1 := by rw [hwA]; simp
          have hT : Txo F (Value.slice ua fs'.length uc).ownBlock wA (.slice (some ⟨w3.heap.size, 0, none⟩) 2 2) [126, (fs'.length : Int)] := by
            refine txo_new (t := [126, (fs'.length : Int)]) (cap := 2) (fun j hj => ?_) (by omega) (by omega) (fun e => by have := (hrw.lt _ e).2; omega) (by simp) (by unfold maxLen; omega)
            rw [hwA, cell_of_row _ w3.heap.size j _ _ _ (heap_alloc_new w3 _)]
            match j, hj with
            | 0, _ => rfl
            | 1, _ => rfl
            | j + 2, hj => simp at hj; omega
          obtain ⟨wB, hwB⟩ : ∃ wB, wB = wA.alloc (Obj.cells #[.slice (some ⟨w3.heap.size, 0, none⟩) 2 2, .slice none 0 0, .int .i64 0] 45) := ⟨_, rfl⟩
          have gB : wA.grownBy wB none := by rw [hwB]; exact World.grownBy_alloc _ _ _
          have hX : Fx wB wA.heap.size (.slice (some ⟨w3.heap.size, 0, none⟩) 2 2) (.slice none 0 0) (.int .i64 0) := by rw [hwB]; exact Fx.new _ _ _ _
          have hrwB := (hrw.keep gA (.inl rfl)).keep gB (.inl rfl)
          obtain ⟨pa, pc, w4, run4, hrw4, g4, hob⟩ := hrwB.push wA.heap.size ⟨[126, (fs'.length : Int)], [], 0⟩ (.slice (some ⟨w3.heap.size, 0, none⟩) 2 2, .slice none 0 0) hX.c0 hX.c1 hX.c2 (hT.step gB (.inl rfl) (.inl rfl)) (Txo.nil _ _ _) (by have := gB.size; have := gA.size; omega) (by omega)
          have D4 := ((D3.keep gA).keep gB).rowg hrwB g4 hB0
          have hbF4 := ((hbF.keep gA (by simp)).keep gB (by simp)).keep g4 (fun e => hou _ (.inl rfl) e.symm)
          have hbR4 := ((hbR.keep gA (by simp)).keep gB (by simp)).keep g4 (fun e => hou _ (.inr rfl) e.symm)
          have hsB : wA.heap.size ≤ wB.heap.size := gB.size
          have hne : ∀ b, b = w.heap.size ∨ b = w.heap.size + 1 → (Value.slice pa (fs'.length + 1) pc).ownBlock ≠ some b := fun b hb e => by
            rcases hob with h | h
            · rw [h] at e; exact hou b hb e
            · rw [h] at e; simp only [Option.some.injEq] at e; omega
          have HR5 := hide (hrw4.boxn hbF4 (hne _ (.inl rfl)) (.slice pa (fs'.length + 1) pc))
          have HD5 := hide (D4.box hbF4 (by omega) (.slice pa (fs'.length + 1) pc))
          have HB5 := hide (And.intro (hbR4.off ⟨w.heap.size, 0, none⟩ (.slice pa (fs'.length + 1) pc) (by simp)) (hbF4.set (.slice pa (fs'.length + 1) pc)))
          have HS5 : Hid (Smf 60 (fs' ++ [⟨[126, (fs'.length : Int)], [], 0⟩])) := ⟨by simp; omega, (hsm'.snoc (f := ⟨[126, (fs'.length : Int)], [], 0⟩) ⟨⟨by simp, fun z hz => by simp at hz; omega⟩, bl_nil⟩).b⟩
          have yF := hbF.c
          have yFA := (hbF.keep gA (by simp)).c
          have yFB := ((hbF.keep gA (by simp)).keep gB (by simp)).c
          have yF4 := hbF4.c
          have fF4 := hbF4.fr
          have HNE := hide hne
          have u1 : IntKind.u8.wrap (fs'.length : Int) = (fs'.length : Int) := by rw [IntKind.wrap_u8]; omega
          clear hbR hbF hrw gA gB hT hX hrwB hrw4 g4 D4 hbF4 hbR4 hsm' D3 g3 HN3 HB3 HRW3 H5 hob hne hc hcb
          subst hwB
          rw [hsA] at run4
          subst hwA
          clear hsA hsB
          go_wp2
          go_roundg gk
          case rel => exact ⟨fs' ++ [⟨[126, (fs'.length : Int)], [], 0⟩], _, _, HSP.out.trans HE5.out, by simp; omega, HS5.out, HB5.out.1, HB5.out.2, HNE.out, by have := HR5.out; exact this, HD5.out⟩
          case measure => omega
        · have HE5 := hide (H5.out.trans (if_neg hc))
          have hcb : decide ((fs'.length : Int) < 50 + n3.1 % 2) = false := by simpa using hc
          rw [hcb]
          obtain ⟨HF, y6⟩ := sp_fin hrw D3 hbR (hou _ (.inr rfl)) (by omega)
          have HF' := hide HF
          have yF := hbF.c
          have yR := hbR.c
          have fR := hbR.fr
          clear hbR hbF hrw D3 g3 HF HN3 HB3 HRW3 H5 hcb
          go_wp2
          refine bodyPost_ret (v := .agg #[.slice ua fs'.length uc]) (by simp [results, Tryz.results42, go_sem, y6]) rfl ?_
          rw [HE.out, HSP.out, HE5.out]
          exact ⟨_, rfl, HF'.out⟩
    · have HE := hide ((((((hP1.trans (if_neg (by omega))).trans (if_neg (by omega))).trans (if_neg (by omega))).trans (if_neg (by omega))).trans (if_neg (by omega))).trans (if_neg (by omega)))
      have kc := fun W => Lib.run_convert_bytes_const (P := Tryz.prog) W 22 5 #[.int .u8 109] 1 1 Tryz.underlying22 Tryz.underlying5
      obtain ⟨wA, hwA⟩ : ∃ wA, wA = w2.alloc (Obj.cells #[.int .u8 109] 5 (1, 2)) := ⟨_, rfl⟩
      have gA : w2.grownBy wA none := by rw [hwA]; exact World.grownBy_alloc _ _ _
      have hsA : wA.heap.size = w2.heap.size + 1 := by rw [hwA]; simp
      have hrwA := hrw2.keep gA (.inl rfl)
      obtain ⟨g', cap', x', hv', _, _, _, _, z0', _, _, fz', _, _, _, hN'⟩ := hrwA.at hql
      simp only [Value.slice.injEq, Option.some.injEq, Addr.mk.injEq, true_and, and_true] at hv'
      obtain ⟨rfl, rfl⟩ := hv'
      obtain ⟨x1, x2⟩ := x'
      simp only at z0'
      have f0' := fz' (q * 3)
      have hT : Txo F (some g) wA (.slice (some ⟨w2.heap.size, 0, none⟩) 1 1) [109] := by
        refine txo_new (t := [109]) (cap := 1) (fun j hj => ?_) (by omega) (by omega) (by simp; omega) (by simp) (by unfold maxLen; omega)
        rw [hwA, cell_of_row _ w2.heap.size j _ _ _ (heap_alloc_new w2 _)]
        match j, hj with
        | 0, _ => rfl
        | j + 1, hj => simp at hj
      have r1 := hN' _ _ hT
      have D3 := (D2.keep gA).row hrwA rfl hB0 (q * 3) (.slice (some ⟨w2.heap.size, 0, none⟩) 1 1)
      have hbR3 := (hbR.keep gA (by simp)).off ⟨g, q * 3, none⟩ (.slice (some ⟨w2.heap.size, 0, none⟩) 1 1) (by simp only; omega)
      have hbF3 := (hbF.keep gA (by simp)).off ⟨g, q * 3, none⟩ (.slice (some ⟨w2.heap.size, 0, none⟩) 1 1) (by simp only; omega)
      obtain ⟨HF, y6⟩ := sp_fin r1 D3 hbR3 (hown' _ (.inr rfl)) (by omega)
      have HF' := hide HF
      have HMO := hide (mod_at hql fun p => { p with n := [109] })
      have yFA := (hbF.keep gA (by simp)).c
      have yF3 := hbF3.c
      have yR3 := hbR3.c
      have fR3 := hbR3.fr
      clear hP1 hrwA fz' hN' hT r1 D3 hbR3 hbF3 D2 hbR hbF hrw2 hS hN t1 t2 hqz HF gA hsA
      subst hwA
      have ec : (w2.alloc (Obj.cells #[.int .u8 109] 5 (1, 2))).setCell ⟨g, q * 3, none⟩ (.slice (some ⟨w2.heap.size, 0, none⟩) 1 1) = (w2.setCell ⟨g, q * 3, none⟩ (.slice (some ⟨w2.heap.size, 0, none⟩) 1 1)).alloc (Obj.cells #[.int .u8 109] 5 (1, 2)) := World.setCell_alloc_past _ g (q * 3) _ hgw
      rw [ec] at y6 yF3 yR3 fR3 HF'
      clear ec
      go_wp2
      refine bodyPost_ret (v := .agg #[.slice (some ⟨g, 0, none⟩) fs.length fc]) (by simp [results, Tryz.results42, go_sem, y6]) rfl ?_
      rw [HE.out, HMO.out]
      exact ⟨_, rfl, HF'.out⟩
end Go.Proofs.YtakkdniikhgpdaaGreatDoor

