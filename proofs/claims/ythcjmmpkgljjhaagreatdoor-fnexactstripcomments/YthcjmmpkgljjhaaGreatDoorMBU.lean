import Derived.Test.YthcjmmpkgljjhaaGreatDoorMBR
import Derived.Test.YthcjmmpkgljjhaaGreatDoorMBT
namespace Go.Proofs.YthcjmmpkgljjhaaGreatDoor
open Go.RowKit

theorem validI_ne {t : Tre} (h : validI t = true) : t.nodes ≠ [] := fun e => by
  unfold validI at h
  rw [e] at h
  simp [walkL] at h

set_option maxHeartbeats 16000000 in
set_option maxRecDepth 100000 in
theorem lawStripComments (nv tv : Value) (t : Tre) (m : Int) (w : World) (hv : RdT' w.heap.size w nv tv t) (hbn : ∀ p ∈ t.nodes, NBy p) (hbt : ∀ c ∈ t.tail, COk c) (hT : Tab w) (hM : w.cell? ⟨1, 0, none⟩ = some (.int .i64 m)) :
    Calls Tryz.prog 3 #[.agg #[nv, tv]] w fun e w' => e = .returned (.bool true) ∧ Below w.heap.size w w' := by
  obtain ⟨hvn, hvt⟩ := id hv
  obtain ⟨na, ncap, e0, _⟩ := id hvn
  obtain ⟨ta, tcap, e1, _⟩ := id hvt
  have hsz : 2 ≤ w.heap.size := World.block_lt_of_cell? w _ hM
  have HRd : Hid (∀ w', w.grownBy w' none → RdT' w'.heap.size w' nv tv t) := fun w' g => ⟨(hvn.keep g).wide g.size, (hvt.keep g).wide g.size⟩
  have HSZ := hide (fun w' (g : w.grownBy w' none) => szTree_any nv tv t 1048576 w' (HRd.out w' g) (by omega) (by omega))
  by_cases h0 : szTr t 1048576 < 0
  · subst e0 e1
    generalize szTr t 1048576 = sz at *
    clear hv hvn hvt hT hM HRd
    go_enter Tryz.func3, Tryz.ntmps3
    go_wp2_with fail
    refine (HSZ.out _ (World.grownBy_alloc _ _ _)).mono ?_
    rintro e w1 ⟨rfl, g1⟩
    go_wp2
    go_ret
    exact ⟨rfl, below_of_grown (grown_trans (World.grownBy_alloc _ _ _) g1)⟩
  obtain ⟨hok, hto, hR, hK⟩ := tree_sizes t h0 hbn hbt
  have HOK := hide hok
  have HV : Hid (validI t = true → t.nodes ≠ []) := validI_ne
  have HIV : ∀ (u v : Value) (w' : World), w.grownBy w' none → RdT' w'.heap.size w' u v t → Calls Tryz.prog 17 #[.agg #[u, v]] w' fun e w'' => e = .returned (.bool (validI t)) ∧ w'.grownBy w'' none := fun u v w' g h => implValidTree_any u v t m w' h hto (hT.below (below_of_grown g) (by omega)) ((World.cell?_of_block ((below_of_grown g).block 1 (by omega))).trans hM)
  have HSV : ∀ (u v : Value) (w' : World), RdT' w'.heap.size w' u v t → Calls Tryz.prog 13 #[.agg #[u, v]] w' fun e w'' => e = .returned (.bool (validI t)) ∧ w'.grownBy w'' none := fun u v w' h => by
    have := specValidTree_any u v t w' h hto hR hK
    rw [validS_eq t hto] at this
    exact this
  have hnot : ∀ (x : Bool) (w : World), (Op.unary .not (.bool x)).run Tryz.prog w = .ok (.bool (!x)) w := fun _ _ => rfl
  generalize validI t = rr at *
  have HS : Hid (∀ (u v : Value) (w' : World), RdT' w'.heap.size w' u v t → Calls Tryz.prog 5 #[.agg #[u, v]] w' fun e w'' => ∃ nv', e = .returned (.agg #[nv', .slice none 0 0]) ∧ RdN w''.heap.size w'' nv' (sns rr t.nodes) ∧ w'.grownBy w'' none) := fun u v w' h => specStrip_any u v t rr w' h hok (fun W hW => HSV u v W hW)
  have HI : Hid (∀ (u v : Value) (w' : World), w.grownBy w' none → RdT' w'.heap.size w' u v t → Calls Tryz.prog 7 #[.agg #[u, v]] w' fun e w'' => ∃ nv', e = .returned (.agg #[nv', .slice none 0 0]) ∧ Ans rr w'.heap.size w'' nv' t.nodes ∧ w'.grownBy w'' none) := fun u v w' g h => implStrip_any u v t rr w' h hok HV.out (fun W hW => HIV u v W (grown_trans g hW) ⟨(h.1.keep hW).wide hW.size, (h.2.keep hW).wide hW.size⟩)
  obtain ⟨hsn, hso⟩ := sns_ok (vv := rr) hok.n hok.ns
  have HEQ : Hid (∀ (u u' : Value) (w' : World), RdN w'.heap.size w' u (sns rr t.nodes) → RdN w'.heap.size w' u' (sns rr t.nodes) → Calls Tryz.prog 8 #[.agg #[u, .slice none 0 0], .agg #[u', .slice none 0 0]] w' fun e w'' => e = .returned (.bool true) ∧ w'.grownBy w'' none) := fun u u' w' h h' =>
    eqTree_same u _ u' _ ⟨sns rr t.nodes, []⟩ w' ⟨h, rdC_nil _ _⟩ ⟨h', rdC_nil _ _⟩ hsn hso (by simp) (fun c hc => by simp at hc)
  subst e0 e1
  generalize szTr t 1048576 = sz at *
  clear hv hvn hvt hT hM hto hR hK hok hbn hbt HIV HSV HV hsn hso
  go_enter Tryz.func3, Tryz.ntmps3
  go_wp2_with fail
  refine (HSZ.out _ (World.grownBy_alloc _ _ _)).mono ?_
  rintro e w1 ⟨rfl, g1⟩
  have ca : w1.cell? ⟨w.heap.size, 0, none⟩ = some (.slice na t.nodes.length ncap) := g1.cell (by simp [go_sem]) (by simp)
  have cb : w1.cell? ⟨w.heap.size, 1, none⟩ = some (.slice ta t.tail.length tcap) := g1.cell (by simp [go_sem]) (by simp)
  have tB := hide (grown_trans (World.grownBy_alloc w (Obj.cells #[.slice na t.nodes.length ncap, .slice ta t.tail.length tcap] 25) none) g1)
  have hw1 : w.heap.size + 1 ≤ w1.heap.size := by have := g1.size; simp at this; omega
  clear g1 HSZ
  go_wp2_with fail
  refine (toTree_any t _ _ _ (HRd.out _ tB.out) HOK.out).mono ?_
  rintro e w2 ⟨n2, t2, rfl, on2, ot2, g⟩
  have ca := g.cell ca (by simp)
  have cb := g.cell cb (by simp)
  have tB := hide (grown_trans tB.out g)
  have hw2 := Nat.le_trans hw1 g.size
  clear g hw1
  obtain ⟨xa, xc, qx, _⟩ := on2.rd
  obtain ⟨ya, yc, qy, _⟩ := ot2.rd
  have HSs := hide (HS.out _ _ w2 ⟨on2.rd, ot2.rd⟩)
  subst qx qy
  clear on2 ot2 HS
  go_wp2_with fail
  refine HSs.out.mono ?_
  rintro e w3 ⟨sv, rfl, hsv, g⟩
  have ca := g.cell ca (by simp)
  have cb := g.cell cb (by simp)
  have tB := hide (grown_trans tB.out g)
  have hw3 := Nat.le_trans hw2 g.size
  clear g HSs hw2
  obtain ⟨sa, sc, qs, _⟩ := id hsv
  subst qs
  generalize hsl : (sns rr t.nodes).length = sl at *
  -- w0's block
  obtain ⟨W3, hW3⟩ : ∃ W3, W3 = w3.alloc (Obj.cells #[.slice sa sl sc, .slice none 0 0] 30) := ⟨_, rfl⟩
  have g : w3.grownBy W3 none := by rw [hW3]; exact World.grownBy_alloc _ _ _
  have s0 : W3.cell? ⟨w3.heap.size, 0, none⟩ = some (.slice sa sl sc) := by rw [hW3]; simp [go_sem]
  have s1 : W3.cell? ⟨w3.heap.size, 1, none⟩ = some (.slice none 0 0) := by rw [hW3]; simp [go_sem]
  have zW3 : W3.heap.size = w3.heap.size + 1 := by rw [hW3]; simp
  have ca := g.cell ca (by simp)
  have cb := g.cell cb (by simp)
  have tB := hide (grown_trans tB.out g)
  have hsv := hide (hsv.keep g)
  clear g
  subst hW3
  go_wp2_with fail
  refine (toTree_any t _ _ _ (HRd.out _ tB.out) HOK.out).mono ?_
  rintro e w4 ⟨n4, t4, rfl, on4, ot4, g⟩
  replace ca := g.cell ca (by simp)
  replace cb := g.cell cb (by simp)
  replace tB := hide (grown_trans tB.out g)
  replace hsv := hide (hsv.out.keep g)
  replace s0 := g.cell s0 (by simp)
  replace s1 := g.cell s1 (by simp)
  have z4 := g.size
  rw [zW3] at z4 on4 ot4
  clear g zW3
  obtain ⟨x, hxv, hxo, hxt⟩ := own_lns on4 HOK.out.n HOK.out.ns
  obtain ⟨y, hyv, hyo, hyt⟩ := owc_lcs ot4 HOK.out.tl HOK.out.ts
  have hxT := hide ((hxt.app hyt).ok)
  have HXB : Hid (∀ z ∈ trM x ++ trK y, w3.heap.size + 1 ≤ z.1.block ∧ z.1.block < w4.heap.size) := fun z hz => ((hxt.app hyt) z hz).2
  clear hxt hyt
  obtain ⟨pa, pc, qx, _⟩ := id on4.rd
  obtain ⟨ra, rc, qy, _⟩ := id ot4.rd
  subst qx qy
  obtain ⟨W4, hW4⟩ : ∃ W4, W4 = w4.alloc (Obj.cells #[.slice pa t.nodes.length pc, .slice ra t.tail.length rc] 30) := ⟨_, rfl⟩
  have g : w4.grownBy W4 none := by rw [hW4]; exact World.grownBy_alloc _ _ _
  have x0c : W4.cell? ⟨w4.heap.size, 0, none⟩ = some (.slice pa t.nodes.length pc) := by rw [hW4]; simp [go_sem]
  have x1c : W4.cell? ⟨w4.heap.size, 1, none⟩ = some (.slice ra t.tail.length rc) := by rw [hW4]; simp [go_sem]
  have zW4 : W4.heap.size = w4.heap.size + 1 := by rw [hW4]; simp
  replace on4 := hide on4
  replace ot4 := hide ot4
  replace hxo := hide hxo
  replace hyo := hide hyo
  replace ca := g.cell ca (by simp)
  replace cb := g.cell cb (by simp)
  replace tB := hide (grown_trans tB.out g)
  replace hsv := hide (hsv.out.keep g)
  replace s0 := g.cell s0 (by simp)
  replace s1 := g.cell s1 (by simp)
  replace on4 := hide (on4.out.later g)
  replace ot4 := hide (ot4.out.later g)
  replace hxo := hide (hxo.out.grown g)
  replace hyo := hide (hyo.out.grown g)
  replace hxT := hide (hxT.out.grown g)
  clear g
  subst hW4
  go_wp2_with fail
  refine (HI.out _ _ _ tB.out ⟨on4.out.rd, ot4.out.rd⟩).mono ?_
  rintro e w5 ⟨gv, rfl, hga, g⟩
  replace ca := g.cell ca (by simp)
  replace cb := g.cell cb (by simp)
  replace tB := hide (grown_trans tB.out g)
  replace hsv := hide (hsv.out.keep g)
  replace s0 := g.cell s0 (by simp)
  replace s1 := g.cell s1 (by simp)
  replace on4 := hide (on4.out.later g)
  replace ot4 := hide (ot4.out.later g)
  replace hxo := hide (hxo.out.grown g)
  replace hyo := hide (hyo.out.grown g)
  replace hxT := hide (hxT.out.grown g)
  replace x0c := g.cell x0c (by simp)
  replace x1c := g.cell x1c (by simp)
  have z5 := g.size
  rw [zW4] at z5 hga
  clear g zW4
  obtain ⟨ga, gc, qg, _⟩ := id hga.rd
  obtain ⟨xg, hgv, hgo, hgl, hgt, hgn⟩ := ans_lns hga HOK.out.n HOK.out.ns
  have hgT := hide hgt.ok
  have HGB : Hid (∀ z ∈ trM xg, w4.heap.size + 1 ≤ z.1.block ∧ z.1.block < w5.heap.size) := fun z hz => (hgt z hz).2
  have HGL := hide hgl
  have HGN := hide hgn
  replace hgo := hide hgo
  clear hgt hgl hgn
  rw [hsl] at qg
  subst qg
  obtain ⟨W5, hW5⟩ : ∃ W5, W5 = w5.alloc (Obj.cells #[.slice ga sl gc, .slice none 0 0] 30) := ⟨_, rfl⟩
  have g : w5.grownBy W5 none := by rw [hW5]; exact World.grownBy_alloc _ _ _
  have g0c : W5.cell? ⟨w5.heap.size, 0, none⟩ = some (.slice ga sl gc) := by rw [hW5]; simp [go_sem]
  have g1c : W5.cell? ⟨w5.heap.size, 1, none⟩ = some (.slice none 0 0) := by rw [hW5]; simp [go_sem]
  have zW5 : W5.heap.size = w5.heap.size + 1 := by rw [hW5]; simp
  replace hga := hide hga
  replace ca := g.cell ca (by simp)
  replace cb := g.cell cb (by simp)
  replace tB := hide (grown_trans tB.out g)
  replace hsv := hide (hsv.out.keep g)
  replace s0 := g.cell s0 (by simp)
  replace s1 := g.cell s1 (by simp)
  replace on4 := hide (on4.out.later g)
  replace ot4 := hide (ot4.out.later g)
  replace hxo := hide (hxo.out.grown g)
  replace hyo := hide (hyo.out.grown g)
  replace hxT := hide (hxT.out.grown g)
  replace x0c := g.cell x0c (by simp)
  replace x1c := g.cell x1c (by simp)
  replace hga := hide (hga.out.later g)
  replace hgo := hide (hgo.out.grown g)
  replace hgT := hide (hgT.out.grown g)
  clear g
  subst hW5
  go_wp2_with fail
  refine (HEQ.out _ _ _ hga.out.rd (hsv.out.wide (by omega))).mono ?_
  rintro e w6 ⟨rfl, g⟩
  replace ca := g.cell ca (by simp)
  replace cb := g.cell cb (by simp)
  replace tB := hide (grown_trans tB.out g)
  replace hsv := hide (hsv.out.keep g)
  replace s0 := g.cell s0 (by simp)
  replace s1 := g.cell s1 (by simp)
  replace on4 := hide (on4.out.later g)
  replace ot4 := hide (ot4.out.later g)
  replace hxo := hide (hxo.out.grown g)
  replace hyo := hide (hyo.out.grown g)
  replace hxT := hide (hxT.out.grown g)
  replace x0c := g.cell x0c (by simp)
  replace x1c := g.cell x1c (by simp)
  replace hga := hide (hga.out.later g)
  replace hgo := hide (hgo.out.grown g)
  replace hgT := hide (hgT.out.grown g)
  replace g0c := g.cell g0c (by simp)
  replace g1c := g.cell g1c (by simp)
  have z6 := g.size
  rw [zW5] at z6
  clear g zW5
  go_wp2
  obtain ⟨I, hI⟩ : ∃ I : World → Prop, I = (fun W : World => (W.cell? ⟨w4.heap.size, 0, none⟩ = some (.slice pa t.nodes.length pc) ∧ W.cell? ⟨w4.heap.size, 1, none⟩ = some (.slice ra t.tail.length rc)) ∧ W.cell? ⟨w.heap.size, 0, none⟩ = some (.slice na t.nodes.length ncap) ∧ W.cell? ⟨w.heap.size, 1, none⟩ = some (.slice ta t.tail.length tcap)) := ⟨_, rfl⟩
  have g : w6.grownBy w6.drew none := ⟨rfl, rfl, rfl, Nat.le_refl _, fun _ _ _ => rfl⟩
  replace ca := g.cell ca (by simp)
  replace cb := g.cell cb (by simp)
  replace tB := hide (grown_trans tB.out g)
  replace hsv := hide (hsv.out.keep g)
  replace s0 := g.cell s0 (by simp)
  replace s1 := g.cell s1 (by simp)
  replace on4 := hide (on4.out.later g)
  replace ot4 := hide (ot4.out.later g)
  replace hxo := hide (hxo.out.grown g)
  replace hyo := hide (hyo.out.grown g)
  replace hxT := hide (hxT.out.grown g)
  replace x0c := g.cell x0c (by simp)
  replace x1c := g.cell x1c (by simp)
  replace hga := hide (hga.out.later g)
  replace hgo := hide (hgo.out.grown g)
  replace hgT := hide (hgT.out.grown g)
  replace g0c := g.cell g0c (by simp)
  replace g1c := g.cell g1c (by simp)
  clear g
  have HI0 : I w6.drew := by rw [hI]; exact ⟨⟨x0c, x1c⟩, ca, cb⟩
  refine region_anyI I (fun _ => false) (by kernel_rfl) ?_
  show anyI _ _ _ _ _ _ 5 (Array.replicate 5 false) _ _
  refine anyI_take (i := 0) (.agg #[.slice pa t.nodes.length pc, .slice ra t.tail.length rc]) rfl (by kernel_rfl) (by kernel_rfl) (by kernel_rfl) (by kernel_rfl) (fun _ _ _ h => h) HI0 (yldI rfl (fun W hW => by rw [hI] at hW; obtain ⟨⟨h1, h2⟩, h3, h4⟩ := hW; go_simp)) ?_
  refine anyI_take (i := 1) (.agg #[.slice na t.nodes.length ncap, .slice ta t.tail.length tcap]) rfl (by kernel_rfl) (by kernel_rfl) (by kernel_rfl) (by kernel_rfl) (fun _ _ _ h => h) HI0 (yldI rfl (fun W hW => by rw [hI] at hW; obtain ⟨⟨h1, h2⟩, h3, h4⟩ := hW; go_simp)) ?_
  refine anyI_one (i := 2) (by kernel_rfl) (wpOp_call rfl rfl (by go_simp) (toTree_any t _ _ _ (HRd.out _ tB.out) HOK.out) ?_)
  rintro e w7 ⟨n6, t6, rfl, on6, ot6, g⟩
  replace ca := g.cell ca (by simp)
  replace cb := g.cell cb (by simp)
  replace tB := hide (grown_trans tB.out g)
  replace hsv := hide (hsv.out.keep g)
  replace s0 := g.cell s0 (by simp)
  replace s1 := g.cell s1 (by simp)
  replace on4 := hide (on4.out.later g)
  replace ot4 := hide (ot4.out.later g)
  replace hxo := hide (hxo.out.grown g)
  replace hyo := hide (hyo.out.grown g)
  replace hxT := hide (hxT.out.grown g)
  replace x0c := g.cell x0c (by simp)
  replace x1c := g.cell x1c (by simp)
  replace hga := hide (hga.out.later g)
  replace hgo := hide (hgo.out.grown g)
  replace hgT := hide (hgT.out.grown g)
  replace g0c := g.cell g0c (by simp)
  replace g1c := g.cell g1c (by simp)
  have z7 : w6.heap.size ≤ w7.heap.size := g.size
  clear g
  have HI1 : I w7 := by rw [hI]; exact ⟨⟨x0c, x1c⟩, ca, cb⟩
  refine ⟨_, rfl, .inr HI1, ?_⟩
  refine anyI_one (i := 3) (by kernel_rfl) (wpOp_call rfl rfl (by go_simp) (eqTree_same _ _ _ _ t _ ⟨on4.out.rd, ot4.out.rd⟩ ⟨on6.rd, ot6.rd⟩ HOK.out.n HOK.out.ns HOK.out.tl HOK.out.ts) ?_)
  rintro e w8 ⟨rfl, g⟩
  replace ca := g.cell ca (by simp)
  replace cb := g.cell cb (by simp)
  replace tB := hide (grown_trans tB.out g)
  replace hsv := hide (hsv.out.keep g)
  replace s0 := g.cell s0 (by simp)
  replace s1 := g.cell s1 (by simp)
  replace hxo := hide (hxo.out.grown g)
  replace hyo := hide (hyo.out.grown g)
  replace hxT := hide (hxT.out.grown g)
  replace x0c := g.cell x0c (by simp)
  replace x1c := g.cell x1c (by simp)
  replace hga := hide (hga.out.later g)
  replace hgo := hide (hgo.out.grown g)
  replace hgT := hide (hgT.out.grown g)
  replace g0c := g.cell g0c (by simp)
  replace g1c := g.cell g1c (by simp)
  have z8 := g.size
  clear g on6 ot6 on4 ot4
  have HI2 : I w8 := by rw [hI]; exact ⟨⟨x0c, x1c⟩, ca, cb⟩
  refine ⟨_, rfl, .inr HI2, ?_⟩
  refine anyI_one (i := 4) (by kernel_rfl) (wpOp_val (v := .bool false) rfl rfl (by go_simp) ⟨.inr HI2, ?_⟩)
  refine anyI_done (by kernel_rfl) ?_ _
  clear HI0 HI1 HI2
  subst hI
  go_wp2_with fail
  refine (markTree_any x y (w3.heap.size + 1) w4.heap.size _ _ w8 hxv hyv hxo.out hyo.out hxT.out HXB.out).mono ?_
  rintro e w9 ⟨n, rfl, hn, hm, HM⟩
  have hB9 := hm.below (by omega)
  replace ca := (hB9.cell (by simp; omega)).trans ca
  replace cb := (hB9.cell (by simp; omega)).trans cb
  replace s0 := (hB9.cell (by simp)).trans s0
  replace s1 := (hB9.cell (by simp)).trans s1
  replace g0c := hm.far.cell (by omega) g0c
  replace g1c := hm.far.cell (by omega) g1c
  replace hsv := hide (hsv.out.low (fun k hk => hB9.block k (by omega)))
  replace tB := hide (grown_of_below ((below_of_grown tB.out).trans (hB9.mono (by omega))))
  replace hga := hide (hga.out.far (hm.far.mono (by omega)))
  replace hgo := hide (HM.out.1 _ hgo.out)
  replace hgT := hide (HM.out.2 _ hgT.out)
  have z9 := hm.size
  have hk0 : ¬ (1 + (n : Int)) < 0 := by omega
  clear hm HM hB9 hxo hyo hxT HXB x0c x1c hxv hyv
  go_wp2_with fail
  refine (HEQ.out _ _ _ hga.out.rd (hsv.out.wide (by omega))).mono ?_
  rintro e w10 ⟨rfl, g⟩
  replace ca := g.cell ca (by simp)
  replace cb := g.cell cb (by simp)
  replace tB := hide (grown_trans tB.out g)
  replace hsv := hide (hsv.out.keep g)
  replace s0 := g.cell s0 (by simp)
  replace s1 := g.cell s1 (by simp)
  replace hgo := hide (hgo.out.grown g)
  replace hgT := hide (hgT.out.grown g)
  replace g0c := g.cell g0c (by simp)
  replace g1c := g.cell g1c (by simp)
  have z10 := g.size
  clear g hga hk0
  go_wp2_with fail
  refine (markTree_own xg (w4.heap.size + 1) w5.heap.size _ w10 hgv hgo.out hgT.out HGN.out HGB.out).mono ?_
  rintro e w11 ⟨rfl, hm, HH⟩
  have hB11 := hm.below (by omega)
  replace ca := (hB11.cell (by simp; omega)).trans ca
  replace cb := (hB11.cell (by simp; omega)).trans cb
  replace s0 := (hB11.cell (by simp; omega)).trans s0
  replace s1 := (hB11.cell (by simp; omega)).trans s1
  replace g0c := hm.far.cell (by omega) g0c
  replace g1c := hm.far.cell (by omega) g1c
  replace hsv := hide (hsv.out.low (fun k hk => hB11.block k (by omega)))
  replace tB := hide (grown_of_below ((below_of_grown tB.out).trans (hB11.mono (by omega))))
  have z11 := hm.size
  have hle := trM_le HH.out.1
  have HHd := hide (heldTree_tr xg none 0 1 w11 HH.out.1 HGL.out HH.out.2 (by omega) (by omega))
  rw [hgv] at HHd
  generalize (trM xg).length = L at *
  have hq0 : ¬ (1 + (L : Int)) < 0 := by omega
  have hqq : ((1 + (L : Int)) != (1 + (L : Int))) = false := by simp
  clear hm HH hB11 hgo hgT HGB HGN HGL
  go_wp2_with fail
  refine HHd.out.mono ?_
  rintro e w12 ⟨rfl, g⟩
  replace ca := g.cell ca (by simp)
  replace cb := g.cell cb (by simp)
  replace tB := hide (grown_trans tB.out g)
  replace hsv := hide (hsv.out.keep g)
  replace s0 := g.cell s0 (by simp)
  replace s1 := g.cell s1 (by simp)
  have z12 := g.size
  clear g HHd g0c g1c
  go_wp2_with fail
  refine (toTree_any t _ _ _ (HRd.out _ tB.out) HOK.out).mono ?_
  rintro e w13 ⟨n13, t13, rfl, on13, ot13, g⟩
  replace ca := g.cell ca (by simp)
  replace cb := g.cell cb (by simp)
  replace tB := hide (grown_trans tB.out g)
  replace hsv := hide (hsv.out.keep g)
  replace s0 := g.cell s0 (by simp)
  replace s1 := g.cell s1 (by simp)
  have z13 := g.size
  clear g
  obtain ⟨ha, hc, qx, _⟩ := on13.rd
  obtain ⟨hta, htc, qy, _⟩ := ot13.rd
  have HIh := hide (HI.out _ _ w13 tB.out ⟨on13.rd, ot13.rd⟩)
  subst qx qy
  clear on13 ot13 HI
  go_wp2_with fail
  refine HIh.out.mono ?_
  rintro e w14 ⟨hv, rfl, hgh, g⟩
  replace ca := g.cell ca (by simp)
  replace cb := g.cell cb (by simp)
  replace tB := hide (grown_trans tB.out g)
  replace hsv := hide (hsv.out.keep g)
  replace s0 := g.cell s0 (by simp)
  replace s1 := g.cell s1 (by simp)
  have z14 := g.size
  clear g HIh
  obtain ⟨hha, hhc, qh, _⟩ := id hgh.rd
  rw [hsl] at qh
  subst qh
  have g := World.grownBy_alloc w14 (Obj.cells #[.slice hha sl hhc, .slice none 0 0] 30) none
  have h0c : (w14.alloc (Obj.cells #[.slice hha sl hhc, .slice none 0 0] 30)).cell? ⟨w14.heap.size, 0, none⟩ = some (.slice hha sl hhc) := by simp [go_sem]
  have h1c : (w14.alloc (Obj.cells #[.slice hha sl hhc, .slice none 0 0] 30)).cell? ⟨w14.heap.size, 1, none⟩ = some (.slice none 0 0) := by simp [go_sem]
  replace hgh := hide hgh
  replace ca := g.cell ca (by simp)
  replace cb := g.cell cb (by simp)
  replace tB := hide (grown_trans tB.out g)
  replace hsv := hide (hsv.out.keep g)
  replace s0 := g.cell s0 (by simp)
  replace s1 := g.cell s1 (by simp)
  replace hgh := hide (hgh.out.later g)
  have z15 := g.size
  clear g
  go_wp2_with fail
  refine (HEQ.out _ _ _ hgh.out.rd (hsv.out.wide (by omega))).mono ?_
  rintro e w16 ⟨rfl, g⟩
  replace tB := hide (grown_trans tB.out g)
  clear g hgh
  go_wp2
  go_ret
  exact ⟨rfl, below_of_grown tB.out⟩
end Go.Proofs.YthcjmmpkgljjhaaGreatDoor

