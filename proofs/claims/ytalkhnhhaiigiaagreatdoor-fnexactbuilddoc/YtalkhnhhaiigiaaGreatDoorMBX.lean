import Derived.Test.YtalkhnhhaiigiaaGreatDoorCards
import Derived.Test.YtalkhnhhaiigiaaGreatDoorTie
import Derived.Shelf.Vars
import Derived.WalkKit
import Derived.ProofKit
import Derived.OpenShut
import Derived.WalkSmall
import Derived.Deep.DeepHandedRow
import Derived.Lib.LaidTab
import Derived.Test.YtalkhnhhaiigiaaGreatDoorMBV
import Derived.Test.YtalkhnhhaiigiaaGreatDoorMBW
namespace Go.Proofs.YtalkhnhhaiigiaaGreatDoor
open Go.RowKit
attribute [-go_sem] Builtin.append_

set_option maxHeartbeats 16000000 in
set_option maxRecDepth 100000 in
theorem lawBuildDoc (nv tv : Value) (t : Tre) (ind m : Int) (w : World) (hv : RdT' w.heap.size w nv tv t) (hbn : ∀ p ∈ t.nodes, NBy p) (hbt : ∀ c ∈ t.tail, COk c) (hT : Tab w) (hM : w.cell? ⟨1, 0, none⟩ = some (.int .i64 m)) :
    Calls Tryz.prog 3 #[.agg #[nv, tv], .int .i64 ind] w fun e w' => e = .returned (.bool true) ∧ Below w.heap.size w w' := by
  obtain ⟨hvn, hvt⟩ := id hv
  obtain ⟨na, ncap, e0, _⟩ := id hvn
  obtain ⟨ta, tcap, e1, _⟩ := id hvt
  have hsz : 2 ≤ w.heap.size := World.block_lt_of_cell? w _ hM
  have HRd : Hid (∀ w', w.grownBy w' none → RdT' w'.heap.size w' nv tv t) := fun w' g => ⟨(hvn.keep g).wide g.size, (hvt.keep g).wide g.size⟩
  have HSZ := hide (fun w' (g : w.grownBy w' none) => szTree_any nv tv t 1048576 w' (HRd.out w' g) (by omega) (by omega))
  by_cases h0 : szTr t 1048576 < 0
  · subst e0 e1
    generalize szTr t 1048576 = sz at *
    clear hv hvn hvt hT hM HRd
    go_enter Tryz.func3, Tryz.ntmps3
    go_wp2_with fail
    refine (HSZ.out _ (World.grownBy_alloc _ _ _)).mono ?_
    rintro e w1 ⟨rfl, g1⟩
    go_wp2
    go_ret
    exact ⟨rfl, below_of_grown (grown_trans (World.grownBy_alloc _ _ _) g1)⟩
  obtain ⟨hok, hto, hR, hK⟩ := tree_sizes t h0 hbn hbt
  have HOK := hide hok
  have HVD := hide (valid_doc t hto)
  have HIV : ∀ (u v : Value) (w' : World), RdT' w'.heap.size w' u v t → Tab w' → w'.cell? ⟨1, 0, none⟩ = some (.int .i64 m) → Calls Tryz.prog 21 #[.agg #[u, v]] w' fun e w'' => e = .returned (.bool (validI t)) ∧ w'.grownBy w'' none := fun u v w' h hT hM => implValidTree_any u v t m w' h hto hT hM
  have HSV : ∀ (u v : Value) (w' : World), RdT' w'.heap.size w' u v t → Calls Tryz.prog 15 #[.agg #[u, v]] w' fun e w'' => e = .returned (.bool (validI t)) ∧ w'.grownBy w'' none := fun u v w' h => by
    have := specValidTree_any u v t w' h hto hR hK
    rw [validS_eq t hto] at this
    exact this
  have hnot : ∀ (x : Bool) (w : World), (Op.unary .not (.bool x)).run Tryz.prog w = .ok (.bool (!x)) w := fun _ _ => rfl
  generalize validI t = rr at *
  have HS : Hid (∀ (u v : Value) (w' : World), RdT' w'.heap.size w' u v t → Calls Tryz.prog 5 #[.agg #[u, v], .int .i64 ind] w' fun e w'' => ∃ v', e = .returned (.tuple #[v', .int .i64 (bdR rr ind t).2]) ∧ RdP w''.heap.size w'' v' (bdR rr ind t).1 ∧ w'.grownBy w'' none) := fun u v w' h => by
    refine (specBuild_any t ind rr (fun h => ?_) u v w' h (fun W hW => HSV u v W hW)).mono ?_
    · obtain ⟨a1, a2, a3⟩ := HVD.out h; exact ⟨a1, a2.2.2, a3⟩
    · rintro e w'' ⟨v', h1, h2, h3⟩; exact ⟨v', h1, h2.rdP, h3⟩
  have HI : Hid (∀ (u v : Value) (w' : World), w.grownBy w' none → RdT' w'.heap.size w' u v t → Calls Tryz.prog 7 #[.agg #[u, v], .int .i64 ind] w' fun e w'' => ∃ v', e = .returned (.tuple #[v', .int .i64 (bdR rr ind t).2]) ∧ DfR w'.heap.size w'' v' (bdR rr ind t).1 ∧ w'.grownBy w'' none) := fun u v w' g h => by
    refine implBuild_any t ind m rr (fun h => ?_) u v w' h (hT.keep g) (g.cell hM (by simp)) (fun W hW => HIV u v W hW)
    obtain ⟨a1, a2, a3⟩ := HVD.out h
    exact ⟨⟨a1.nd, a1.ok, fun p hp => (a1.cn p hp).2, a1.wt⟩, hto.t.2, a2.2.1, a3⟩
  obtain ⟨hsn, hso⟩ := bdR_small rr ind t
  generalize bdR rr ind t = R at *
  obtain ⟨ps, r2⟩ := R
  simp only at HS HI hsn hso
  have HEQ : Hid (∀ (u u' : Value) (w' : World), RdP w'.heap.size w' u ps → RdP w'.heap.size w' u' ps → Calls Tryz.prog 8 #[u, u'] w' fun e w'' => e = .returned (.bool true) ∧ w'.grownBy w'' none) := fun u u' w' h h' =>
    eqPieceS_same u u' ps w' h h' hsn hso
  have HLP : Hid (∀ (H : Nat) (w' : World) (v : Value), DfR H w' v ps → ∃ x : Lps, x.v = v ∧ Lps.ok w' x ∧ TrIn w' H (trQ x) ∧ ((trQ x).map (·.1)).Nodup) := fun H w' v h => dfr_lps h hsn hso
  have hr2 : (r2 != r2) = false := by simp
  generalize hsl : ps.length = sl at *
  subst e0 e1
  generalize szTr t 1048576 = sz at *
  clear hv hvn hvt hT hM hto hR hK hok hbn hbt HIV HSV HVD hsn hso
  go_enter Tryz.func3, Tryz.ntmps3
  go_wp2_with fail
  refine (HSZ.out _ (World.grownBy_alloc _ _ _)).mono ?_
  rintro e w1 ⟨rfl, g1⟩
  have ca : w1.cell? ⟨w.heap.size, 0, none⟩ = some (.slice na t.nodes.length ncap) := g1.cell (by simp [go_sem]) (by simp)
  have cb : w1.cell? ⟨w.heap.size, 1, none⟩ = some (.slice ta t.tail.length tcap) := g1.cell (by simp [go_sem]) (by simp)
  have tB := hide (grown_trans (World.grownBy_alloc w (Obj.cells #[.slice na t.nodes.length ncap, .slice ta t.tail.length tcap] 25) none) g1)
  have hw1 : w.heap.size + 1 ≤ w1.heap.size := by have := g1.size; simp at this; omega
  clear g1 HSZ
  go_wp2_with fail
  refine (toTree_any t _ _ _ (HRd.out _ tB.out) HOK.out).mono ?_
  rintro e w2 ⟨n2, t2, rfl, on2, ot2, g⟩
  replace ca := g.cell ca (by simp)
  replace cb := g.cell cb (by simp)
  replace tB := hide (grown_trans tB.out g)
  have hw2 := Nat.le_trans hw1 g.size
  clear g hw1
  obtain ⟨xa, xc, qx, _⟩ := on2.rd
  obtain ⟨ya, yc, qy, _⟩ := ot2.rd
  have HSs := hide (HS.out _ _ w2 ⟨on2.rd, ot2.rd⟩)
  subst qx qy
  clear on2 ot2 HS
  go_wp2_with fail
  refine HSs.out.mono ?_
  rintro e w3 ⟨sv, rfl, hsv, g⟩
  replace ca := g.cell ca (by simp)
  replace cb := g.cell cb (by simp)
  replace tB := hide (grown_trans tB.out g)
  have hw3 := Nat.le_trans hw2 g.size
  clear g HSs hw2
  obtain ⟨sa, sc, qs, _⟩ := id hsv
  rw [hsl] at qs
  subst qs
  replace hsv := hide hsv
  go_wp2_with fail
  refine (toTree_any t _ _ _ (HRd.out _ tB.out) HOK.out).mono ?_
  rintro e w4 ⟨n4, t4, rfl, on4, ot4, g⟩
  replace ca := g.cell ca (by simp)
  replace cb := g.cell cb (by simp)
  replace tB := hide (grown_trans tB.out g)
  replace hsv := hide (hsv.out.keep g)
  have z4 := g.size
  clear g
  obtain ⟨x, hxv, hxo, hxt⟩ := own_lns on4 HOK.out.n HOK.out.ns
  obtain ⟨y, hyv, hyo, hyt⟩ := owc_lcs ot4 HOK.out.tl HOK.out.ts
  have hxT := hide ((hxt.app hyt).ok)
  have HXB : Hid (∀ z ∈ trM x ++ trK y, w3.heap.size ≤ z.1.block ∧ z.1.block < w4.heap.size) := fun z hz => ((hxt.app hyt) z hz).2
  clear hxt hyt
  obtain ⟨pa, pc, qx, _⟩ := id on4.rd
  obtain ⟨ra, rc, qy, _⟩ := id ot4.rd
  subst qx qy
  obtain ⟨W4, hW4⟩ : ∃ W4, W4 = w4.alloc (Obj.cells #[.slice pa t.nodes.length pc, .slice ra t.tail.length rc] 33) := ⟨_, rfl⟩
  have g : w4.grownBy W4 none := by rw [hW4]; exact World.grownBy_alloc _ _ _
  have x0c : W4.cell? ⟨w4.heap.size, 0, none⟩ = some (.slice pa t.nodes.length pc) := by rw [hW4]; simp [go_sem]
  have x1c : W4.cell? ⟨w4.heap.size, 1, none⟩ = some (.slice ra t.tail.length rc) := by rw [hW4]; simp [go_sem]
  have zW4 : W4.heap.size = w4.heap.size + 1 := by rw [hW4]; simp
  replace on4 := hide on4
  replace ot4 := hide ot4
  replace hxo := hide hxo
  replace hyo := hide hyo
  replace ca := g.cell ca (by simp)
  replace cb := g.cell cb (by simp)
  replace tB := hide (grown_trans tB.out g)
  replace hsv := hide (hsv.out.keep g)
  replace on4 := hide (on4.out.later g)
  replace ot4 := hide (ot4.out.later g)
  replace hxo := hide (hxo.out.grown g)
  replace hyo := hide (hyo.out.grown g)
  replace hxT := hide (hxT.out.grown g)
  clear g
  subst hW4
  go_wp2_with fail
  refine (HI.out _ _ _ tB.out ⟨on4.out.rd, ot4.out.rd⟩).mono ?_
  rintro e w5 ⟨gv, rfl, hga, g⟩
  replace ca := g.cell ca (by simp)
  replace cb := g.cell cb (by simp)
  replace tB := hide (grown_trans tB.out g)
  replace hsv := hide (hsv.out.keep g)
  replace on4 := hide (on4.out.later g)
  replace ot4 := hide (ot4.out.later g)
  replace hxo := hide (hxo.out.grown g)
  replace hyo := hide (hyo.out.grown g)
  replace hxT := hide (hxT.out.grown g)
  replace x0c := g.cell x0c (by simp)
  replace x1c := g.cell x1c (by simp)
  have z5 := g.size
  rw [zW4] at z5 hga
  clear g zW4
  obtain ⟨ga, gc, qg⟩ := hga.sl
  rw [hsl] at qg
  subst qg
  replace hga := hide hga
  go_wp2_with fail
  refine (HEQ.out _ _ _ hga.out.rdP (hsv.out.wide (by omega))).mono ?_
  rintro e w6 ⟨rfl, g⟩
  replace ca := g.cell ca (by simp)
  replace cb := g.cell cb (by simp)
  replace tB := hide (grown_trans tB.out g)
  replace hsv := hide (hsv.out.keep g)
  replace on4 := hide (on4.out.later g)
  replace ot4 := hide (ot4.out.later g)
  replace hxo := hide (hxo.out.grown g)
  replace hyo := hide (hyo.out.grown g)
  replace hxT := hide (hxT.out.grown g)
  replace x0c := g.cell x0c (by simp)
  replace x1c := g.cell x1c (by simp)
  replace hga := hide (hga.out.keep g)
  have z6 := g.size
  clear g
  go_wp2
  obtain ⟨I, hI⟩ : ∃ I : World → Prop, I = (fun W : World => (W.cell? ⟨w4.heap.size, 0, none⟩ = some (.slice pa t.nodes.length pc) ∧ W.cell? ⟨w4.heap.size, 1, none⟩ = some (.slice ra t.tail.length rc)) ∧ W.cell? ⟨w.heap.size, 0, none⟩ = some (.slice na t.nodes.length ncap) ∧ W.cell? ⟨w.heap.size, 1, none⟩ = some (.slice ta t.tail.length tcap)) := ⟨_, rfl⟩
  have g : w6.grownBy w6.drew none := ⟨rfl, rfl, rfl, Nat.le_refl _, fun _ _ _ => rfl⟩
  replace ca := g.cell ca (by simp)
  replace cb := g.cell cb (by simp)
  replace tB := hide (grown_trans tB.out g)
  replace hsv := hide (hsv.out.keep g)
  replace on4 := hide (on4.out.later g)
  replace ot4 := hide (ot4.out.later g)
  replace hxo := hide (hxo.out.grown g)
  replace hyo := hide (hyo.out.grown g)
  replace hxT := hide (hxT.out.grown g)
  replace x0c := g.cell x0c (by simp)
  replace x1c := g.cell x1c (by simp)
  replace hga := hide (hga.out.keep g)
  clear g
  have HI0 : I w6.drew := by rw [hI]; exact ⟨⟨x0c, x1c⟩, ca, cb⟩
  refine region_anyI I (fun _ => false) (by kernel_rfl) ?_
  show anyI _ _ _ _ _ _ 5 (Array.replicate 5 false) _ _
  refine anyI_take (i := 0) (.agg #[.slice pa t.nodes.length pc, .slice ra t.tail.length rc]) rfl (by kernel_rfl) (by kernel_rfl) (by kernel_rfl) (by kernel_rfl) (fun _ _ _ h => h) HI0 (yldI rfl (fun W hW => by rw [hI] at hW; obtain ⟨⟨h1, h2⟩, h3, h4⟩ := hW; go_simp)) ?_
  refine anyI_take (i := 1) (.agg #[.slice na t.nodes.length ncap, .slice ta t.tail.length tcap]) rfl (by kernel_rfl) (by kernel_rfl) (by kernel_rfl) (by kernel_rfl) (fun _ _ _ h => h) HI0 (yldI rfl (fun W hW => by rw [hI] at hW; obtain ⟨⟨h1, h2⟩, h3, h4⟩ := hW; go_simp)) ?_
  refine anyI_one (i := 2) (by kernel_rfl) (wpOp_call rfl rfl (by go_simp) (toTree_any t _ _ _ (HRd.out _ tB.out) HOK.out) ?_)
  rintro e w7 ⟨n6, t6, rfl, on6, ot6, g⟩
  replace ca := g.cell ca (by simp)
  replace cb := g.cell cb (by simp)
  replace tB := hide (grown_trans tB.out g)
  replace hsv := hide (hsv.out.keep g)
  replace on4 := hide (on4.out.later g)
  replace ot4 := hide (ot4.out.later g)
  replace hxo := hide (hxo.out.grown g)
  replace hyo := hide (hyo.out.grown g)
  replace hxT := hide (hxT.out.grown g)
  replace x0c := g.cell x0c (by simp)
  replace x1c := g.cell x1c (by simp)
  replace hga := hide (hga.out.keep g)
  have z7 : w6.heap.size ≤ w7.heap.size := g.size
  clear g
  have HI1 : I w7 := by rw [hI]; exact ⟨⟨x0c, x1c⟩, ca, cb⟩
  refine ⟨_, rfl, .inr HI1, ?_⟩
  refine anyI_one (i := 3) (by kernel_rfl) (wpOp_call rfl rfl (by go_simp) (eqTree_same _ _ _ _ t _ ⟨on4.out.rd, ot4.out.rd⟩ ⟨on6.rd, ot6.rd⟩ HOK.out.n HOK.out.ns HOK.out.tl HOK.out.ts) ?_)
  rintro e w8 ⟨rfl, g⟩
  replace ca := g.cell ca (by simp)
  replace cb := g.cell cb (by simp)
  replace tB := hide (grown_trans tB.out g)
  replace hsv := hide (hsv.out.keep g)
  replace hxo := hide (hxo.out.grown g)
  replace hyo := hide (hyo.out.grown g)
  replace hxT := hide (hxT.out.grown g)
  replace x0c := g.cell x0c (by simp)
  replace x1c := g.cell x1c (by simp)
  replace hga := hide (hga.out.keep g)
  have z8 := g.size
  clear g on6 ot6 on4 ot4
  have HI2 : I w8 := by rw [hI]; exact ⟨⟨x0c, x1c⟩, ca, cb⟩
  refine ⟨_, rfl, .inr HI2, ?_⟩
  refine anyI_one (i := 4) (by kernel_rfl) (wpOp_val (v := .bool false) rfl rfl (by go_simp) ⟨.inr HI2, ?_⟩)
  refine anyI_done (by kernel_rfl) ?_ _
  clear HI0 HI1 HI2
  subst hI
  go_wp2_with fail
  refine (markTree_any x y w3.heap.size w4.heap.size _ _ w8 hxv hyv hxo.out hyo.out hxT.out HXB.out).mono ?_
  rintro e w9 ⟨n, rfl, hn, hm, HM⟩
  have hB9 := hm.below (by omega)
  replace ca := (hB9.cell (by simp; omega)).trans ca
  replace cb := (hB9.cell (by simp; omega)).trans cb
  replace hsv := hide (hsv.out.low (fun k hk => hB9.block k (by omega)))
  replace tB := hide (grown_of_below ((below_of_grown tB.out).trans (hB9.mono (by omega))))
  replace hga := hide (hga.out.far (hm.far.mono (by omega)))
  have z9 := hm.size
  have hk0 : ¬ (1 + (n : Int)) < 0 := by omega
  clear hm HM hB9 hxo hyo hxT HXB x0c x1c hxv hyv
  go_wp2_with fail
  refine (HEQ.out _ _ _ hga.out.rdP (hsv.out.wide (by omega))).mono ?_
  rintro e w10 ⟨rfl, g⟩
  replace ca := g.cell ca (by simp)
  replace cb := g.cell cb (by simp)
  replace tB := hide (grown_trans tB.out g)
  replace hsv := hide (hsv.out.keep g)
  replace hga := hide (hga.out.keep g)
  have z10 := g.size
  clear g hk0
  obtain ⟨xg, hgv, hgo, hgt, hgn⟩ := HLP.out _ _ _ hga.out
  have HMK := hide (markPieceS_own xg (w4.heap.size + 1) w10.heap.size _ w10 hgv hgo hgt.ok hgn (fun z hz => (hgt z hz).2))
  have hle := trQ_le hgo
  generalize (trQ xg).length = L at *
  clear hgv hgo hgt hgn hga
  go_wp2_with fail
  refine HMK.out.mono ?_
  rintro e w11 ⟨rfl, hm, HHd⟩
  have hB11 := hm.below (by omega)
  replace ca := (hB11.cell (by simp; omega)).trans ca
  replace cb := (hB11.cell (by simp; omega)).trans cb
  replace hsv := hide (hsv.out.low (fun k hk => hB11.block k (by omega)))
  replace tB := hide (grown_of_below ((below_of_grown tB.out).trans (hB11.mono (by omega))))
  have z11 := hm.size
  have hq0 : ¬ (1 + (L : Int)) < 0 := by omega
  have hqq : ((1 + (L : Int)) != (1 + (L : Int))) = false := by simp
  clear hm hB11 HMK
  go_wp2_with fail
  refine HHd.out.mono ?_
  rintro e w12 ⟨rfl, hw12⟩
  subst hw12
  clear HHd
  go_wp2_with fail
  refine (toTree_any t _ _ _ (HRd.out _ tB.out) HOK.out).mono ?_
  rintro e w13 ⟨n13, t13, rfl, on13, ot13, g⟩
  replace ca := g.cell ca (by simp)
  replace cb := g.cell cb (by simp)
  replace tB := hide (grown_trans tB.out g)
  replace hsv := hide (hsv.out.keep g)
  have z13 := g.size
  clear g
  obtain ⟨ha, hc, qx, _⟩ := on13.rd
  obtain ⟨hta, htc, qy, _⟩ := ot13.rd
  have HIh := hide (HI.out _ _ w13 tB.out ⟨on13.rd, ot13.rd⟩)
  subst qx qy
  clear on13 ot13 HI
  go_wp2_with fail
  refine HIh.out.mono ?_
  rintro e w14 ⟨hv, rfl, hgh, g⟩
  replace ca := g.cell ca (by simp)
  replace cb := g.cell cb (by simp)
  replace tB := hide (grown_trans tB.out g)
  replace hsv := hide (hsv.out.keep g)
  have z14 := g.size
  clear g HIh
  obtain ⟨hha, hhc, qh⟩ := hgh.sl
  rw [hsl] at qh
  subst qh
  replace hgh := hide hgh
  go_wp2_with fail
  refine (HEQ.out _ _ _ hgh.out.rdP (hsv.out.wide (by omega))).mono ?_
  rintro e w16 ⟨rfl, g⟩
  replace tB := hide (grown_trans tB.out g)
  clear g hgh
  go_wp2
  go_ret
  exact ⟨rfl, below_of_grown tB.out⟩
end Go.Proofs.YtalkhnhhaiigiaaGreatDoor

namespace Go.Proofs.YtalkhnhhaiigiaaGreatDoor.fnExactBuildDoc
open Go.ChangeShapes Go.WideShapes Go.ChangeAt Go.RowKit

theorem own : ownKnob Tryz.prog.godebug = none := by kernel_rfl
theorem laidOut : laidOutB Tryz.prog = true := by kernel_rfl
theorem gTab : Tryz.prog.globalNamed "loop.example/s02863/impl.formEnds" = some 0 := by kernel_rfl
theorem gTabType : (Tryz.prog.globals[0]?).map (·.type) = some 156 := by kernel_rfl
theorem cellsT : Tryz.prog.cellsOf 156 = 5 := by kernel_rfl
theorem cellsTr : Tryz.prog.cellsOf 25 = 2 := by kernel_rfl
theorem lenT2 {xs : Array Value} (h : xs.size = 2) : ∃ a b, xs = #[a, b] := by
  obtain ⟨l⟩ := xs
  obtain ⟨a, b, rfl⟩ := len2' (by simpa using h)
  exact ⟨a, b, rfl⟩
theorem cellsE : Tryz.prog.cellsOf 21 = 1 := by kernel_rfl

theorem one : (Rows.fnExactBuildDocRow.laid.filter fun x => x.1 == "loop.example/s02863/impl.formEnds") = [("loop.example/s02863/impl.formEnds", Lib.tabData .i32 [0, 128, 2048, 65536, 2097152])] := by kernel_rfl
theorem table {W : World} (h : laidMetH Tryz.prog Rows.fnExactBuildDocRow.laid W) : Lib.TabIs Tryz.prog W "loop.example/s02863/impl.formEnds" .i32 [0, 128, 2048, 65536, 2097152] :=
  Lib.tabIs_of_head (rest := []) gTab gTabType Tryz.underlying156 Tryz.underlying21 cellsE cellsT (one ▸ laidMetH.filter (fun x => x.1 == "loop.example/s02863/impl.formEnds") h)
theorem tab_of {W : World} (h : Lib.TabIs Tryz.prog W "loop.example/s02863/impl.formEnds" .i32 [0, 128, 2048, 65536, 2097152]) : Tab W :=
  ⟨h.cell gTab 0 (by decide), h.cell gTab 1 (by decide), h.cell gTab 2 (by decide), h.cell gTab 3 (by decide), h.cell gTab 4 (by decide)⟩
theorem tab_read {H : Type} (enc : TypeId × Value → H) (W : World) (sp : Nat → Bool) :
    DataW.trod enc Tryz.prog W 0 sp true 3 156 ([0, 128, 2048, 65536, 2097152].map fun z => Value.int .i32 z) = some (.agg [.lit (.int .i32 0), .lit (.int .i32 128), .lit (.int .i32 2048), .lit (.int .i32 65536), .lit (.int .i32 2097152)], []) := by kernel_rfl
theorem vars_at {H : Type} (enc : TypeId × Value → H) {W : World} (sp : Nat → Bool) (h : Lib.TabIs Tryz.prog W "loop.example/s02863/impl.formEnds" .i32 [0, 128, 2048, 65536, 2097152]) :
    DataW.TrodVars enc Tryz.prog W sp ["loop.example/s02863/impl.formEnds"] [.agg [.lit (.int .i32 0), .lit (.int .i32 128), .lit (.int .i32 2048), .lit (.int .i32 65536), .lit (.int .i32 2097152)]] (MemPlace.row ⟨0, 0, none⟩ 5 ++ []) :=
  trodVars_mk1 (fuel := 3) gTab gTabType h (by simpa using tab_read enc W sp)

set_option maxRecDepth 100000 in
theorem contract (H : Type) (enc : TypeId × Value → H) (W : World) (base : Nat) (args : Array Value) (ds gs : List (DataW H)) (before : List MemPlace)
    (hval : ∀ (j : Nat) t v, Tryz.f3.params[j]? = some t → args[j]? = some v → Value.okWide Tryz.prog W .any base t v)
    (hW : DataW.Whole enc Tryz.prog Tryz.f3.params.toList Rows.fnExactBuildDocSpec.vars false W args.toList ds gs before) (hL : laidMetH Tryz.prog Rows.fnExactBuildDocRow.laid W) (hS : W.ShapedOpen Tryz.prog) :
    Calls Tryz.prog 3 args W fun e W' => ∃ v, e = .returned v ∧ Rows.fnExactBuildDocSpec.post enc Tryz.prog Tryz.f3 false true false false W args v W' := by
  have hW' := hW
  obtain ⟨p, q, hA0, hV, rfl, hfz, hnd⟩ := hW
  have hA : DataW.TrodAll enc Tryz.prog W 0 (fun _ => true) true Tryz.f3.params.toList args.toList ds p := hA0
  rw [Tryz.params3] at hA hval
  obtain ⟨v0, vs0, d0, ds0, p0, q0, hargs, rfl, rfl, h0, r0⟩ := trodAll_cons hA
  obtain ⟨v1, vs1, d1, ds1, p1, q1, hargs1, rfl, rfl, h1, r1⟩ := trodAll_cons r0
  obtain ⟨rfl, rfl, rfl⟩ := trodAll_nil r1
  obtain rfl : args = #[v0, v1] := by cases args; simp_all
  have hTi := table hL
  obtain ⟨rfl, rfl⟩ := hV.unique (vars_at enc _ hTi)
  obtain ⟨cs, rfl, hsz⟩ := okWide_struct Tryz.underlying25 (hval 0 25 v0 rfl rfl)
  rw [cellsTr] at hsz
  obtain ⟨u0, u1, rfl⟩ := lenT2 hsz
  obtain ⟨ind, rfl⟩ := okWide_int Tryz.underlying3 (hval 1 3 v1 rfl rfl)
  have k0 := h0
  have k1 := h1
  have lt1 : ∀ x ∈ p1, x.block < W.heap.size := by obtain ⟨m, hm⟩ := k1; exact DataW.trod_lt m _ _ _ hm
  have lt0 : ∀ x ∈ p0, x.block < W.heap.size := by obtain ⟨m, hm⟩ := k0; exact DataW.trod_lt m _ _ _ hm
  obtain ⟨t, hrd, hbn, hbt⟩ : ∃ t : Tre, RdT' W.heap.size W u0 u1 t ∧ (∀ p ∈ t.nodes, NBy p) ∧ ∀ c ∈ t.tail, COk c := by
    obtain ⟨fuel, hf⟩ := h0
    exact open_tree hf
  clear hA0
  have hT := tab_of hTi
  obtain ⟨m, hM⟩ := cell_of_shapedOpen_int (P := Tryz.prog) (g := 1) (t := 3) (zero := #[.int .i64 0]) hS (of_decide_eq_true (by kernel_rfl)) (by kernel_rfl) rfl (by kernel_rfl) (by kernel_rfl) Tryz.underlying3
  refine (lawBuildDoc u0 u1 t ind m W hrd hbn hbt hT hM).mono fun e W' ⟨he, bel⟩ => ?_
  subst he
  have hTi' : Lib.TabIs Tryz.prog W' "loop.example/s02863/impl.formEnds" .i32 [0, 128, 2048, 65536, 2097152] := var?_below bel gTab hT.pos hTi
  exact ⟨_, rfl, _, _, _, [], _, _, hW', trodAll_mk1 (shut_bool Tryz.underlying4 _), (trodAll_cons_mk (Below.trod laidOut (by kernel_rfl) (of_decide_eq_true (by kernel_rfl)) k0 bel lt0) (trodAll_cons_mk (Below.trod laidOut (by kernel_rfl) (of_decide_eq_true (by kernel_rfl)) k1 bel lt1) trodAll_mk0)), vars_at enc _ hTi', bel.frame _, fun h => by cases h⟩

noncomputable def firstCells : Array Value := (Go.Pinned.utf8FirstZ.map fun (z : Nat) => Value.int .u8 z).toArray
noncomputable def acceptCells : Array Value := (([128, 191, 160, 191, 128, 159, 144, 191, 128, 143] ++ List.replicate 22 0 : List Int).map fun z => Value.int .u8 z).toArray
noncomputable def lay (o : Obj) (cs : Array Value) : Obj := match o with
  | .cells _ t frozen => .cells cs t frozen
  | o => o
noncomputable def laidWorld (os : Os) : World :=
  { World.holding Tryz.prog os ⟨#[], #[], []⟩ with heap := (((World.holding Tryz.prog os ⟨#[], #[], []⟩).heap.modify 0 fun o => lay o #[.int .i32 0, .int .i32 128, .int .i32 2048, .int .i32 65536, .int .i32 2097152]).modify 2 fun o => lay o firstCells).modify 3 fun o => lay o acceptCells }
theorem laid_met (os : Os) : laidMet Tryz.prog Rows.fnExactBuildDocRow.laid ((laidWorld os).forCall (fun _ _ => 0) ⟨#[], #[.agg #[.slice none 0 0, .slice none 0 0], .int .i64 0], []⟩).memory :=
  laidMet_of_run' 8 (by kernel_rfl) (by kernel_rfl)
theorem reads (os : Os) {H : Type} (enc : TypeId × Value → H) : ∃ places, DataW.whole enc Tryz.prog ((laidWorld os).forCall (fun _ _ => 0) ⟨#[], #[.agg #[.slice none 0 0, .slice none 0 0], .int .i64 0], []⟩).memory Tryz.f3.params.toList Rows.fnExactBuildDocSpec.vars false #[Value.agg #[.slice none 0 0, .slice none 0 0], .int .i64 0].toList 8 = some ([.agg [.nil, .nil], .lit (.int .i64 0)], [.agg [.lit (.int .i32 0), .lit (.int .i32 128), .lit (.int .i32 2048), .lit (.int .i32 65536), .lit (.int .i32 2097152)]], places) :=
  ⟨MemPlace.row ⟨0, 0, none⟩ 5, by kernel_rfl⟩

set_option maxRecDepth 100000 in
theorem lifted (os : Os) (started : os.Started) (H : Type) (enc : TypeId × Value → H) (F : Stop.Interp) :
    ReturnsInHanded {} Tryz.checked os 3 .any ((OpenSpec.ofChange Rows.fnExactBuildDocSpec).preRow enc Tryz.prog Tryz.f3 Rows.fnExactBuildDocRow.domain false Rows.fnExactBuildDocRow.laid) (((OpenSpec.ofChange Rows.fnExactBuildDocSpec).at F).post enc Tryz.prog Tryz.f3 false true false false) := by
  obtain ⟨places, hx⟩ := reads os enc
  refine returnsInHanded_of_row (C := Tryz.checked) (s := OpenSpec.ofChange Rows.fnExactBuildDocSpec) own started (by kernel_rfl) Tryz.func3
    (witness_row_at (enc := enc) (C := Tryz.checked) false (laidWorld os) #[.agg #[.slice none 0 0, .slice none 0 0], .int .i64 0] rfl (by kernel_rfl) (by kernel_rfl) (by kernel_rfl)
      (OpenSpec.preRow_of_cond 8 hx (by kernel_rfl) (fun k hk => by cases hk) (by kernel_rfl) (laid_met os))) ?_
  intro W base args ds gs before hval hW _ _ _ hL hS _
  exact contract H enc W base args ds gs before hval hW hL hS

theorem said : Rows.FnExactBuildDocSaid :=
  OpenClaim.holds_of_cond 3 Tryz.f3 rfl rfl rfl rfl rfl rfl rfl ⟨rfl, rfl, rfl, rfl, rfl⟩ rfl rfl rfl rfl rfl (by kernel_rfl) Tryz.func3 (by kernel_rfl)
    (of_decide_eq_true (by kernel_rfl)) (by unfold Func.isWrapper; first | (rw [if_pos (by decide +kernel)]; kernel_rfl) | (rw [if_neg (by decide +kernel)]; exact ⟨rfl, rfl⟩))
    (fun os started H enc _ F => by rw [OpenClaim.pre_eq_preRow]; exact lifted os started H enc F)

theorem plain (f : FuncId) (fn : Func) (hf : Tryz.pinned.checked.prog.funcNamed "loop.example/s02863/laws.FnExactBuildDoc" = some f) (hfn : Tryz.pinned.checked.prog.funcs[f]? = some fn) :
    false = Tryz.pinned.checked.prog.looks [] ∧ ∀ (j : Nat) t, fn.params[j]? = some t → Tryz.pinned.checked.prog.wantsStandIn t = false := by
  obtain rfl : f = 3 := Option.some.inj ((show Tryz.prog.funcNamed "loop.example/s02863/laws.FnExactBuildDoc" = some 3 by kernel_rfl).symm.trans hf) |>.symm
  obtain rfl : fn = Tryz.f3 := (Option.some.inj (Tryz.func3.symm.trans hfn)).symm
  refine ⟨by kernel_rfl, fun j t ht => ?_⟩
  rw [Tryz.params3] at ht
  have ht2 : t = 25 ∨ t = 3 := by simpa using Array.mem_of_getElem? ht
  rcases ht2 with rfl | rfl
  · exact (show Tryz.prog.wantsStandIn 25 = false by kernel_rfl)
  · exact (show Tryz.prog.wantsStandIn 3 = false by kernel_rfl)

theorem card : Rows.FnExactBuildDocCardSaid :=
  Claim7.holds_tied_plain_at .later [] _ _ _ _ said (fun _ h => by cases h) (by kernel_rfl) (fun _ h => by cases h) fnExactBuildDoc_row_tie rfl ⟨rfl, rfl⟩ (by kernel_rfl) rfl plain (by kernel_rfl)
end Go.Proofs.YtalkhnhhaiigiaaGreatDoor.fnExactBuildDoc
namespace Go.Proofs.YtalkhnhhaiigiaaGreatDoor
theorem fnExactBuildDoc_proved : Rows.FnExactBuildDocCardSaid := fnExactBuildDoc.card
end Go.Proofs.YtalkhnhhaiigiaaGreatDoor

