import Derived.Test.YtbiiopiaglkicaaDoorMBC
import Derived.Test.YtbiiopiaglkicaaDoorMBD
import Derived.Test.YtbiiopiaglkicaaDoorMBE
import Derived.Test.YtbiiopiaglkicaaDoorMBF
import Derived.Test.YtbiiopiaglkicaaDoorMBG
import Derived.Test.YtbiiopiaglkicaaDoorMBH
namespace Go.Proofs.YtbiiopiaglkicaaDoor
open Go.RowKit

/-- The items of the model and the tasks of the printer, all broken. -/
def Mt : List Item → List PT → Prop
  | [], [] => True
  | it :: its, t :: ts => (t.T = it.T ∧ t.n = it.n ∧ t.ind = it.ind ∧ t.fl = false ∧ t.bw = behind (its.map (·.T))) ∧ KOk it.T ∧ Mt its ts
  | _, _ => False

theorem brk_line {p : Pc} {ind : Int} (h : p.k = 2 ∨ p.k = 3 ∨ p.k = 4) : brk (.leaf p) ind false = (ind, true) := by
  simp only [brk]
  by_cases h23 : p.k = 2 ∨ p.k = 3
  · rw [if_pos h23]; rfl
  · rw [if_neg h23, if_pos (by omega)]
theorem brk_raw {p : Pc} {ind : Int} (h : p.k = 5) : brk (.leaf p) ind false = (0, true) := by
  simp only [brk]
  rw [if_neg (by omega), if_neg (by omega), if_pos h]
theorem brk_none {p : Pc} {ind : Int} (h : p.k = 0 ∨ p.k = 1) : brk (.leaf p) ind false = (0, false) := by
  simp only [brk]
  rw [if_neg (by omega), if_neg (by omega), if_neg (by omega)]

/-- The printer's choices by the width are the model's. -/
theorem pm_layout (width : Int) : ∀ (m : Nat) (its : List Item) (ts : List PT) (out met : List Int) (col : Int), szs (trs its) ≤ m → Mt its ts →
    layL width none its out met col = some (pmL (fun _ line => decide (line ≤ width)) ts out col met)
  | m, [], [], out, met, col, _, _ => by rw [layL_nil, pmL_nil]
  | m, ⟨.leaf p, n, ind⟩ :: its, ⟨T, n', ind', fl, bw, be⟩ :: ts, out, met, col, hm, h => by
    simp only [Mt] at h
    obtain ⟨⟨rfl, rfl, rfl, rfl, rfl⟩, hk, hM⟩ := h
    rw [trs_cons] at hm
    simp only [szs, sz] at hm
    cases m with
    | zero => omega
    | succ m =>
    have ih := fun o c => pm_layout width m its ts o met c (by omega) hM
    simp only [KOk] at hk
    rw [layL_leaf, pmL_leaf]
    by_cases h1 : p.k = 1
    · rw [if_pos h1, brk_none (.inr h1), if_neg (by simp), if_pos h1, ih]
    · rw [if_neg h1]
      by_cases h5 : p.k = 5
      · rw [if_pos h5, brk_raw h5, if_pos rfl, ih]
        simp
      · rw [if_neg h5]
        by_cases h234 : p.k = 2 ∨ p.k = 3 ∨ p.k = 4
        · rw [if_pos h234, brk_line h234, if_pos rfl, ih]
          simp [newLine]
        · rw [if_neg h234, brk_none (.inl (by omega)), if_neg (by simp), if_neg h1, if_neg (by omega), ih]
  | m, ⟨.un p x, n, ind⟩ :: its, ⟨T, n', ind', fl, bw, be⟩ :: ts, out, met, col, hm, h => by
    simp only [Mt] at h
    obtain ⟨⟨rfl, rfl, rfl, rfl, rfl⟩, hk, hM⟩ := h
    rw [trs_cons] at hm
    simp only [szs, sz] at hm
    cases m with
    | zero => omega
    | succ m =>
    simp only [KOk] at hk
    have ih1 := fun i o mm c => pm_layout width m (⟨x, n', i⟩ :: its) (⟨x, n', i, false, behind (its.map (·.T)), be⟩ :: ts) o mm c (by rw [trs_cons]; simp only [szs]; omega) ⟨⟨rfl, rfl, rfl, rfl, rfl⟩, hk.2, hM⟩
    have ih0 := fun o mm c => pm_layout width m its ts o mm c (by omega) hM
    have hfw := flat_w x hk.2
    rw [layL_un, pmL_un]
    rcases hk.1 with h7 | h8
    · rw [if_pos h7, if_pos h7]
      exact ih1 _ _ _ _
    · rw [if_neg (by omega), if_neg (by omega)]
      simp only [Bool.false_or]
      cases ex : flatT x [] with
      | none =>
        have hc : canR (flatW x) col (behind (its.map (·.T))) (fun line => decide (line ≤ width)) = false := by unfold canR; rw [if_pos (hfw.2 ex)]
        rw [hc]
        simp only [Bool.false_eq_true, if_false]
        exact ih1 _ _ _ _
      | some text =>
        have hw := hfw.1 text ex
        have hc : canR (flatW x) col (behind (its.map (·.T))) (fun line => decide (line ≤ width)) = decide (col + widthR text + behind (its.map (·.T)) ≤ width) := by
          unfold canR; rw [if_neg (by omega), hw.1]
        rw [hc]
        by_cases hle : col + widthR text + behind (its.map (·.T)) ≤ width
        · simp only [if_pos hle, decide_eq_true hle, if_true]
          rw [pm_flat _ x _ _ _ _ _ _ _ _ text hk.2 ex, ih0]
          simp only [markF, if_pos h8, hw.1]
        · simp only [if_neg hle, decide_eq_false hle, Bool.false_eq_true, if_false]
          exact ih1 _ _ _ _
  | m, ⟨.bin p x y, n, ind⟩ :: its, ⟨T, n', ind', fl, bw, be⟩ :: ts, out, met, col, hm, h => by
    simp only [Mt] at h
    obtain ⟨⟨rfl, rfl, rfl, rfl, rfl⟩, hk, hM⟩ := h
    rw [trs_cons] at hm
    simp only [szs, sz] at hm
    cases m with
    | zero => omega
    | succ m =>
    simp only [KOk] at hk
    rw [layL_bin, pmL_bin]
    rcases hk.1 with h6 | h9
    · rw [if_pos h6, if_pos h6]
      refine pm_layout width m _ _ _ _ _ (by rw [trs_cons, trs_cons]; simp only [szs]; omega) ⟨⟨rfl, rfl, rfl, rfl, ?_⟩, hk.2.1, ⟨rfl, rfl, rfl, rfl, rfl⟩, hk.2.2, hM⟩
      simp only [List.map_cons, behind]
    · rw [if_neg (by omega), if_neg (by omega)]
      simp only [Bool.false_eq_true, if_false]
      exact pm_layout width m _ _ _ _ _ (by rw [trs_cons]; simp only [szs]; omega) ⟨⟨rfl, rfl, rfl, rfl, rfl⟩, hk.2.1, hM⟩
  | _, [], _ :: _, _, _, _, _, h => h.elim
  | _, _ :: _, [], _, _, _, _, h => by cases h

end Go.Proofs.YtbiiopiaglkicaaDoor

namespace Go.Proofs.YtbiiopiaglkicaaDoor
open Go.RowKit

/-- What a valid document gives to the printer. -/
theorem doc_facts {doc : List Pc} {T : Tr} (hd : Doc doc) (h1 : specV doc = true) (h3 : bd doc [] = some [T]) (h5 : Seg doc (startsOf doc) T 0 doc.length) :
    okN T ∧ nestT T ≤ 4000 ∧ sz T ≤ 140000 ∧ KOk T ∧ grp doc doc.length = cntG T := by
  obtain ⟨f1, f2, f3⟩ := spec_facts h1 h3
  refine ⟨f1, f2, spec_sz doc h1 T h3, kok_seg f3 hd.bys h5, ?_⟩
  have := grp_seg h5
  rw [grp_zero] at this
  omega

theorem start_inv {B : Nat} {wm : World} {l : List Value} {u : Value} {T : Tr} (hn : NodeAt B wm l u T 0) (h1 : okN T) (h2 : nestT T ≤ 4000) (h3 : sz T ≤ 140000) (hc : cntV l = cntG T) :
    PInv B wm l (cntV l) [⟨u, T, 0, 0, false, 0, false⟩] [] 0 (List.replicate (cntV l) 0) := by
  have hs : szS [⟨u, T, 0, 0, false, 0, false⟩] = sz T := by simp [szS, szs]
  refine ⟨fun t ht => ?_, ⟨by simp [szS, szs], trivial⟩, by rw [hs]; exact h3, by simp, by rw [hs]; omega, by rw [hs]; omega, by rw [hs]; simp; omega⟩
  simp at ht
  subst ht
  exact ⟨hn, h1, by simp, by simpa using h2, by simp [hc]⟩

set_option maxHeartbeats 4000000 in
set_option maxRecDepth 100000 in
theorem implLayout_any (v : Value) (doc : List Pc) (width : Int) (w : World) (hv : RdP w.heap.size w v doc) (hd : Doc doc) (hT : Tab w) :
    Calls Tryd.prog 12 #[v, .int .i64 width] w fun e w' => LayoutEnds w (layoutR doc width) e w' := by
  have gA := World.grownBy_alloc w (.cells #[.int .i64 width] 3) none
  have HN := hide (nodesOf_any v doc (w.alloc (.cells #[.int .i64 width] 3)) ((hv.keep gA).wide gA.size) hd (hT.keep gA))
  obtain ⟨a, cap, hv0, _⟩ := id hv
  subst hv0
  have HGA := hide gA
  have HD := hide hd
  clear hv hT hd gA
  go_enter Tryd.func12, Tryd.ntmps12
  go_wp2_with fail
  refine HN.out.mono ?_
  intro e w1 hS
  obtain ⟨hbel, hor⟩ := nodesOf_says hS
  rcases hor with ⟨h1, hlen, T, u, nv, l, h3, h5, rfl, hll, hrow, hrep, hpost, honce⟩ | ⟨h1, rfl⟩
  · have hcb : w1.cell? ⟨w.heap.size, 0, none⟩ = some (.int .i64 width) := (hbel.cell (p := ⟨w.heap.size, 0, none⟩) (by simp)).trans (by simp [go_sem])
    have G1 := hide (grown_trans HGA.out (grown_of_below hbel))
    obtain ⟨na, ncap, hnv, hnc, hnm⟩ := row_form hrow
    have hlpos : ¬ l.length = 0 := by
      obtain ⟨l', e⟩ := hpost.last
      rw [e]; simp
    have hl0 : ((l.length : Int) == 0) = false := beq_false_of_ne (by omega)
    obtain ⟨f1, f2, f3, f4, f5⟩ := doc_facts HD.out h1 h3 h5
    have hcnt := post_cnt hrep hpost
    by_cases hw : 0 ≤ width ∧ width ≤ 65535
    · have HR : Hid (layoutR doc width = layL width none [⟨T, 0, 0⟩] [] (List.replicate (cntV l) 0) 0) := by
        unfold Hid layoutR; rw [if_pos ⟨h1, hw⟩, h3, f5, hcnt]
      have HPl := hide (pm_layout width (sz T) [⟨T, 0, 0⟩] [⟨T, 0, 0, false, 0, false⟩] [] (List.replicate (cntV l) 0) 0 (by simp [trs, szs]) ⟨⟨rfl, rfl, rfl, rfl, rfl⟩, f4, trivial⟩)
      have HNp := hide (fun cf cp => newPrinter_any _ nv u T l w1 hrow hrep hpost honce f3 (by omega) cf cp)
      have HF := hide (And.intro f1 (And.intro f2 f3))
      have HCn := hide hcnt
      have Hl := hide hll
      have Hlen := hide hlen
      obtain ⟨hw0, hw1⟩ := hw
      subst hnv
      clear hS hrow hrep hpost honce f1 f2 f3 f4 f5 hcnt h1 h3 h5 hbel HN hll hlen
      have hlp2 : (0 : Int) < (l.length : Int) := by omega
      go_wp2_with fail
      refine (HNp.out _ _).mono ?_
      rintro e w2 ⟨wm, fb, lb, nb, f0, f1, f2, wv, hv2, rfl, hC, hna, gwm, hP⟩
      have hcw : ∀ W, wm.grownBy W none → W.cell? ⟨w.heap.size, 0, none⟩ = some (.int .i64 width) := fun W hW => hW.cell (gwm.cell hcb (by simp)) (by simp)
      have hB : w.heap.size + 1 ≤ wm.heap.size := by
        have := gwm.size
        have := World.block_lt_of_cell? w1 _ hcb
        simp only at this
        omega
      have HPr := hide (print_any _ wm.heap.size wm w2 rfl (by simpa using hB) l fb lb nb f0 f1 f2 hC 42 (.pointer (some ⟨w.heap.size, 0, none⟩)) wv _ hv2 (cntV l) (by have := cntV_le l; have := Hl.out; have := Hlen.out; omega)
        (fun args W => enter_layout args W) (fun _ line => decide (line ≤ width)) (fun j line W _ hW => layoutFn_any w.heap.size width j line W (hcw W hW)) [⟨u, T, 0, 0, false, 0, false⟩] [] 0 (List.replicate (cntV l) 0) hP (start_inv hna HF.out.1 HF.out.2.1 HF.out.2.2 HCn.out))
      have GW := hide gwm
      clear hcw hP hC hna HNp gwm
      go_wp2_with fail
      refine HPr.out.mono ?_
      rintro e w3 ⟨rfl, wv3, tv3, col3, hP3⟩
      have hpm : pm (fun _ line => decide (line ≤ width)) (szS [⟨u, T, 0, 0, false, 0, false⟩] + 1) (List.map Tk.pt [⟨u, T, 0, 0, false, 0, false⟩]) [] 0 (List.replicate (cntV l) 0) = pmL (fun _ line => decide (line ≤ width)) [⟨T, 0, 0, false, 0, false⟩] [] 0 (List.replicate (cntV l) 0) := by
        unfold pmL
        rw [← szP_pt]
        rfl
      rw [hpm] at hP3
      obtain ⟨R, hR⟩ : ∃ R, R = pmL (fun _ line => decide (line ≤ width)) [⟨T, 0, 0, false, 0, false⟩] [] 0 (List.replicate (cntV l) 0) := ⟨_, rfl⟩
      rw [← hR] at hP3 HPl
      have c5 := hP3.c5
      have c7 := hP3.c7
      obtain ⟨ta, tcap, htf, _, _⟩ := row_form hP3.trow
      obtain ⟨ha, hcap2, hhf, _, _⟩ := row_form hP3.hrow
      have HE : Hid (∀ W, w3.grownBy W none → OwB w.heap.size W tv3 R.1 ∧ OwI w.heap.size W hv2 R.2 ∧ (∀ g, tv3.ownBlock = some g → hv2.ownBlock ≠ some g) ∧ w.grownBy W none) :=
        fun W hW => ⟨Ow.later (row_base (by omega) hP3.trow) hW, Ow.later (row_base (by omega) hP3.hrow) hW, hP3.dth, grown_trans (grown_trans (grown_trans G1.out GW.out) (grown_of_below hP3.bel)) hW⟩
      clear hpm hR hP3 HPr
      subst htf hhf
      go_wp2_with fail
      go_quiet (fail)
      go_wp2
      go_ret3
      rw [HR.out, HPl.out]
      exact ⟨_, _, rfl, HE.out _ (grown_drewN (World.grownBy.refl _ _) _)⟩
    · have HR : Hid (layoutR doc width = none) := by unfold Hid layoutR; rw [if_neg (fun h => hw h.2)]
      subst hnv
      clear hS hrow hrep hpost honce f1 f2 f3 f4 f5 hcnt h1 h3 h5 hbel HN hll hlen
      by_cases hw0 : width < 0
      · clear hw
        go_wp2
        go_ret3
        rw [HR.out]
        exact ⟨rfl, G1.out⟩
      · have hw2 : 65535 < width := by omega
        clear hw
        go_wp2
        go_ret3
        rw [HR.out]
        exact ⟨rfl, G1.out⟩
  · have HR : Hid (layoutR doc width = none) := by unfold Hid layoutR; rw [if_neg (fun h => by rw [h1] at h; cases h.1)]
    have G1 := hide (grown_trans HGA.out (grown_of_below hbel))
    clear hS hbel HN h1
    go_wp2
    go_ret3
    rw [HR.out]
    exact ⟨rfl, G1.out⟩

end Go.Proofs.YtbiiopiaglkicaaDoor

namespace Go.Proofs.YtbiiopiaglkicaaDoor
open Go.RowKit

set_option maxHeartbeats 2000000 in
set_option maxRecDepth 100000 in
theorem layout_law (v : Value) (width : Int) (doc : List Pc) (w : World) (hv : RdP w.heap.size w v doc) (hby : ∀ p ∈ doc, Bys p.t) (hT : Tab w) :
    Calls Tryd.prog 3 #[v, .int .i64 width] w fun e w' => e = .returned (.bool true) ∧ Below w.heap.size w w' := by
  obtain ⟨a, cap, hv0, _⟩ := id hv
  have hsz := szPieceS_any v doc 1048576 w hv (by omega) (by omega)
  by_cases h0 : szDoc doc 1048576 < 0
  · subst hv0
    generalize szDoc doc 1048576 = s at *
    clear hv hT
    go_enter Tryd.func3, Tryd.ntmps3
    go_wp2_with fail
    refine hsz.mono ?_
    rintro e w1 ⟨rfl, g1⟩
    go_wp2
    go_ret
    exact ⟨rfl, below_of_grown g1⟩
  · have hle := szDoc_le doc (by omega)
    have hsm := sum_mem doc
    have hd : Doc doc := by
      refine ⟨?_, ?_, ?_, hby⟩
      · by_cases hdz : doc = []
        · rw [hdz]; simp
        · obtain ⟨p, hp⟩ := List.exists_mem_of_ne_nil doc hdz
          have := hsm p hp; omega
      · intro p hp; have := hsm p hp; omega
      · omega
    have HD : Hid (Doc doc) := hd
    have HT : Hid (Tab w) := hT
    have hRM := layout_len doc width hd.len
    have hnot : ∀ (x : Bool) (w : World), (Op.unary .not (.bool x)).run Tryd.prog w = .ok (.bool (!x)) w := fun _ _ => rfl
    have hspec : Hid (∀ (v : Value) (w : World), RdP w.heap.size w v doc → Calls Tryd.prog 10 #[v, .int .i64 width] w fun e w' => ∃ ov mv, e = .returned (.tuple #[ov, mv, .int .i64 (lR (layoutR doc width)).2.2]) ∧ OwB w.heap.size w' ov (lR (layoutR doc width)).1 ∧ OwI w.heap.size w' mv (lR (layoutR doc width)).2.1 ∧ (∀ g, ov.ownBlock = some g → mv.ownBlock ≠ some g) ∧ w.grownBy w' none) := fun v w h => (specLayout_any v doc width w h hd).mono fun e w' h' => layout_flat h'
    have himpl : Hid (∀ (v : Value) (w : World), RdP w.heap.size w v doc → Tab w → Calls Tryd.prog 12 #[v, .int .i64 width] w fun e w' => ∃ ov mv, e = .returned (.tuple #[ov, mv, .int .i64 (lR (layoutR doc width)).2.2]) ∧ OwB w.heap.size w' ov (lR (layoutR doc width)).1 ∧ OwI w.heap.size w' mv (lR (layoutR doc width)).2.1 ∧ (∀ g, ov.ownBlock = some g → mv.ownBlock ≠ some g) ∧ w.grownBy w' none) := fun v w h ht => (implLayout_any v doc width w h hd ht).mono fun e w' h' => layout_flat h'
    generalize lR (layoutR doc width) = RMc at *
    obtain ⟨R, M, c⟩ := RMc
    simp only at hspec himpl hRM
    obtain ⟨hR0, hM0⟩ := hRM
    have hne : (c != c) = false := by simp
    have hmm : (((1 : Int) + (R.length : Int) + (M.length : Int)) != (1 + (R.length : Int) + (M.length : Int))) = false := by simp
    have HV : Hid (RdP w.heap.size w v doc) := hv
    subst hv0
    generalize szDoc doc 1048576 = s at *
    clear hT hsm hle hd hv
    go_enter Tryd.func3, Tryd.ntmps3
    go_wp2_with fail
    refine hsz.mono ?_
    rintro e w1 ⟨rfl, g1⟩
    have a1 := HV.out.keep g1
    have s1 := g1.size
    clear hsz
    go_wp2_with fail
    refine (toPieceS_any _ doc _ (a1.wide s1) HD.out.len HD.out.tlen).mono ?_
    rintro e w2 ⟨x2, rfl, o2, g2⟩
    have a2 := a1.keep g2
    have t2 := grown_trans g1 g2
    clear a1 g1 g2 s1
    go_wp2_with fail
    refine (hspec.out _ _ o2.rd).mono ?_
    rintro e w3 ⟨s3, sm3, rfl, p3, pm3, _, g3⟩
    have a3 := a2.keep g3
    have t3 := grown_trans t2 g3
    have ls := World.ownsRow.lt p3
    have lsm := World.ownsRow.lt pm3
    have b23 := g3.size
    clear a2 g3 t2 o2
    go_wp2_with fail
    refine (toPieceS_any _ doc _ (a3.wide t3.size) HD.out.len HD.out.tlen).mono ?_
    rintro e w4 ⟨x4, rfl, o4, g4⟩
    have a4 := a3.keep g4
    have p4 := p3.later g4
    have pm4 := Ow.later pm3 g4
    have t4 := grown_trans t3 g4
    have q4 := o4.high
    have b34 := g4.size
    have bw3 := t3.size
    clear a3 g4 p3 pm3
    go_wp2_with fail
    refine (himpl.out _ _ o4.rd (HT.out.keep t4)).mono ?_
    rintro e w5 ⟨y5, ym5, rfl, o5, om5, dd5, g5⟩
    have a5 := a4.keep g5
    have p5 := p4.later g5
    have pm5 := Ow.later pm4 g5
    have q5 := q4.later g5
    have t5 := grown_trans t4 g5
    have ly := World.ownsRow.lt o5
    have lym := World.ownsRow.lt om5
    have b45 := g5.size
    clear a4 g5 t4 o4 p4 pm4 q4
    go_wp2_with fail
    refine (eqByteS_same _ _ R _ o5.rd p5.rd (by omega)).mono ?_
    rintro e w6 ⟨rfl, g6⟩
    have a6 := a5.keep g6
    have p6' := p5.later g6
    have pm6' := pm5.later g6
    have q6' := q5.later g6
    have r6' := o5.later g6
    have rm6' := om5.later g6
    have t6' := grown_trans t5 g6
    have a6' := a6
    clear a5 g6 t5 o5 om5 p5 pm5 q5 a6
    go_wp2_with fail
    refine (eqIntS_same _ _ M _ rm6'.rd pm6'.rd (by omega)).mono ?_
    rintro e w6b ⟨rfl, g6b⟩
    have a6 := a6'.keep g6b
    have p6 := p6'.later g6b
    have pm6 := pm6'.later g6b
    have q6 := q6'.later g6b
    have r6 := r6'.later g6b
    have rm6 := rm6'.later g6b
    have t6 := grown_trans t6' g6b
    clear a6' p6' pm6' q6' r6' rm6' t6' g6b
    go_wp2_with fail
    refine (toPieceS_any _ doc _ (a6.wide t6.size) HD.out.len HD.out.tlen).mono ?_
    rintro e w7 ⟨x7, rfl, o7, g7⟩
    have a7 := a6.keep g7
    have p7 := p6.later g7
    have pm7 := pm6.later g7
    have q7 := q6.later g7
    have r7 := r6.later g7
    have rm7 := rm6.later g7
    have t7 := grown_trans t6 g7
    clear a6 g7 t6 p6 pm6 q6 r6 rm6
    go_wp2_with fail
    refine (eqPieceS_same _ _ doc _ q7.low.rd o7.rd HD.out.len HD.out.tlen).mono ?_
    rintro e w8 ⟨rfl, g8⟩
    have a8 := a7.keep g8
    have p8 := p7.later g8
    have pm8 := pm7.later g8
    have q8 := q7.later g8
    have r8 := r7.later g8
    have rm8 := rm7.later g8
    have t8 := grown_trans t7 g8
    clear a7 g8 t7 p7 pm7 q7 r7 rm7 o7
    go_wp2_with fail
    refine (markPieceS_any _ _ _ doc _ q8 HD.out.len HD.out.sum HD.out.tlen).mono ?_
    rintro e w9 ⟨k9, rfl, hk9, f9⟩
    have bl9 : Below w3.heap.size w8 w9 := f9.below (by have := World.ownsRow.lt r8; have := t8.size; have := (World.ownsRow.lt r8); have hh := q8.low.rd; obtain ⟨gq, tq, hvq, _, hoq, _⟩ := q8.low; have := World.ownsRow.lt hoq gq (by rw [hvq]; rfl); omega)
    have a9 := a8.belowB (bl9.mono bw3)
    have p9 : OwB w2.heap.size w9 s3 R := f9.row p8 (fun g hg => .inl (ls g hg).2)
    have r9 : OwB w4.heap.size w9 y5 R := f9.row r8 (fun g hg => .inr (ly g hg).1)
    have pm9 : OwI w2.heap.size w9 sm3 M := f9.row pm8 (fun g hg => .inl (lsm g hg).2)
    have rm9 : OwI w4.heap.size w9 ym5 M := f9.row rm8 (fun g hg => .inr (lym g hg).1)
    have t9 := (below_of_grown t8).trans (bl9.mono bw3)
    clear a8 t8 p8 pm8 q8 r8 rm8 f9 bl9
    go_wp2_with fail
    refine (eqByteS_same _ _ R _ r9.rd p9.rd (by omega)).mono ?_
    rintro e w10 ⟨rfl, g10⟩
    have a10' := a9.keep g10
    have p10' := p9.later g10
    have pm10' := pm9.later g10
    have r10' := r9.later g10
    have rm10' := rm9.later g10
    have t10' := t9.grown g10 t9.size (fun k e => by cases e)
    clear a9 g10 t9 p9 pm9 r9 rm9
    go_wp2_with fail
    refine (eqIntS_same _ _ M _ rm10'.rd pm10'.rd (by omega)).mono ?_
    rintro e w10b ⟨rfl, g10b⟩
    have a10 := a10'.keep g10b
    have p10 := p10'.later g10b
    have pm10 := pm10'.later g10b
    have r10 := r10'.later g10b
    have rm10 := rm10'.later g10b
    have t10 := t10'.grown g10b t10'.size (fun k e => by cases e)
    clear a10' p10' pm10' r10' rm10' t10' g10b
    go_wp2_with fail
    refine (markByteS_any _ _ R 1 _ r10 (by omega) (by omega) (by omega)).mono ?_
    rintro e w11 ⟨rfl, r11, g11⟩
    have a11' := a10.beside g11 (fun k hk => by have := ly k hk; omega)
    have p11' := p10.beside g11 (fun k hk j hj => by have := ls k hk; have := ly j hj; omega)
    have pm11' := pm10.beside g11 (fun k hk j hj => by have := lsm k hk; have := ly j hj; omega)
    have rm11' := rm10.beside g11 (fun k hk j hj e => by subst e; exact dd5 k hj hk)
    have t11' := t10.grown g11 t10.size (fun k hk => by have := ly k hk; omega)
    clear a10 p10 pm10 r10 rm10 t10 g11
    go_wp2_with fail
    refine (markIntS_any _ _ M (1 + R.length) _ rm11' (by omega) (by omega) (by omega)).mono ?_
    rintro e w11b ⟨rfl, rm11, g11b⟩
    have a11 := a11'.beside g11b (fun k hk => by have := lym k hk; omega)
    have p11 := p11'.beside g11b (fun k hk j hj => by have := ls k hk; have := lym j hj; omega)
    have pm11 := pm11'.beside g11b (fun k hk j hj => by have := lsm k hk; have := lym j hj; omega)
    have r11b := r11.beside g11b (fun k hk j hj e => by subst e; exact dd5 k hk hj)
    have t11 := t11'.grown g11b t11'.size (fun k hk => by have := lym k hk; omega)
    clear a11' p11' pm11' rm11' t11' g11b r11
    go_wp2_with fail
    refine (heldByteS_any _ R.length 1 _ r11b.rd (by omega) (by omega) (by omega)).mono ?_
    rintro e w12 ⟨rfl, rfl⟩
    go_wp2_with fail
    refine (heldIntS_any _ M.length (1 + R.length) _ rm11.rd (by omega) (by omega) (by omega)).mono ?_
    rintro e w12 ⟨rfl, rfl⟩
    go_wp2_with fail
    refine (toPieceS_any _ doc _ (a11.wide t11.size) HD.out.len HD.out.tlen).mono ?_
    rintro e w13 ⟨x13, rfl, o13, g13⟩
    have p13 := p11.later g13
    have pm13 := pm11.later g13
    have t13 := t11.grown g13 t11.size (fun k e => by cases e)
    clear a11 p11 pm11 t11 r11b rm11 g13
    go_wp2_with fail
    refine (himpl.out _ _ o13.rd (HT.out.below t13 HT.out.pos)).mono ?_
    rintro e w14 ⟨y14, ym14, rfl, o14, om14, _, g14⟩
    have p14 := p13.later g14
    have pm14 := pm13.later g14
    have t14 := t13.grown g14 t13.size (fun k e => by cases e)
    clear p13 pm13 t13 o13 g14
    go_wp2_with fail
    refine (eqByteS_same _ _ R _ o14.rd p14.rd (by omega)).mono ?_
    rintro e w15 ⟨rfl, g15⟩
    have t15' := t14.grown g15 t14.size (fun k e => by cases e)
    have pm15 := pm14.later g15
    have om15 := om14.later g15
    clear o14 om14 p14 pm14 t14 g15
    go_wp2_with fail
    refine (eqIntS_same _ _ M _ om15.rd pm15.rd (by omega)).mono ?_
    rintro e w16 ⟨rfl, g16⟩
    have t15 := t15'.grown g16 t15'.size (fun k e => by cases e)
    clear om15 pm15 t15' g16
    go_wp2
    go_ret
    exact ⟨rfl, t15⟩

end Go.Proofs.YtbiiopiaglkicaaDoor

