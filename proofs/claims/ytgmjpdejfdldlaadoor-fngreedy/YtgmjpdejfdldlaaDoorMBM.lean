import Derived.Test.YtgmjpdejfdldlaaDoorMAU
import Derived.Test.YtgmjpdejfdldlaaDoorMAZ
import Derived.Test.YtgmjpdejfdldlaaDoorMBB
import Derived.Test.YtgmjpdejfdldlaaDoorMBL
namespace Go.Proofs.YtgmjpdejfdldlaaDoor
open Go.RowKit

/-- The items of the model and the tasks of the printer, all broken. -/
def Mt : List Item → List PT → Prop
  | [], [] => True
  | it :: its, t :: ts => (t.T = it.T ∧ t.n = it.n ∧ t.ind = it.ind ∧ t.fl = false ∧ t.bw = behind (its.map (·.T))) ∧ KOk it.T ∧ Mt its ts
  | _, _ => False

theorem brk_line {p : Pc} {ind : Int} (h : p.k = 2 ∨ p.k = 3 ∨ p.k = 4) : brk (.leaf p) ind false = (ind, true) := by
  simp only [brk]
  by_cases h23 : p.k = 2 ∨ p.k = 3
  · rw [if_pos h23]; rfl
  · rw [if_neg h23, if_pos (by omega)]
theorem brk_raw {p : Pc} {ind : Int} (h : p.k = 5) : brk (.leaf p) ind false = (0, true) := by
  simp only [brk]
  rw [if_neg (by omega), if_neg (by omega), if_pos h]
theorem brk_none {p : Pc} {ind : Int} (h : p.k = 0 ∨ p.k = 1) : brk (.leaf p) ind false = (0, false) := by
  simp only [brk]
  rw [if_neg (by omega), if_neg (by omega), if_neg (by omega)]

/-- The printer's choices by the width are the model's. -/
theorem pm_layout (width : Int) : ∀ (m : Nat) (its : List Item) (ts : List PT) (out met : List Int) (col : Int), szs (trs its) ≤ m → Mt its ts →
    layL width none its out met col = some (pmL (fun _ line => decide (line ≤ width)) ts out col met)
  | m, [], [], out, met, col, _, _ => by rw [layL_nil, pmL_nil]
  | m, ⟨.leaf p, n, ind⟩ :: its, ⟨T, n', ind', fl, bw, be⟩ :: ts, out, met, col, hm, h => by
    simp only [Mt] at h
    obtain ⟨⟨rfl, rfl, rfl, rfl, rfl⟩, hk, hM⟩ := h
    rw [trs_cons] at hm
    simp only [szs, sz] at hm
    cases m with
    | zero => omega
    | succ m =>
    have ih := fun o c => pm_layout width m its ts o met c (by omega) hM
    simp only [KOk] at hk
    rw [layL_leaf, pmL_leaf]
    by_cases h1 : p.k = 1
    · rw [if_pos h1, brk_none (.inr h1), if_neg (by simp), if_pos h1, ih]
    · rw [if_neg h1]
      by_cases h5 : p.k = 5
      · rw [if_pos h5, brk_raw h5, if_pos rfl, ih]
        simp
      · rw [if_neg h5]
        by_cases h234 : p.k = 2 ∨ p.k = 3 ∨ p.k = 4
        · rw [if_pos h234, brk_line h234, if_pos rfl, ih]
          simp [newLine]
        · rw [if_neg h234, brk_none (.inl (by omega)), if_neg (by simp), if_neg h1, if_neg (by omega), ih]
  | m, ⟨.un p x, n, ind⟩ :: its, ⟨T, n', ind', fl, bw, be⟩ :: ts, out, met, col, hm, h => by
    simp only [Mt] at h
    obtain ⟨⟨rfl, rfl, rfl, rfl, rfl⟩, hk, hM⟩ := h
    rw [trs_cons] at hm
    simp only [szs, sz] at hm
    cases m with
    | zero => omega
    | succ m =>
    simp only [KOk] at hk
    have ih1 := fun i o mm c => pm_layout width m (⟨x, n', i⟩ :: its) (⟨x, n', i, false, behind (its.map (·.T)), be⟩ :: ts) o mm c (by rw [trs_cons]; simp only [szs]; omega) ⟨⟨rfl, rfl, rfl, rfl, rfl⟩, hk.2, hM⟩
    have ih0 := fun o mm c => pm_layout width m its ts o mm c (by omega) hM
    have hfw := flat_w x hk.2
    rw [layL_un, pmL_un]
    rcases hk.1 with h7 | h8
    · rw [if_pos h7, if_pos h7]
      exact ih1 _ _ _ _
    · rw [if_neg (by omega), if_neg (by omega)]
      simp only [Bool.false_or]
      cases ex : flatT x [] with
      | none =>
        have hc : canR (flatW x) col (behind (its.map (·.T))) (fun line => decide (line ≤ width)) = false := by unfold canR; rw [if_pos (hfw.2 ex)]
        rw [hc]
        simp only [Bool.false_eq_true, if_false]
        exact ih1 _ _ _ _
      | some text =>
        have hw := hfw.1 text ex
        have hc : canR (flatW x) col (behind (its.map (·.T))) (fun line => decide (line ≤ width)) = decide (col + widthR text + behind (its.map (·.T)) ≤ width) := by
          unfold canR; rw [if_neg (by omega), hw.1]
        rw [hc]
        by_cases hle : col + widthR text + behind (its.map (·.T)) ≤ width
        · simp only [if_pos hle, decide_eq_true hle, if_true]
          rw [pm_flat _ x _ _ _ _ _ _ _ _ text hk.2 ex, ih0]
          simp only [markF, if_pos h8, hw.1]
        · simp only [if_neg hle, decide_eq_false hle, Bool.false_eq_true, if_false]
          exact ih1 _ _ _ _
  | m, ⟨.bin p x y, n, ind⟩ :: its, ⟨T, n', ind', fl, bw, be⟩ :: ts, out, met, col, hm, h => by
    simp only [Mt] at h
    obtain ⟨⟨rfl, rfl, rfl, rfl, rfl⟩, hk, hM⟩ := h
    rw [trs_cons] at hm
    simp only [szs, sz] at hm
    cases m with
    | zero => omega
    | succ m =>
    simp only [KOk] at hk
    rw [layL_bin, pmL_bin]
    rcases hk.1 with h6 | h9
    · rw [if_pos h6, if_pos h6]
      refine pm_layout width m _ _ _ _ _ (by rw [trs_cons, trs_cons]; simp only [szs]; omega) ⟨⟨rfl, rfl, rfl, rfl, ?_⟩, hk.2.1, ⟨rfl, rfl, rfl, rfl, rfl⟩, hk.2.2, hM⟩
      simp only [List.map_cons, behind]
    · rw [if_neg (by omega), if_neg (by omega)]
      simp only [Bool.false_eq_true, if_false]
      exact pm_layout width m _ _ _ _ _ (by rw [trs_cons]; simp only [szs]; omega) ⟨⟨rfl, rfl, rfl, rfl, rfl⟩, hk.2.1, hM⟩
  | _, [], _ :: _, _, _, _, _, h => h.elim
  | _, _ :: _, [], _, _, _, _, h => by cases h

end Go.Proofs.YtgmjpdejfdldlaaDoor

namespace Go.Proofs.YtgmjpdejfdldlaaDoor
open Go.RowKit

theorem NTab.later {B : Nat} {w wm : World} {l : List Value} {f : Value → Option Value} {F : Tr → Value} (hF : ∀ T T', Sim T T' → F T = F T') {u : Value} {T : Tr} (hr : Rep (fun _ => False) B w u T) (hp : Post w u T l) (h : NTab B w l f F) (hg : w.grownBy wm none) : NTab B wm l f F := by
  intro v hv T1 hT1
  obtain ⟨i, hi⟩ := List.mem_iff_getElem?.1 hv
  obtain ⟨T', _, hr', _⟩ := post_elem hr hp i v hi
  rw [h v hv T' hr', hF T' T1 (rep_sim (hr'.keep hg) hT1)]

set_option maxHeartbeats 2000000 in
set_option maxRecDepth 100000 in
theorem newPrinter_any (B : Nat) (nv u0 : Value) (T0 : Tr) (l : List Value) (w : World) (hrow : w.ownsRow B 70 1 nv l.length l) (hr : Rep (fun _ => False) B w u0 T0) (hp : Post w u0 T0 l) (ho : Once (fun _ => False) w l) (hsz : sz T0 ≤ 140000) (hl : l.length ≤ 40000) (cf : Nat) (cap : Value) :
    Calls Tryd.prog 21 #[nv, .func (.func cf) #[] #[cap]] w fun e w' => ∃ wm fb lb nb f0 f1 f2 wv hv, e = .returned (.pointer (some ⟨wm.heap.size, 0, none⟩)) ∧ Ctx B wm l fb lb nb f0 f1 f2 ∧ NodeAt B wm l u0 T0 0 ∧ w.grownBy wm none ∧
      Pr wm.heap.size wm w' (.map (some fb)) (.map (some lb)) (.map (some nb)) (.func (.func cf) #[] #[cap]) wv (.slice none 0 0) hv [⟨u0, T0, 0, 0, false, 0, false⟩] [] 0 (List.replicate (cntV l) 0) := by
  have hW := flatWidths_any B nv u0 T0 l w hrow hr hp ho hsz
  obtain ⟨a, ncap, hnv, hnc, hnm⟩ := row_form hrow
  have HR := hidN hrow
  have HRp := hidN hr
  have HPo := hidN hp
  have HOn := hidN ho
  subst hnv
  clear hrow hr hp ho
  go_enter Tryd.func21, Tryd.ntmps21
  go_wp2_with fail
  refine hW.mono ?_
  rintro e w1 ⟨f0, n0, rfl, hM0, hT0, g1⟩
  have hk1 : ∀ {W W' : World}, W.grownBy W' none → ∀ b, b < W.heap.size → ¬ False → W'.heap[b]? = W.heap[b]? := fun h b hb _ => h.block b hb (by simp)
  have hL := leadsOf_any B _ u0 T0 l w1 (row_keep HR.out g1 (by simp)) (HRp.out.keep g1) (HPo.out.keep HRp.out g1) (HOn.out.turn (hk1 g1) (fun _ _ h => h)) hsz
  clear hW
  go_wp2_with fail
  refine hL.mono ?_
  rintro e w2 ⟨f1, n1, rfl, hM1, hT1, g2⟩
  have g12 := grown_trans g1 g2
  have hG := groupNumbers_any B _ u0 T0 l w2 (row_keep HR.out g12 (by simp)) (HRp.out.keep g12) (HPo.out.keep HRp.out g12) (HOn.out.turn (hk1 g12) (fun _ _ h => h))
  clear hL
  go_wp2_with fail
  refine hG.mono ?_
  rintro e w3 ⟨f2, rfl, hM2, hT2, g3⟩
  have g123 := grown_trans g12 g3
  have hctx : Ctx B w3 l w.heap.size w1.heap.size w2.heap.size f0 f1 f2 :=
    ⟨HOn.out.turn (hk1 g123) (fun _ _ h => h), ⟨n0, hM0.keep (grown_trans g2 g3)⟩, ⟨n1, hM1.keep g3⟩, hM2, NTab.later fwV_sim HRp.out HPo.out hT0 g123, NTab.later ldV_sim (HRp.out.keep g1) (HPo.out.keep HRp.out g1) hT1 (grown_trans g2 g3), hT2⟩
  have HCtx := hidN hctx
  have HNode : Hid (NodeAt B w3 l u0 T0 0) := ⟨[], l, [], by simp, HPo.out.keep HRp.out g123, HRp.out.keep g123, rfl⟩
  have HG3 := hidN g123
  obtain ⟨i0, hi, hz0, hz1, hz2⟩ := info_parts info3
  have hcl := cntV_le l
  have hlen := (hM2.keep (World.grownBy_alloc w3 (.cells #[.map (some w.heap.size), .map (some w1.heap.size), .map (some w2.heap.size), .func (.func cf) #[] #[cap], .slice none 0 0, .slice none 0 0, .int .i64 0, .slice none 0 0] 66) none)).run_len Tryd.underlying61 3
  clear hG hM0 hM1 hM2 hT0 hT1 hT2 hctx hk1
  generalize hcn : cntV l = cn at *
  have HCn := hidN hcn
  clear hcn
  go_wp2_with (at_make; refine wpList_make_full _ rfl _ _ 26 rfl (w3.heap.size + 1) 3 i0 (.int .i64 0) 1 Tryd.underlying26 hi hz0 hz1 _ _ _ _ cn rfl rfl (by omega) (by omega) ?b2 ?b3 (by simp) ?_)
  case b2 => rw [hz2]; omega
  case b3 => unfold maxLen; omega
  intro w4 hown4 hgrow4
  have hs4 := hgrow4.size
  simp only [World.size_alloc] at hs4
  have x0 := hgrow4.cell (a := ⟨w3.heap.size, 0, none⟩) (v := .map (some w.heap.size)) (by simp [go_sem]) (by simp)
  have x1 := hgrow4.cell (a := ⟨w3.heap.size, 1, none⟩) (v := .map (some w1.heap.size)) (by simp [go_sem]) (by simp)
  have x2 := hgrow4.cell (a := ⟨w3.heap.size, 2, none⟩) (v := .map (some w2.heap.size)) (by simp [go_sem]) (by simp)
  have x3 := hgrow4.cell (a := ⟨w3.heap.size, 3, none⟩) (v := .func (.func cf) #[] #[cap]) (by simp [go_sem]) (by simp)
  have x4 := hgrow4.cell (a := ⟨w3.heap.size, 4, none⟩) (v := .slice none 0 0) (by simp [go_sem]) (by simp)
  have x5 := hgrow4.cell (a := ⟨w3.heap.size, 5, none⟩) (v := .slice none 0 0) (by simp [go_sem]) (by simp)
  have x6 := hgrow4.cell (a := ⟨w3.heap.size, 6, none⟩) (v := .int .i64 0) (by simp [go_sem]) (by simp)
  have x7 := hgrow4.cell (a := ⟨w3.heap.size, 7, none⟩) (v := .slice none 0 0) (by simp [go_sem]) (by simp)
  have hfz : ∀ j, w4.frozen? ⟨w3.heap.size, j, none⟩ = false := fun j => (World.frozen?_of_block (hgrow4.block w3.heap.size (by simp) (by simp))).trans (by simp [go_sem])
  have z7 := hfz 7
  have hbel : Below w3.heap.size w3 w4 := ((Below.refl _ w3).alloc (Nat.le_refl _) _).grown hgrow4 (by simp) (fun k e => by cases e)
  have hrow4 : OwI (w3.heap.size + 1) w4 (.slice (some ⟨w3.heap.size + 1, 0, none⟩) cn cn) (List.replicate cn 0) := by
    unfold OwI Ow
    rw [List.length_replicate]
    simpa [toList_madeCells_one, Value.cells] using hown4
  have hP5 : Pr w3.heap.size w3 (w4.setCell ⟨w3.heap.size, 7, none⟩ (.slice (some ⟨w3.heap.size + 1, 0, none⟩) cn cn)) (.map (some w.heap.size)) (.map (some w1.heap.size)) (.map (some w2.heap.size)) (.func (.func cf) #[] #[cap]) (.slice none 0 0) (.slice none 0 0) (.slice (some ⟨w3.heap.size + 1, 0, none⟩) cn cn) [] [] 0 (List.replicate cn 0) :=
    ⟨hbel.setCell (p := ⟨w3.heap.size, 7, none⟩) (Nat.le_refl _) _, by simp [go_sem, x0], by simp [go_sem, x1], by simp [go_sem, x2], by simp [go_sem, x3], by simp [go_sem, x4], by simp [go_sem, x5], by simp [go_sem, x6], by simp [go_sem, x7], fun j => by simpa using hfz j,
      World.ownsRow_nil _ _ _ _, World.ownsRow_nil _ _ _ _, row_set hrow4 _ _ (by simp [Value.ownBlock]), (fun g h => by simp [Value.ownBlock] at h), (fun g h => by simp [Value.ownBlock] at h), (fun g h => by simp [Value.ownBlock] at h)⟩
  have HP5 := hidN hP5
  obtain ⟨l', hl'⟩ := HPo.out.last
  obtain ⟨tu, yu, hform⟩ := HRp.out.form
  have hll : l.length = l'.length + 1 := by rw [hl']; simp
  rcases HR.out.2 with ⟨_, h0⟩ | ⟨g, cp, cur, hrg, hbg, hgg, hnc', hcm, hcs, htk⟩
  · omega
  cases hrg
  have hglt := (Array.getElem?_eq_some_iff.1 hgg).1
  have m0 := World.ownsRow.cellAt HR.out l'.length (by omega)
  rw [hl', List.getElem?_append_right (Nat.le_refl _)] at m0
  simp only [Nat.sub_self, List.getElem?_cons_zero, hform] at m0
  have m4 : w4.cell? ⟨g, l'.length, none⟩ = some (.iface tu yu) := (hbel.cell (p := ⟨g, l'.length, none⟩) (by have := HG3.out.size; simp only; omega)).trans (HG3.out.cell m0 (by simp))
  have hgne : ¬ g = w3.heap.size := by have := HG3.out.size; omega
  have HLl := hidN hll
  have HForm := hidN hform
  generalize l.length = ll at *
  clear hP5 hbel hrow4 hown4 hgrow4 hgg hcs htk hl' m0 hlen hform g1 g2 g3 g12 g123 hfz
  subst hll
  have hwl1 : IntKind.i64.wrap (l'.length : Int) = (l'.length : Int) := by simp [IntKind.wrap, IntKind.bits, IntKind.signed]; omega
  go_wp2_with fail
  go_region_with (go_at_call 46; refine (pushT_any _ w3 _ _ _ _ _ _ _ _ _ _ _ _ (HP5.out.keep (grown_drew (World.grownBy.refl _ _))) ⟨.iface tu yu, T0, 0, 0, false, 0, false⟩ ⟨_, _, rfl⟩ (by simp)).mono ?_; rintro e w6 ⟨rfl, ⟨wv6, hP6, _⟩, _, _⟩)
  all_goals
    go_wp2
    go_ret
    exact ⟨w3, w.heap.size, w1.heap.size, w2.heap.size, f0, f1, f2, wv6, _, rfl, HCtx.out, HNode.out, HG3.out, by rw [HCn.out, HForm.out]; exact hP6⟩

end Go.Proofs.YtgmjpdejfdldlaaDoor

namespace Go.Proofs.YtgmjpdejfdldlaaDoor
open Go.RowKit

/-- Without given choices the layout never fails. -/
theorem lay_some (width : Int) : ∀ (f : Nat) (its : List Item) (out met : List Int) (col : Int), szs (trs its) < f → ∃ r, lay width none f its out met col = some r
  | 0, _, _, _, _, h => by omega
  | f + 1, [], out, met, col, _ => ⟨(out, met), by simp only [lay]⟩
  | f + 1, ⟨.leaf p, n, ind⟩ :: rest, out, met, col, h => by
    simp only [trs_cons, szs, sz] at h
    have hr : ∀ o m c, ∃ r, lay width none f rest o m c = some r := fun o m c => lay_some width f rest o m c (by omega)
    simp only [lay]
    split
    · exact hr _ _ _
    · split
      · exact hr _ _ _
      · split
        · exact hr _ _ _
        · exact hr _ _ _
  | f + 1, ⟨.bin p x y, n, ind⟩ :: rest, out, met, col, h => by
    simp only [trs_cons, szs, sz] at h
    simp only [lay]
    split
    · exact lay_some width f _ _ _ _ (by simp only [trs_cons, szs]; omega)
    · exact lay_some width f _ _ _ _ (by simp only [trs_cons, szs]; omega)
  | f + 1, ⟨.un p x, n, ind⟩ :: rest, out, met, col, h => by
    simp only [trs_cons, szs, sz] at h
    simp only [lay]
    split
    · exact lay_some width f _ _ _ _ (by simp only [trs_cons, szs]; omega)
    · cases flatT x [] with
      | none => exact lay_some width f _ _ _ _ (by simp only [trs_cons, szs]; omega)
      | some text =>
        simp only
        split
        · exact lay_some width f _ _ _ _ (by omega)
        · exact lay_some width f _ _ _ _ (by simp only [trs_cons, szs]; omega)

theorem spec_facts {doc : List Pc} {T : Tr} (h : specV doc = true) (hT : bd doc [] = some [T]) : okN T ∧ nestT T ≤ 4000 ∧ ∀ p ∈ doc, pcOK p = true := by
  have h0 := h
  simp only [specV, Bool.and_eq_true, hT, decide_eq_true_eq] at h0
  have hall := h0.1.1.1.2
  have hok := bd_okN doc [] [T] hall (by intro x hx; cases hx) hT T (by simp)
  refine ⟨hok, ?_, fun p hp => List.all_eq_true.1 hall p hp⟩
  rcases nestS_T T hok with ⟨h1, _⟩ | ⟨_, h2⟩
  · exact h1
  · have := h0.2; omega

/-- The layout of a document at a width, if both are valid. -/
def layoutR (doc : List Pc) (width : Int) : Option (List Int × List Int) :=
  if specV doc = true ∧ 0 ≤ width ∧ width ≤ 65535 then (match bd doc [] with | some [T] => layL width none [⟨T, 0, 0⟩] [] (List.replicate (grp doc doc.length) 0) 0 | _ => none) else none

def LayoutEnds (w : World) (r : Option (List Int × List Int)) (e : Ending) (w' : World) : Prop :=
  match r with
  | some (out, met) => ∃ ov mv, e = .returned (.tuple #[ov, mv, .int .i64 0]) ∧ OwB w.heap.size w' ov out ∧ OwI w.heap.size w' mv met ∧ (∀ g, ov.ownBlock = some g → mv.ownBlock ≠ some g) ∧ w.grownBy w' none
  | none => e = .returned (.tuple #[.slice none 0 0, .slice none 0 0, .int .i64 1]) ∧ w.grownBy w' none

set_option maxHeartbeats 1000000 in
set_option maxRecDepth 100000 in
theorem specLayout_any (v : Value) (doc : List Pc) (width : Int) (w : World) (hv : RdP w.heap.size w v doc) (hd : Doc doc) :
    Calls Tryd.prog 5 #[v, .int .i64 width] w fun e w' => LayoutEnds w (layoutR doc width) e w' := by
  have hV := specValid_any v doc w hv hd
  obtain ⟨a, cap, hv0, _⟩ := id hv
  rcases valid_eq doc with ⟨h1, _, T, n, h3, _, h5⟩ | ⟨h1, _⟩
  · obtain ⟨f1, f2, f3⟩ := spec_facts h1 h3
    have hsz := spec_sz doc h1 T h3
    by_cases hw : 0 ≤ width ∧ width ≤ 65535
    · have HF : Hid (layoutR doc width = layL width none [⟨T, 0, 0⟩] [] (List.replicate (grp doc doc.length) 0) 0) := by unfold Hid layoutR; rw [if_pos ⟨h1, hw⟩, h3]
      obtain ⟨r, hr⟩ := lay_some width (szs (trs [⟨T, 0, 0⟩]) + 1) [⟨T, 0, 0⟩] [] (List.replicate (grp doc doc.length) 0) 0 (by omega)
      obtain ⟨out, met⟩ := r
      have HR : Hid (layL width none [⟨T, 0, 0⟩] [] (List.replicate (grp doc doc.length) 0) 0 = some (out, met)) := hr
      have HL : Hid (∀ w1, RdP w1.heap.size w1 v doc → Calls Tryd.prog 19 #[v, .int .i64 width, .bool false, .slice none 0 0] w1 fun e w' => LayEnds w1 (layL width none [⟨T, 0, 0⟩] [] (List.replicate (grp doc doc.length) 0) 0) e w') :=
        fun w1 h => l3lay_any v (.slice none 0 0) doc hd f3 width false none T w1 h h5 (.inl ⟨rfl, rfl⟩) f1 f2 hsz
      obtain ⟨hw0, hw1⟩ := hw
      rw [h1] at hV
      have HV := hide hv
      clear h1 h3 h5 f1 f2 f3 hsz hr hv
      subst hv0
      go_enter Tryd.func5, Tryd.ntmps5
      go_wp2_with fail
      refine hV.mono ?_
      rintro e w1 ⟨rfl, g1⟩
      have hl := HL.out w1 ((HV.out.keep g1).wide g1.size)
      rw [HR.out] at hl
      clear hV HL
      go_wp2_with fail
      refine hl.mono ?_
      rintro e w2 ⟨ov, mv, rfl, ho, hm, hap, g2⟩
      obtain ⟨oa, ocap, hof, _, _⟩ := row_form ho
      obtain ⟨ma, mcap, hmf, _, _⟩ := row_form hm
      have HE : Hid (OwB w.heap.size w2 ov out ∧ OwI w.heap.size w2 mv met ∧ (∀ g, ov.ownBlock = some g → mv.ownBlock ≠ some g) ∧ w.grownBy w2 none) := ⟨row_base g1.size ho, row_base g1.size hm, hap, grown_trans g1 g2⟩
      clear hl ho hm hap
      subst hof hmf
      go_wp2
      go_ret3
      rw [HF.out, HR.out]
      exact ⟨_, _, rfl, HE.out⟩
    · have HF : Hid (layoutR doc width = none) := by unfold Hid layoutR; rw [if_neg (fun h => hw h.2)]
      rw [h1] at hV
      clear h1 h3 h5 f1 f2 f3 hsz hv
      subst hv0
      by_cases hw0 : width < 0
      · clear hw
        go_enter Tryd.func5, Tryd.ntmps5
        go_wp2_with fail
        refine hV.mono ?_
        rintro e w1 ⟨rfl, g1⟩
        go_wp2
        go_ret3
        rw [HF.out]
        exact ⟨rfl, g1⟩
      · have hw1 : 65535 < width := by omega
        clear hw
        go_enter Tryd.func5, Tryd.ntmps5
        go_wp2_with fail
        refine hV.mono ?_
        rintro e w1 ⟨rfl, g1⟩
        go_wp2
        go_ret3
        rw [HF.out]
        exact ⟨rfl, g1⟩
  · have HF : Hid (layoutR doc width = none) := by unfold Hid layoutR; rw [if_neg (fun h => by rw [h1] at h; cases h.1)]
    rw [h1] at hV
    clear h1 hv
    subst hv0
    go_enter Tryd.func5, Tryd.ntmps5
    go_wp2_with fail
    refine hV.mono ?_
    rintro e w1 ⟨rfl, g1⟩
    go_wp2
    go_ret3
    rw [HF.out]
    exact ⟨rfl, g1⟩

end Go.Proofs.YtgmjpdejfdldlaaDoor

namespace Go.Proofs.YtgmjpdejfdldlaaDoor
open Go.RowKit

/-- What a valid document gives to the printer. -/
theorem doc_facts {doc : List Pc} {T : Tr} (hd : Doc doc) (h1 : specV doc = true) (h3 : bd doc [] = some [T]) (h5 : Seg doc (startsOf doc) T 0 doc.length) :
    okN T ∧ nestT T ≤ 4000 ∧ sz T ≤ 140000 ∧ KOk T ∧ grp doc doc.length = cntG T := by
  obtain ⟨f1, f2, f3⟩ := spec_facts h1 h3
  refine ⟨f1, f2, spec_sz doc h1 T h3, kok_seg f3 hd.bys h5, ?_⟩
  have := grp_seg h5
  rw [grp_zero] at this
  omega

theorem start_inv {B : Nat} {wm : World} {l : List Value} {u : Value} {T : Tr} (hn : NodeAt B wm l u T 0) (h1 : okN T) (h2 : nestT T ≤ 4000) (h3 : sz T ≤ 140000) (hc : cntV l = cntG T) :
    PInv B wm l (cntV l) [⟨u, T, 0, 0, false, 0, false⟩] [] 0 (List.replicate (cntV l) 0) := by
  have hs : szS [⟨u, T, 0, 0, false, 0, false⟩] = sz T := by simp [szS, szs]
  refine ⟨fun t ht => ?_, ⟨by simp [szS, szs], trivial⟩, by rw [hs]; exact h3, by simp, by rw [hs]; omega, by rw [hs]; omega, by rw [hs]; simp; omega⟩
  simp at ht
  subst ht
  exact ⟨hn, h1, by simp, by simpa using h2, by simp [hc]⟩

set_option maxHeartbeats 4000000 in
set_option maxRecDepth 100000 in
theorem implLayout_any (v : Value) (doc : List Pc) (width : Int) (w : World) (hv : RdP w.heap.size w v doc) (hd : Doc doc) (hT : Tab w) :
    Calls Tryd.prog 7 #[v, .int .i64 width] w fun e w' => LayoutEnds w (layoutR doc width) e w' := by
  have gA := World.grownBy_alloc w (.cells #[.int .i64 width] 3) none
  have HN := hide (nodesOf_any v doc (w.alloc (.cells #[.int .i64 width] 3)) ((hv.keep gA).wide gA.size) hd (hT.keep gA))
  obtain ⟨a, cap, hv0, _⟩ := id hv
  subst hv0
  have HGA := hide gA
  have HD := hide hd
  clear hv hT hd gA
  go_enter Tryd.func7, Tryd.ntmps7
  go_wp2_with fail
  refine HN.out.mono ?_
  intro e w1 hS
  obtain ⟨hbel, hor⟩ := nodesOf_says hS
  rcases hor with ⟨h1, hlen, T, u, nv, l, h3, h5, rfl, hll, hrow, hrep, hpost, honce⟩ | ⟨h1, rfl⟩
  · have hcb : w1.cell? ⟨w.heap.size, 0, none⟩ = some (.int .i64 width) := (hbel.cell (p := ⟨w.heap.size, 0, none⟩) (by simp)).trans (by simp [go_sem])
    have G1 := hide (grown_trans HGA.out (grown_of_below hbel))
    obtain ⟨na, ncap, hnv, hnc, hnm⟩ := row_form hrow
    have hlpos : ¬ l.length = 0 := by
      obtain ⟨l', e⟩ := hpost.last
      rw [e]; simp
    have hl0 : ((l.length : Int) == 0) = false := beq_false_of_ne (by omega)
    obtain ⟨f1, f2, f3, f4, f5⟩ := doc_facts HD.out h1 h3 h5
    have hcnt := post_cnt hrep hpost
    by_cases hw : 0 ≤ width ∧ width ≤ 65535
    · have HR : Hid (layoutR doc width = layL width none [⟨T, 0, 0⟩] [] (List.replicate (cntV l) 0) 0) := by
        unfold Hid layoutR; rw [if_pos ⟨h1, hw⟩, h3, f5, hcnt]
      have HPl := hide (pm_layout width (sz T) [⟨T, 0, 0⟩] [⟨T, 0, 0, false, 0, false⟩] [] (List.replicate (cntV l) 0) 0 (by simp [trs, szs]) ⟨⟨rfl, rfl, rfl, rfl, rfl⟩, f4, trivial⟩)
      have HNp := hide (fun cf cp => newPrinter_any _ nv u T l w1 hrow hrep hpost honce f3 (by omega) cf cp)
      have HF := hide (And.intro f1 (And.intro f2 f3))
      have HCn := hide hcnt
      have Hl := hide hll
      have Hlen := hide hlen
      obtain ⟨hw0, hw1⟩ := hw
      subst hnv
      clear hS hrow hrep hpost honce f1 f2 f3 f4 f5 hcnt h1 h3 h5 hbel HN hll hlen
      have hlp2 : (0 : Int) < (l.length : Int) := by omega
      go_wp2_with fail
      refine (HNp.out _ _).mono ?_
      rintro e w2 ⟨wm, fb, lb, nb, f0, f1, f2, wv, hv2, rfl, hC, hna, gwm, hP⟩
      have hcw : ∀ W, wm.grownBy W none → W.cell? ⟨w.heap.size, 0, none⟩ = some (.int .i64 width) := fun W hW => hW.cell (gwm.cell hcb (by simp)) (by simp)
      have hB : w.heap.size + 1 ≤ wm.heap.size := by
        have := gwm.size
        have := World.block_lt_of_cell? w1 _ hcb
        simp only at this
        omega
      have HPr := hide (print_any _ wm.heap.size wm w2 rfl (by simpa using hB) l fb lb nb f0 f1 f2 hC 22 (.pointer (some ⟨w.heap.size, 0, none⟩)) wv _ hv2 (cntV l) (by have := cntV_le l; have := Hl.out; have := Hlen.out; omega)
        (fun args W => enter_layout args W) (fun _ line => decide (line ≤ width)) (fun j line W _ hW => layoutFn_any w.heap.size width j line W (hcw W hW)) [⟨u, T, 0, 0, false, 0, false⟩] [] 0 (List.replicate (cntV l) 0) hP (start_inv hna HF.out.1 HF.out.2.1 HF.out.2.2 HCn.out))
      have GW := hide gwm
      clear hcw hP hC hna HNp gwm
      go_wp2_with fail
      refine HPr.out.mono ?_
      rintro e w3 ⟨rfl, wv3, tv3, col3, hP3⟩
      have hpm : pm (fun _ line => decide (line ≤ width)) (szS [⟨u, T, 0, 0, false, 0, false⟩] + 1) (List.map Tk.pt [⟨u, T, 0, 0, false, 0, false⟩]) [] 0 (List.replicate (cntV l) 0) = pmL (fun _ line => decide (line ≤ width)) [⟨T, 0, 0, false, 0, false⟩] [] 0 (List.replicate (cntV l) 0) := by
        unfold pmL
        rw [← szP_pt]
        rfl
      rw [hpm] at hP3
      obtain ⟨R, hR⟩ : ∃ R, R = pmL (fun _ line => decide (line ≤ width)) [⟨T, 0, 0, false, 0, false⟩] [] 0 (List.replicate (cntV l) 0) := ⟨_, rfl⟩
      rw [← hR] at hP3 HPl
      have c5 := hP3.c5
      have c7 := hP3.c7
      obtain ⟨ta, tcap, htf, _, _⟩ := row_form hP3.trow
      obtain ⟨ha, hcap2, hhf, _, _⟩ := row_form hP3.hrow
      have HE : Hid (∀ W, w3.grownBy W none → OwB w.heap.size W tv3 R.1 ∧ OwI w.heap.size W hv2 R.2 ∧ (∀ g, tv3.ownBlock = some g → hv2.ownBlock ≠ some g) ∧ w.grownBy W none) :=
        fun W hW => ⟨Ow.later (row_base (by omega) hP3.trow) hW, Ow.later (row_base (by omega) hP3.hrow) hW, hP3.dth, grown_trans (grown_trans (grown_trans G1.out GW.out) (grown_of_below hP3.bel)) hW⟩
      clear hpm hR hP3 HPr
      subst htf hhf
      go_wp2_with fail
      go_quiet (fail)
      go_wp2
      go_ret3
      rw [HR.out, HPl.out]
      exact ⟨_, _, rfl, HE.out _ (grown_drewN (World.grownBy.refl _ _) _)⟩
    · have HR : Hid (layoutR doc width = none) := by unfold Hid layoutR; rw [if_neg (fun h => hw h.2)]
      subst hnv
      clear hS hrow hrep hpost honce f1 f2 f3 f4 f5 hcnt h1 h3 h5 hbel HN hll hlen
      by_cases hw0 : width < 0
      · clear hw
        go_wp2
        go_ret3
        rw [HR.out]
        exact ⟨rfl, G1.out⟩
      · have hw2 : 65535 < width := by omega
        clear hw
        go_wp2
        go_ret3
        rw [HR.out]
        exact ⟨rfl, G1.out⟩
  · have HR : Hid (layoutR doc width = none) := by unfold Hid layoutR; rw [if_neg (fun h => by rw [h1] at h; cases h.1)]
    have G1 := hide (grown_trans HGA.out (grown_of_below hbel))
    clear hS hbel HN h1
    go_wp2
    go_ret3
    rw [HR.out]
    exact ⟨rfl, G1.out⟩

end Go.Proofs.YtgmjpdejfdldlaaDoor

namespace Go.Proofs.YtgmjpdejfdldlaaDoor
open Go.RowKit

/-- The layout keeps how many choices there are. -/
theorem lay_len (width : Int) (given : Option (List Int)) : ∀ (f : Nat) (its : List Item) (out met : List Int) (col : Int) (o m : List Int), lay width given f its out met col = some (o, m) → m.length = met.length
  | 0, _, _, _, _, _, _, h => by simp [lay] at h
  | f + 1, [], out, met, col, o, m, h => by simp only [lay, Option.some.injEq, Prod.mk.injEq] at h; rw [h.2]
  | f + 1, ⟨.leaf p, n, ind⟩ :: rest, out, met, col, o, m, h => by
    simp only [lay] at h
    split at h
    · exact lay_len width given f _ _ _ _ _ _ h
    · split at h
      · exact lay_len width given f _ _ _ _ _ _ h
      · split at h
        · exact lay_len width given f _ _ _ _ _ _ h
        · exact lay_len width given f _ _ _ _ _ _ h
  | f + 1, ⟨.bin p x y, n, ind⟩ :: rest, out, met, col, o, m, h => by
    simp only [lay] at h
    split at h
    · exact lay_len width given f _ _ _ _ _ _ h
    · exact lay_len width given f _ _ _ _ _ _ h
  | f + 1, ⟨.un p x, n, ind⟩ :: rest, out, met, col, o, m, h => by
    simp only [lay] at h
    split at h
    · exact lay_len width given f _ _ _ _ _ _ h
    · cases given with
      | none =>
        simp only at h
        cases hx : flatT x [] with
        | none =>
          rw [hx] at h
          have := lay_len width none f _ _ _ _ _ _ h
          simpa using this
        | some text =>
          rw [hx] at h
          simp only at h
          split at h
          · have := lay_len width none f _ _ _ _ _ _ h
            rw [this, markF_len]
          · have := lay_len width none f _ _ _ _ _ _ h
            simpa using this
      | some gs =>
        simp only at h
        split at h
        · cases hx : flatT x [] with
          | none => rw [hx] at h; cases h
          | some text =>
            rw [hx] at h
            have := lay_len width (some gs) f _ _ _ _ _ _ h
            rw [this, markF_len]
        · split at h
          · have := lay_len width (some gs) f _ _ _ _ _ _ h
            simpa using this
          · cases h

/-- The text of a document with given choices, if they can be taken. -/
def renderR (doc : List Pc) (cs : List Int) : Option (List Int) :=
  if specV doc = true ∧ cs.length = grp doc doc.length then
    (match bd doc [] with
      | some [T] => (match layL 0 (some cs) [⟨T, 0, 0⟩] [] (List.replicate (grp doc doc.length) 0) 0 with | some (out, met) => if met = cs then some out else none | none => none)
      | _ => none)
  else none

def RenderEnds (w : World) (r : Option (List Int)) (e : Ending) (w' : World) : Prop :=
  match r with
  | some out => ∃ ov, e = .returned (.tuple #[ov, .int .i64 0]) ∧ OwB w.heap.size w' ov out ∧ w.grownBy w' none
  | none => e = .returned (.tuple #[.slice none 0 0, .int .i64 1]) ∧ w.grownBy w' none

end Go.Proofs.YtgmjpdejfdldlaaDoor

namespace Go.Proofs.YtgmjpdejfdldlaaDoor

/-- Render with Layout's choices is Layout's text. -/
theorem render_layout {doc : List Pc} {width : Int} {out met : List Int} (hs : ∀ T, bd doc [] = some [T] → KOk T ∧ cntG T ≤ grp doc doc.length) (h : layoutR doc width = some (out, met)) : renderR doc met = some out := by
  unfold layoutR at h
  split at h
  · rename_i hv
    cases hb : bd doc [] with
    | none => rw [hb] at h; cases h
    | some Ts =>
      rw [hb] at h
      match Ts, hb, h with
      | [T], hb, h =>
        obtain ⟨hk, hc⟩ := hs T hb
        have hlen := lay_metlen _ _ _ _ _ _ h
        have ha := lay_again (w2 := 0) _ _ _ _ _ 0 _ (show OrdI' [⟨T, 0, 0⟩] from ⟨fun s hs => by simp at hs, trivial⟩) (fun s hs => by simp at hs; subst hs; exact hk) (fun s hs => by simp at hs; subst hs; simpa using hc) h
        simp only [List.length_replicate] at hlen
        unfold renderR
        rw [if_pos ⟨hv.1, hlen⟩, hb]
        simp only
        unfold layL
        rw [ha]
        simp
      | [], hb, h => cases h
      | _ :: _ :: _, hb, h => cases h
  · cases h
end Go.Proofs.YtgmjpdejfdldlaaDoor

