import Derived.Test.YtbiiopiaglkicaaDoorMAW
import Derived.Test.YtbiiopiaglkicaaDoorMBA
namespace Go.Proofs.YtbiiopiaglkicaaDoor
open Go.RowKit

theorem NTab.later {B : Nat} {w wm : World} {l : List Value} {f : Value → Option Value} {F : Tr → Value} (hF : ∀ T T', Sim T T' → F T = F T') {u : Value} {T : Tr} (hr : Rep (fun _ => False) B w u T) (hp : Post w u T l) (h : NTab B w l f F) (hg : w.grownBy wm none) : NTab B wm l f F := by
  intro v hv T1 hT1
  obtain ⟨i, hi⟩ := List.mem_iff_getElem?.1 hv
  obtain ⟨T', _, hr', _⟩ := post_elem hr hp i v hi
  rw [h v hv T' hr', hF T' T1 (rep_sim (hr'.keep hg) hT1)]

set_option maxHeartbeats 2000000 in
set_option maxRecDepth 100000 in
theorem newPrinter_any (B : Nat) (nv u0 : Value) (T0 : Tr) (l : List Value) (w : World) (hrow : w.ownsRow B 84 1 nv l.length l) (hr : Rep (fun _ => False) B w u0 T0) (hp : Post w u0 T0 l) (ho : Once (fun _ => False) w l) (hsz : sz T0 ≤ 140000) (hl : l.length ≤ 40000) (cf : Nat) (cap : Value) :
    Calls Tryd.prog 41 #[nv, .func (.func cf) #[] #[cap]] w fun e w' => ∃ wm fb lb nb f0 f1 f2 wv hv, e = .returned (.pointer (some ⟨wm.heap.size, 0, none⟩)) ∧ Ctx B wm l fb lb nb f0 f1 f2 ∧ NodeAt B wm l u0 T0 0 ∧ w.grownBy wm none ∧
      Pr wm.heap.size wm w' (.map (some fb)) (.map (some lb)) (.map (some nb)) (.func (.func cf) #[] #[cap]) wv (.slice none 0 0) hv [⟨u0, T0, 0, 0, false, 0, false⟩] [] 0 (List.replicate (cntV l) 0) := by
  have hW := flatWidths_any B nv u0 T0 l w hrow hr hp ho hsz
  obtain ⟨a, ncap, hnv, hnc, hnm⟩ := row_form hrow
  have HR := hidN hrow
  have HRp := hidN hr
  have HPo := hidN hp
  have HOn := hidN ho
  subst hnv
  clear hrow hr hp ho
  go_enter Tryd.func41, Tryd.ntmps41
  go_wp2_with fail
  refine hW.mono ?_
  rintro e w1 ⟨f0, n0, rfl, hM0, hT0, g1⟩
  have hk1 : ∀ {W W' : World}, W.grownBy W' none → ∀ b, b < W.heap.size → ¬ False → W'.heap[b]? = W.heap[b]? := fun h b hb _ => h.block b hb (by simp)
  have hL := leadsOf_any B _ u0 T0 l w1 (row_keep HR.out g1 (by simp)) (HRp.out.keep g1) (HPo.out.keep HRp.out g1) (HOn.out.turn (hk1 g1) (fun _ _ h => h)) hsz
  clear hW
  go_wp2_with fail
  refine hL.mono ?_
  rintro e w2 ⟨f1, n1, rfl, hM1, hT1, g2⟩
  have g12 := grown_trans g1 g2
  have hG := groupNumbers_any B _ u0 T0 l w2 (row_keep HR.out g12 (by simp)) (HRp.out.keep g12) (HPo.out.keep HRp.out g12) (HOn.out.turn (hk1 g12) (fun _ _ h => h))
  clear hL
  go_wp2_with fail
  refine hG.mono ?_
  rintro e w3 ⟨f2, rfl, hM2, hT2, g3⟩
  have g123 := grown_trans g12 g3
  have hctx : Ctx B w3 l w.heap.size w1.heap.size w2.heap.size f0 f1 f2 :=
    ⟨HOn.out.turn (hk1 g123) (fun _ _ h => h), ⟨n0, hM0.keep (grown_trans g2 g3)⟩, ⟨n1, hM1.keep g3⟩, hM2, NTab.later fwV_sim HRp.out HPo.out hT0 g123, NTab.later ldV_sim (HRp.out.keep g1) (HPo.out.keep HRp.out g1) hT1 (grown_trans g2 g3), hT2⟩
  have HCtx := hidN hctx
  have HNode : Hid (NodeAt B w3 l u0 T0 0) := ⟨[], l, [], by simp, HPo.out.keep HRp.out g123, HRp.out.keep g123, rfl⟩
  have HG3 := hidN g123
  obtain ⟨i0, hi, hz0, hz1, hz2⟩ := info_parts info3
  have hcl := cntV_le l
  have hlen := (hM2.keep (World.grownBy_alloc w3 (.cells #[.map (some w.heap.size), .map (some w1.heap.size), .map (some w2.heap.size), .func (.func cf) #[] #[cap], .slice none 0 0, .slice none 0 0, .int .i64 0, .slice none 0 0] 75) none)).run_len Tryd.underlying70 3
  clear hG hM0 hM1 hM2 hT0 hT1 hT2 hctx hk1
  generalize hcn : cntV l = cn at *
  have HCn := hidN hcn
  clear hcn
  go_wp2_with (at_make; refine wpList_make_full _ rfl _ _ 25 rfl (w3.heap.size + 1) 3 i0 (.int .i64 0) 1 Tryd.underlying25 hi hz0 hz1 _ _ _ _ cn rfl rfl (by omega) (by omega) ?b2 ?b3 (by simp) ?_)
  case b2 => rw [hz2]; omega
  case b3 => unfold maxLen; omega
  intro w4 hown4 hgrow4
  have hs4 := hgrow4.size
  simp only [World.size_alloc] at hs4
  have x0 := hgrow4.cell (a := ⟨w3.heap.size, 0, none⟩) (v := .map (some w.heap.size)) (by simp [go_sem]) (by simp)
  have x1 := hgrow4.cell (a := ⟨w3.heap.size, 1, none⟩) (v := .map (some w1.heap.size)) (by simp [go_sem]) (by simp)
  have x2 := hgrow4.cell (a := ⟨w3.heap.size, 2, none⟩) (v := .map (some w2.heap.size)) (by simp [go_sem]) (by simp)
  have x3 := hgrow4.cell (a := ⟨w3.heap.size, 3, none⟩) (v := .func (.func cf) #[] #[cap]) (by simp [go_sem]) (by simp)
  have x4 := hgrow4.cell (a := ⟨w3.heap.size, 4, none⟩) (v := .slice none 0 0) (by simp [go_sem]) (by simp)
  have x5 := hgrow4.cell (a := ⟨w3.heap.size, 5, none⟩) (v := .slice none 0 0) (by simp [go_sem]) (by simp)
  have x6 := hgrow4.cell (a := ⟨w3.heap.size, 6, none⟩) (v := .int .i64 0) (by simp [go_sem]) (by simp)
  have x7 := hgrow4.cell (a := ⟨w3.heap.size, 7, none⟩) (v := .slice none 0 0) (by simp [go_sem]) (by simp)
  have hfz : ∀ j, w4.frozen? ⟨w3.heap.size, j, none⟩ = false := fun j => (World.frozen?_of_block (hgrow4.block w3.heap.size (by simp) (by simp))).trans (by simp [go_sem])
  have z7 := hfz 7
  have hbel : Below w3.heap.size w3 w4 := ((Below.refl _ w3).alloc (Nat.le_refl _) _).grown hgrow4 (by simp) (fun k e => by cases e)
  have hrow4 : OwI (w3.heap.size + 1) w4 (.slice (some ⟨w3.heap.size + 1, 0, none⟩) cn cn) (List.replicate cn 0) := by
    unfold OwI Ow
    rw [List.length_replicate]
    simpa [toList_madeCells_one, Value.cells] using hown4
  have hP5 : Pr w3.heap.size w3 (w4.setCell ⟨w3.heap.size, 7, none⟩ (.slice (some ⟨w3.heap.size + 1, 0, none⟩) cn cn)) (.map (some w.heap.size)) (.map (some w1.heap.size)) (.map (some w2.heap.size)) (.func (.func cf) #[] #[cap]) (.slice none 0 0) (.slice none 0 0) (.slice (some ⟨w3.heap.size + 1, 0, none⟩) cn cn) [] [] 0 (List.replicate cn 0) :=
    ⟨hbel.setCell (p := ⟨w3.heap.size, 7, none⟩) (Nat.le_refl _) _, by simp [go_sem, x0], by simp [go_sem, x1], by simp [go_sem, x2], by simp [go_sem, x3], by simp [go_sem, x4], by simp [go_sem, x5], by simp [go_sem, x6], by simp [go_sem, x7], fun j => by simpa using hfz j,
      World.ownsRow_nil _ _ _ _, World.ownsRow_nil _ _ _ _, row_set hrow4 _ _ (by simp [Value.ownBlock]), (fun g h => by simp [Value.ownBlock] at h), (fun g h => by simp [Value.ownBlock] at h), (fun g h => by simp [Value.ownBlock] at h)⟩
  have HP5 := hidN hP5
  obtain ⟨l', hl'⟩ := HPo.out.last
  obtain ⟨tu, yu, hform⟩ := HRp.out.form
  have hll : l.length = l'.length + 1 := by rw [hl']; simp
  rcases HR.out.2 with ⟨_, h0⟩ | ⟨g, cp, cur, hrg, hbg, hgg, hnc', hcm, hcs, htk⟩
  · omega
  cases hrg
  have hglt := (Array.getElem?_eq_some_iff.1 hgg).1
  have m0 := World.ownsRow.cellAt HR.out l'.length (by omega)
  rw [hl', List.getElem?_append_right (Nat.le_refl _)] at m0
  simp only [Nat.sub_self, List.getElem?_cons_zero, hform] at m0
  have m4 : w4.cell? ⟨g, l'.length, none⟩ = some (.iface tu yu) := (hbel.cell (p := ⟨g, l'.length, none⟩) (by have := HG3.out.size; simp only; omega)).trans (HG3.out.cell m0 (by simp))
  have hgne : ¬ g = w3.heap.size := by have := HG3.out.size; omega
  have HLl := hidN hll
  have HForm := hidN hform
  generalize l.length = ll at *
  clear hP5 hbel hrow4 hown4 hgrow4 hgg hcs htk hl' m0 hlen hform g1 g2 g3 g12 g123 hfz
  subst hll
  have hwl1 : IntKind.i64.wrap (l'.length : Int) = (l'.length : Int) := by simp [IntKind.wrap, IntKind.bits, IntKind.signed]; omega
  go_wp2_with fail
  go_region_with (go_at_call 70; refine (pushT_any _ w3 _ _ _ _ _ _ _ _ _ _ _ _ (HP5.out.keep (grown_drew (World.grownBy.refl _ _))) ⟨.iface tu yu, T0, 0, 0, false, 0, false⟩ ⟨_, _, rfl⟩ (by simp)).mono ?_; rintro e w6 ⟨rfl, ⟨wv6, hP6, _⟩, _, _⟩)
  all_goals
    go_wp2
    go_ret
    exact ⟨w3, w.heap.size, w1.heap.size, w2.heap.size, f0, f1, f2, wv6, _, rfl, HCtx.out, HNode.out, HG3.out, by rw [HCn.out, HForm.out]; exact hP6⟩

end Go.Proofs.YtbiiopiaglkicaaDoor

namespace Go.Proofs.YtbiiopiaglkicaaDoor
open Go.RowKit

/-- Without given choices the layout never fails. -/
theorem lay_some (width : Int) : ∀ (f : Nat) (its : List Item) (out met : List Int) (col : Int), szs (trs its) < f → ∃ r, lay width none f its out met col = some r
  | 0, _, _, _, _, h => by omega
  | f + 1, [], out, met, col, _ => ⟨(out, met), by simp only [lay]⟩
  | f + 1, ⟨.leaf p, n, ind⟩ :: rest, out, met, col, h => by
    simp only [trs_cons, szs, sz] at h
    have hr : ∀ o m c, ∃ r, lay width none f rest o m c = some r := fun o m c => lay_some width f rest o m c (by omega)
    simp only [lay]
    split
    · exact hr _ _ _
    · split
      · exact hr _ _ _
      · split
        · exact hr _ _ _
        · exact hr _ _ _
  | f + 1, ⟨.bin p x y, n, ind⟩ :: rest, out, met, col, h => by
    simp only [trs_cons, szs, sz] at h
    simp only [lay]
    split
    · exact lay_some width f _ _ _ _ (by simp only [trs_cons, szs]; omega)
    · exact lay_some width f _ _ _ _ (by simp only [trs_cons, szs]; omega)
  | f + 1, ⟨.un p x, n, ind⟩ :: rest, out, met, col, h => by
    simp only [trs_cons, szs, sz] at h
    simp only [lay]
    split
    · exact lay_some width f _ _ _ _ (by simp only [trs_cons, szs]; omega)
    · cases flatT x [] with
      | none => exact lay_some width f _ _ _ _ (by simp only [trs_cons, szs]; omega)
      | some text =>
        simp only
        split
        · exact lay_some width f _ _ _ _ (by omega)
        · exact lay_some width f _ _ _ _ (by simp only [trs_cons, szs]; omega)

theorem spec_facts {doc : List Pc} {T : Tr} (h : specV doc = true) (hT : bd doc [] = some [T]) : okN T ∧ nestT T ≤ 4000 ∧ ∀ p ∈ doc, pcOK p = true := by
  have h0 := h
  simp only [specV, Bool.and_eq_true, hT, decide_eq_true_eq] at h0
  have hall := h0.1.1.1.2
  have hok := bd_okN doc [] [T] hall (by intro x hx; cases hx) hT T (by simp)
  refine ⟨hok, ?_, fun p hp => List.all_eq_true.1 hall p hp⟩
  rcases nestS_T T hok with ⟨h1, _⟩ | ⟨_, h2⟩
  · exact h1
  · have := h0.2; omega

/-- The layout of a document at a width, if both are valid. -/
def layoutR (doc : List Pc) (width : Int) : Option (List Int × List Int) :=
  if specV doc = true ∧ 0 ≤ width ∧ width ≤ 65535 then (match bd doc [] with | some [T] => layL width none [⟨T, 0, 0⟩] [] (List.replicate (grp doc doc.length) 0) 0 | _ => none) else none

def LayoutEnds (w : World) (r : Option (List Int × List Int)) (e : Ending) (w' : World) : Prop :=
  match r with
  | some (out, met) => ∃ ov mv, e = .returned (.tuple #[ov, mv, .int .i64 0]) ∧ OwB w.heap.size w' ov out ∧ OwI w.heap.size w' mv met ∧ (∀ g, ov.ownBlock = some g → mv.ownBlock ≠ some g) ∧ w.grownBy w' none
  | none => e = .returned (.tuple #[.slice none 0 0, .slice none 0 0, .int .i64 1]) ∧ w.grownBy w' none

set_option maxHeartbeats 1000000 in
set_option maxRecDepth 100000 in
theorem specLayout_any (v : Value) (doc : List Pc) (width : Int) (w : World) (hv : RdP w.heap.size w v doc) (hd : Doc doc) :
    Calls Tryd.prog 10 #[v, .int .i64 width] w fun e w' => LayoutEnds w (layoutR doc width) e w' := by
  have hV := specValid_any v doc w hv hd
  obtain ⟨a, cap, hv0, _⟩ := id hv
  rcases valid_eq doc with ⟨h1, _, T, n, h3, _, h5⟩ | ⟨h1, _⟩
  · obtain ⟨f1, f2, f3⟩ := spec_facts h1 h3
    have hsz := spec_sz doc h1 T h3
    by_cases hw : 0 ≤ width ∧ width ≤ 65535
    · have HF : Hid (layoutR doc width = layL width none [⟨T, 0, 0⟩] [] (List.replicate (grp doc doc.length) 0) 0) := by unfold Hid layoutR; rw [if_pos ⟨h1, hw⟩, h3]
      obtain ⟨r, hr⟩ := lay_some width (szs (trs [⟨T, 0, 0⟩]) + 1) [⟨T, 0, 0⟩] [] (List.replicate (grp doc doc.length) 0) 0 (by omega)
      obtain ⟨out, met⟩ := r
      have HR : Hid (layL width none [⟨T, 0, 0⟩] [] (List.replicate (grp doc doc.length) 0) 0 = some (out, met)) := hr
      have HL : Hid (∀ w1, RdP w1.heap.size w1 v doc → Calls Tryd.prog 38 #[v, .int .i64 width, .bool false, .slice none 0 0] w1 fun e w' => LayEnds w1 (layL width none [⟨T, 0, 0⟩] [] (List.replicate (grp doc doc.length) 0) 0) e w') :=
        fun w1 h => l3lay_any v (.slice none 0 0) doc hd f3 width false none T w1 h h5 (.inl ⟨rfl, rfl⟩) f1 f2 hsz
      obtain ⟨hw0, hw1⟩ := hw
      rw [h1] at hV
      have HV := hide hv
      clear h1 h3 h5 f1 f2 f3 hsz hr hv
      subst hv0
      go_enter Tryd.func10, Tryd.ntmps10
      go_wp2_with fail
      refine hV.mono ?_
      rintro e w1 ⟨rfl, g1⟩
      have hl := HL.out w1 ((HV.out.keep g1).wide g1.size)
      rw [HR.out] at hl
      clear hV HL
      go_wp2_with fail
      refine hl.mono ?_
      rintro e w2 ⟨ov, mv, rfl, ho, hm, hap, g2⟩
      obtain ⟨oa, ocap, hof, _, _⟩ := row_form ho
      obtain ⟨ma, mcap, hmf, _, _⟩ := row_form hm
      have HE : Hid (OwB w.heap.size w2 ov out ∧ OwI w.heap.size w2 mv met ∧ (∀ g, ov.ownBlock = some g → mv.ownBlock ≠ some g) ∧ w.grownBy w2 none) := ⟨row_base g1.size ho, row_base g1.size hm, hap, grown_trans g1 g2⟩
      clear hl ho hm hap
      subst hof hmf
      go_wp2
      go_ret3
      rw [HF.out, HR.out]
      exact ⟨_, _, rfl, HE.out⟩
    · have HF : Hid (layoutR doc width = none) := by unfold Hid layoutR; rw [if_neg (fun h => hw h.2)]
      rw [h1] at hV
      clear h1 h3 h5 f1 f2 f3 hsz hv
      subst hv0
      by_cases hw0 : width < 0
      · clear hw
        go_enter Tryd.func10, Tryd.ntmps10
        go_wp2_with fail
        refine hV.mono ?_
        rintro e w1 ⟨rfl, g1⟩
        go_wp2
        go_ret3
        rw [HF.out]
        exact ⟨rfl, g1⟩
      · have hw1 : 65535 < width := by omega
        clear hw
        go_enter Tryd.func10, Tryd.ntmps10
        go_wp2_with fail
        refine hV.mono ?_
        rintro e w1 ⟨rfl, g1⟩
        go_wp2
        go_ret3
        rw [HF.out]
        exact ⟨rfl, g1⟩
  · have HF : Hid (layoutR doc width = none) := by unfold Hid layoutR; rw [if_neg (fun h => by rw [h1] at h; cases h.1)]
    rw [h1] at hV
    clear h1 hv
    subst hv0
    go_enter Tryd.func10, Tryd.ntmps10
    go_wp2_with fail
    refine hV.mono ?_
    rintro e w1 ⟨rfl, g1⟩
    go_wp2
    go_ret3
    rw [HF.out]
    exact ⟨rfl, g1⟩

end Go.Proofs.YtbiiopiaglkicaaDoor

namespace Go.Proofs.YtbiiopiaglkicaaDoor
open Go.RowKit

/-- The layout keeps how many choices there are. -/
theorem lay_len (width : Int) (given : Option (List Int)) : ∀ (f : Nat) (its : List Item) (out met : List Int) (col : Int) (o m : List Int), lay width given f its out met col = some (o, m) → m.length = met.length
  | 0, _, _, _, _, _, _, h => by simp [lay] at h
  | f + 1, [], out, met, col, o, m, h => by simp only [lay, Option.some.injEq, Prod.mk.injEq] at h; rw [h.2]
  | f + 1, ⟨.leaf p, n, ind⟩ :: rest, out, met, col, o, m, h => by
    simp only [lay] at h
    split at h
    · exact lay_len width given f _ _ _ _ _ _ h
    · split at h
      · exact lay_len width given f _ _ _ _ _ _ h
      · split at h
        · exact lay_len width given f _ _ _ _ _ _ h
        · exact lay_len width given f _ _ _ _ _ _ h
  | f + 1, ⟨.bin p x y, n, ind⟩ :: rest, out, met, col, o, m, h => by
    simp only [lay] at h
    split at h
    · exact lay_len width given f _ _ _ _ _ _ h
    · exact lay_len width given f _ _ _ _ _ _ h
  | f + 1, ⟨.un p x, n, ind⟩ :: rest, out, met, col, o, m, h => by
    simp only [lay] at h
    split at h
    · exact lay_len width given f _ _ _ _ _ _ h
    · cases given with
      | none =>
        simp only at h
        cases hx : flatT x [] with
        | none =>
          rw [hx] at h
          have := lay_len width none f _ _ _ _ _ _ h
          simpa using this
        | some text =>
          rw [hx] at h
          simp only at h
          split at h
          · have := lay_len width none f _ _ _ _ _ _ h
            rw [this, markF_len]
          · have := lay_len width none f _ _ _ _ _ _ h
            simpa using this
      | some gs =>
        simp only at h
        split at h
        · cases hx : flatT x [] with
          | none => rw [hx] at h; cases h
          | some text =>
            rw [hx] at h
            have := lay_len width (some gs) f _ _ _ _ _ _ h
            rw [this, markF_len]
        · split at h
          · have := lay_len width (some gs) f _ _ _ _ _ _ h
            simpa using this
          · cases h

/-- The text of a document with given choices, if they can be taken. -/
def renderR (doc : List Pc) (cs : List Int) : Option (List Int) :=
  if specV doc = true ∧ cs.length = grp doc doc.length then
    (match bd doc [] with
      | some [T] => (match layL 0 (some cs) [⟨T, 0, 0⟩] [] (List.replicate (grp doc doc.length) 0) 0 with | some (out, met) => if met = cs then some out else none | none => none)
      | _ => none)
  else none

def RenderEnds (w : World) (r : Option (List Int)) (e : Ending) (w' : World) : Prop :=
  match r with
  | some out => ∃ ov, e = .returned (.tuple #[ov, .int .i64 0]) ∧ OwB w.heap.size w' ov out ∧ w.grownBy w' none
  | none => e = .returned (.tuple #[.slice none 0 0, .int .i64 1]) ∧ w.grownBy w' none

set_option maxHeartbeats 2000000 in
set_option maxRecDepth 100000 in
theorem specRender_any (v cv : Value) (doc : List Pc) (cs : List Int) (w : World) (hv : RdP w.heap.size w v doc) (hd : Doc doc) (hcv : RdI w.heap.size w cv cs) (hcl : cs.length ≤ 1048576) :
    Calls Tryd.prog 21 #[v, cv] w fun e w' => RenderEnds w (renderR doc cs) e w' := by
  have hV := specValid_any v doc w hv hd
  have hdl := hd.len
  obtain ⟨a, cap, hv0, _⟩ := id hv
  obtain ⟨ca, ccap, hc0, _⟩ := id hcv
  rcases valid_eq doc with ⟨h1, _, T, n, h3, _, h5⟩ | ⟨h1, _⟩
  · obtain ⟨f1, f2, f3⟩ := spec_facts h1 h3
    have hsz := spec_sz doc h1 T h3
    rw [h1] at hV
    have HV := hide hv
    have HC := hide hcv
    have HGs : Hid (∀ w1, RdP w1.heap.size w1 v doc → _) := fun w1 h => l3groups_any v doc w1 h hdl
    have hgle := grp_le doc doc.length
    have hgat := grps_at doc doc.length doc.length (Nat.le_refl _)
    have hglen := grps_len doc doc.length
    have hgl3 : doc.length < (grps doc doc.length).length := by omega
    have HGat := hide hgat
    by_cases hlen : cs.length = grp doc doc.length
    · have HLay : Hid (∀ w1, RdP w1.heap.size w1 v doc → RdI w1.heap.size w1 cv cs → Calls Tryd.prog 38 #[v, .int .i64 0, .bool true, cv] w1 fun e w' => LayEnds w1 (layL 0 (some cs) [⟨T, 0, 0⟩] [] (List.replicate (grp doc doc.length) 0) 0) e w') :=
        fun w1 h h' => l3lay_any v cv doc hd f3 0 true (some cs) T w1 h h5 (.inr ⟨rfl, cs, rfl, h', hlen⟩) f1 f2 hsz
      have HF : Hid (renderR doc cs = match layL 0 (some cs) [⟨T, 0, 0⟩] [] (List.replicate (grp doc doc.length) 0) 0 with | some (out, met) => if met = cs then some out else none | none => none) := by
        unfold Hid renderR; rw [if_pos ⟨h1, hlen⟩, h3]
      have hml : ∀ o m, layL 0 (some cs) [⟨T, 0, 0⟩] [] (List.replicate (grp doc doc.length) 0) 0 = some (o, m) → m.length = cs.length := fun o m h => by
        have := lay_len _ _ _ _ _ _ _ _ _ h
        rw [List.length_replicate] at this
        omega
      have HML := hide hml
      have HLen := hide hlen
      clear h1 h3 h5 f1 f2 f3 hsz hv hcv hlen hml hgat hglen
      generalize layL 0 (some cs) [⟨T, 0, 0⟩] [] (List.replicate (grp doc doc.length) 0) 0 = L at *
      subst hv0 hc0
      go_enter Tryd.func21, Tryd.ntmps21
      go_wp2_with fail
      refine hV.mono ?_
      rintro e w1 ⟨rfl, g1⟩
      have hgs := HGs.out w1 ((HV.out.keep g1).wide g1.size)
      clear hV
      go_wp2_with fail
      refine hgs.mono ?_
      rintro e w2 ⟨gr, rfl, hgr, g2⟩
      obtain ⟨gb, goff, gcap, hgv, hgc⟩ := rd_at hgr.rd HGat.out
      rw [← HLen.out] at hgc
      have e0 : ((cs.length : Int) != (cs.length : Int)) = false := by simp
      have t2 := grown_trans g1 g2
      have hl := HLay.out w2 ((HV.out.keep t2).wide t2.size) ((HC.out.keep t2).wide t2.size)
      have T2 := hide t2
      subst hgv
      clear hgs hgr g1 g2 t2 HLay
      go_wp2_with fail
      refine hl.mono ?_
      cases L with
      | none =>
        rintro e w3 ⟨rfl, g3⟩
        have hF := HF.out
        clear hl
        go_wp2
        go_ret2
        rw [hF]
        exact ⟨rfl, grown_trans T2.out g3⟩
      | some om =>
        obtain ⟨out, met⟩ := om
        rintro e w3 ⟨ov, mv, rfl, ho, hm, hap, g3⟩
        have hmlen := HML.out out met rfl
        have HMl := hide hmlen
        have hm6 : met.length ≤ 1048576 := by omega
        have hmc : ∀ k, k < met.length → k < cs.length := fun k hk => by omega
        have HMc := hide hmc
        have HF2 : Hid (renderR doc cs = if met = cs then some out else none) := HF.out
        obtain ⟨oa, ocap, hof, _, _⟩ := row_form ho
        obtain ⟨ma, mcap, hmf, _, _⟩ := row_form hm
        have HE : Hid (OwB w.heap.size w3 ov out ∧ w.grownBy w3 none) := ⟨row_base T2.out.size ho, grown_trans T2.out g3⟩
        have HMr : Hid (RdI w3.heap.size w3 mv met) := hm.rd
        have HCr : Hid (RdI w.heap.size w3 _ cs) := HC.out.keep (grown_trans T2.out g3)
        clear hl ho hm hap hmlen hmc HML HF HC HV T2
        subst hof hmf
        obtain ⟨ma', mcap', hme, hra⟩ := HMr.out
        cases hme
        obtain ⟨ca', ccap', hce, hrb⟩ := HCr.out
        cases hce
        go_wp2
        go_loopw [10] (fun i wr => ∃ k q : Nat, k ≤ met.length ∧ i = .int .i64 k ∧ Hid (met.take k = cs.take k) ∧ wr = w3.drewN q) (fun i _ => met.length - (intOf i).toNat)
        case atStart => exact ⟨0, 0, Nat.zero_le _, rfl, by unfold Hid; simp, rfl⟩
        case round =>
          obtain ⟨k, q, hk, rfl, HT, hwr⟩ := hrel
          subst hwr
          by_cases hlt : k < met.length
          · have hlt2 := HMc.out k hlt
            obtain ⟨ba, offa, rfl, hba, hca⟩ := hra (fun h => by simp [h] at hlt)
            obtain ⟨bb, offb, rfl, hbb, hcb⟩ := hrb (fun h => by simp [h] at hlt2)
            have hxa := hca k hlt
            have hxb := hcb k hlt2
            have hta := take_snoc met k hlt
            have htb := take_snoc cs k hlt2
            have hla : (k : Int) < (met.length : Int) := by omega
            have hlb : (k : Int) < (cs.length : Int) := by omega
            clear hca hcb hra hrb
            by_cases hz : met[k]?.getD 0 = cs[k]?.getD 0
            · have HT2 : Hid (met.take (k + 1) = cs.take (k + 1)) := by unfold Hid; rw [hta, htb, HT.out, hz]
              clear hta htb HT
              rw [← hz] at hxb
              clear hz
              generalize met[k]?.getD 0 = z at hxa hxb
              go_wp2
              go_quiet (fail)
              go_wp2
              go_roundw
              case rel => exact ⟨k + 1, q + nq, by omega, by go_num, HT2.out, rfl⟩
              case measure => simp [intOf]; omega
            · have HN : Hid (renderR doc cs = none) := by
                unfold Hid
                rw [HF2.out, if_neg (fun e => hz (by rw [e]))]
              generalize met[k]?.getD 0 = z at hxa hz
              generalize cs[k]?.getD 0 = z2 at hxb hz
              clear hta htb HT
              have hz2 : (z != z2) = true := by simp [hz]
              clear hz
              go_wp2
              go_quiet (fail)
              go_wp2
              go_ret2
              rw [HN.out]
              exact ⟨rfl, grown_drewN (grown_drewN HE.out.2 q) nq⟩
          · have HN : Hid (renderR doc cs = some out) := by
              unfold Hid
              have ht := HT.out
              have hm := HMl.out
              rw [List.take_of_length_le (by omega), List.take_of_length_le (by omega)] at ht
              rw [HF2.out, if_pos ht]
            clear HT hra hrb
            go_wp2
            go_ret2
            rw [HN.out]
            exact ⟨_, rfl, HE.out.1, grown_drewN HE.out.2 q⟩
    · have HF : Hid (renderR doc cs = none) := by unfold Hid renderR; rw [if_neg (fun h => hlen h.2)]
      have e0 : ((cs.length : Int) != (grp doc doc.length : Int)) = true := by simp; omega
      clear h1 h3 h5 f1 f2 f3 hsz hv hcv hlen hgat hglen
      generalize grp doc doc.length = gn at *
      subst hv0 hc0
      go_enter Tryd.func21, Tryd.ntmps21
      go_wp2_with fail
      refine hV.mono ?_
      rintro e w1 ⟨rfl, g1⟩
      have hgs := HGs.out w1 ((HV.out.keep g1).wide g1.size)
      clear hV
      go_wp2_with fail
      refine hgs.mono ?_
      rintro e w2 ⟨gr, rfl, hgr, g2⟩
      obtain ⟨gb, goff, gcap, hgv, hgc⟩ := rd_at hgr.rd HGat.out
      have t2 := grown_trans g1 g2
      subst hgv
      clear hgs hgr
      go_wp2
      go_ret2
      rw [HF.out]
      exact ⟨rfl, t2⟩
  · have HF : Hid (renderR doc cs = none) := by unfold Hid renderR; rw [if_neg (fun h => by rw [h1] at h; cases h.1)]
    rw [h1] at hV
    clear h1 hv hcv
    subst hv0 hc0
    go_enter Tryd.func21, Tryd.ntmps21
    go_wp2_with fail
    refine hV.mono ?_
    rintro e w1 ⟨rfl, g1⟩
    go_wp2
    go_ret2
    rw [HF.out]
    exact ⟨rfl, g1⟩

end Go.Proofs.YtbiiopiaglkicaaDoor

