import Derived.Test.YtbiiopiaglkicaaDoorMAA
import Derived.Test.YtbiiopiaglkicaaDoorMBG
import Derived.Test.YtbiiopiaglkicaaDoorMCB
import Derived.Test.YtbiiopiaglkicaaDoorMBF
import Derived.Test.YtbiiopiaglkicaaDoorMBH
namespace Go.Proofs.YtbiiopiaglkicaaDoor
open Go.RowKit

set_option maxHeartbeats 400000 in
set_option maxRecDepth 100000 in
theorem toIntS_any (v : Value) (zs : List Int) (w : World) (hv : Rd .i64 w.heap.size w v zs) (hn : zs.length ≤ 4194304) :
    Calls Tryd.prog 22 #[v] w fun e w' => ∃ v', e = .returned v' ∧ Ow .i64 3 w.heap.size w' v' zs ∧ w.grownBy w' none := by
  obtain ⟨i0, hi, hz0, hz1, hz2⟩ := info_parts info3
  obtain ⟨a, cap, rfl, hr⟩ := hv
  go_enter Tryd.func22, Tryd.ntmps22
  go_wp2_with (at_make; refine wpList_make_full _ rfl _ _ 25 rfl w.heap.size 3 i0 (.int .i64 0) 1 Tryd.underlying25 hi hz0 hz1 _ _ _ _ zs.length rfl rfl (by omega) (by omega) ?b2 ?b3 (Nat.le_refl _) ?_)
  case b2 => rw [hz2]; omega
  case b3 => unfold maxLen; omega
  intro w0 hown0 hgrow0
  go_wp2
  go_loopw [4] (fun i wr => ∃ k : Nat, k ≤ zs.length ∧ i = .int .i64 k ∧ wr.ownsRow w.heap.size 3 1 (.slice (some ⟨w.heap.size, 0, none⟩) zs.length zs.length) zs.length ((zs.take k ++ List.replicate (zs.length - k) 0).map (Value.int .i64)) ∧ w.grownBy wr none)
    (fun i _ => zs.length - (intOf i).toNat)
  case atStart =>
    refine ⟨0, Nat.zero_le _, rfl, ?_, hgrow0⟩
    simpa [toList_madeCells_one, Value.cells] using hown0
  case round =>
    obtain ⟨k, hk, rfl, hown, hgr⟩ := hrel
    by_cases hlt : k < zs.length
    · obtain ⟨b, off, rfl, hb, hc⟩ := hr (fun h => by simp [h] at hlt)
      have hcx : wr.cell? ⟨b, off + k, none⟩ = some (.int .i64 (zs[k]?.getD 0)) := hgr.cell (hc k hlt) (by simp)
      have hoc : wr.cell? ⟨w.heap.size, k, none⟩ = some (.int .i64 0) := by
        rw [World.ownsRow.cellAt hown k (by omega)]; simp [List.getElem?_append, List.getElem?_replicate, Nat.min_eq_left hk]; omega
      have hof := World.ownsRow.frozenAt hown k
      have hst := World.ownsRow.stored hown k (.int .i64 (zs[k]?.getD 0))
      rw [copy_step _ zs k hlt] at hst
      have hg2 := grown_new hgr hst.2 (fun j hj => by cases hj; exact Nat.le_refl _)
      have hst1 := hst.1
      clear hst hc hr hown hb
      generalize zs[k]?.getD 0 = z at hcx hst1 hg2
      go_wp2
      go_roundw
      case rel => exact ⟨k + 1, by omega, by go_num, hst1, hg2⟩
      case measure => simp [intOf]; omega
    · go_wp2
      go_ret
      have hkn : k = zs.length := by omega
      subst hkn
      exact ⟨_, rfl, by unfold Ow; simpa using hown, hgr⟩

end Go.Proofs.YtbiiopiaglkicaaDoor

namespace Go.Proofs.YtbiiopiaglkicaaDoor
open Go.RowKit

set_option maxHeartbeats 2000000 in
set_option maxRecDepth 100000 in
theorem markPieceS_bd (B H : Nat) (v : Value) (doc : List Pc) (w : World) (hP : OwPH B H w v doc) (hn : doc.length ≤ 1048576) (hs : sumT doc ≤ 1048576) (ht : ∀ p ∈ doc, p.t.length ≤ 1048576) :
    Calls Tryd.prog 16 #[v, .int .i64 1] w fun e w' => ∃ k : Int, e = .returned (.int .i64 k) ∧ 0 ≤ k ∧ k ≤ 600000000 ∧ FrP B H w w' := by
  obtain ⟨g, tvs, hv, hm, ho, hT, hgH, htH⟩ := hP
  have hgB := (World.ownsRow.lt ho g (by rw [hv]; rfl)).1
  have hlen := hT.len
  have HAp : Hid (tvs.Pairwise (fun a b => ∀ g, a.ownBlock = some g → b.ownBlock ≠ some g)) := hT.apart
  subst hv
  have HO : Hid (∀ (j : Nat) (p : Pc) (tv : Value), doc[j]? = some p → tvs[j]? = some tv → OwB B w tv p.t ∧ tv.ownBlock ≠ some g) := hT.own
  have HTH : Hid (∀ tv ∈ tvs, ∀ g', tv.ownBlock = some g' → g' < H) := htH
  have HC : Hid (∀ (j : Nat) (p : Pc), doc[j]? = some p → ∃ tv, tvs[j]? = some tv ∧ (cells3 doc tvs)[j * 3]? = some (.int .i64 p.k) ∧ (cells3 doc tvs)[j * 3 + 1]? = some tv ∧ (cells3 doc tvs)[j * 3 + 2]? = some (.int .i64 p.n)) := fun j p hp => cells3_at doc tvs j p hlen hp
  have hxl := ho.1
  clear hT htH
  go_enter Tryd.func16, Tryd.ntmps16
  go_wp2
  go_loopw [1, 5] (fun kv i wr => ∃ (k : Nat) (xs : List Value), k ≤ doc.length ∧ i = .int .i64 k ∧ kv = .int .i64 (1 + markN (doc.take k)) ∧ wr.ownsRow B 49 3 (.slice (some ⟨g, 0, none⟩) doc.length doc.length) doc.length xs ∧ Hid (∀ j, k ≤ j → xs[j * 3]? = (cells3 doc tvs)[j * 3]? ∧ xs[j * 3 + 1]? = (cells3 doc tvs)[j * 3 + 1]? ∧ xs[j * 3 + 2]? = (cells3 doc tvs)[j * 3 + 2]?) ∧
      Hid (∀ (j : Nat) (p : Pc) (tv : Value), k ≤ j → doc[j]? = some p → tvs[j]? = some tv → OwB B wr tv p.t) ∧ FrP B H w wr)
    (fun _ i _ => doc.length - (intOf i).toNat)
  case atStart => exact ⟨0, _, Nat.zero_le _, rfl, by simp [markN], ho, fun j _ => ⟨rfl, rfl, rfl⟩, fun j p tv _ h1 h2 => (HO.out j p tv h1 h2).1, FrP.refl _ _ _⟩
  case round =>
    obtain ⟨k, xs, hk, rfl, rfl, hrow, HX, HT, hfr⟩ := hrel
    have hb0 := markN_bd doc k
    by_cases hlt : k < doc.length
    · have hp : doc[k]? = some doc[k] := by simp [hlt]
      obtain ⟨tv, htv, e0, e1, e2⟩ := HC.out k doc[k] hp
      obtain ⟨x0, x1, x2⟩ := HX.out k (Nat.le_refl _)
      have hc0 := World.ownsRow.cellAt hrow (k * 3) (by omega)
      have hc1 := World.ownsRow.cellAt hrow (k * 3 + 1) (by omega)
      have hc2 := World.ownsRow.cellAt hrow (k * 3 + 2) (by omega)
      rw [x0, e0] at hc0
      rw [x1, e1] at hc1
      rw [x2, e2] at hc2
      have hf0 := World.ownsRow.frozenAt hrow (k * 3)
      have hf1 := World.ownsRow.frozenAt hrow (k * 3 + 1)
      have hf2 := World.ownsRow.frozenAt hrow (k * 3 + 2)
      have hrow1 := World.ownsRow.stored hrow (k * 3) (.int .i64 (1 + markN (doc.take k)))
      have hown := HT.out k doc[k] tv (Nat.le_refl _) hp htv
      have hne := (HO.out k doc[k] tv hp htv).2
      have htm : tv ∈ tvs := List.mem_of_getElem? htv
      have hpt := ht doc[k] (List.getElem_mem hlt)
      have hsn := markN_snoc doc k hlt
      have hb1 := markN_bd doc (k + 1)
      have hmk := markByteS_any B tv doc[k].t (1 + markN (doc.take k) + 1) (wr.setCell ⟨g, k * 3, none⟩ (.int .i64 (1 + markN (doc.take k)))) (row_set hown _ _ hne) (by omega) (by omega) (by omega)
      have hlt2 := World.ownsRow.lt hown
      have FIN : Hid (∀ (w1 : World), (wr.setCell ⟨g, k * 3, none⟩ (.int .i64 (1 + markN (doc.take k)))).grownBy w1 tv.ownBlock →
          ∃ xs', (w1.setCell ⟨g, k * 3 + 2, none⟩ (.int .i64 (1 + markN (doc.take k) + 1 + doc[k].t.length))).ownsRow B 49 3 (.slice (some ⟨g, 0, none⟩) doc.length doc.length) doc.length xs' ∧ Hid (∀ j, k + 1 ≤ j → xs'[j * 3]? = (cells3 doc tvs)[j * 3]? ∧ xs'[j * 3 + 1]? = (cells3 doc tvs)[j * 3 + 1]? ∧ xs'[j * 3 + 2]? = (cells3 doc tvs)[j * 3 + 2]?) ∧
            Hid (∀ (j : Nat) (p : Pc) (tv : Value), k + 1 ≤ j → doc[j]? = some p → tvs[j]? = some tv → OwB B (w1.setCell ⟨g, k * 3 + 2, none⟩ (.int .i64 (1 + markN (doc.take k) + 1 + doc[k].t.length))) tv p.t) ∧ FrP B H w (w1.setCell ⟨g, k * 3 + 2, none⟩ (.int .i64 (1 + markN (doc.take k) + 1 + doc[k].t.length))) ∧
            w1.cell? ⟨g, k * 3 + 2, none⟩ = some (.int .i64 doc[k].n) ∧ w1.frozen? ⟨g, k * 3 + 2, none⟩ = false) := by
        intro w1 hg1
        have hrow2 := World.ownsRow.kept hrow1.1 hg1 (.inr (fun e => hne e.symm))
        have hrow3 := World.ownsRow.stored hrow2 (k * 3 + 2) (.int .i64 (1 + markN (doc.take k) + 1 + doc[k].t.length))
        refine ⟨_, hrow3.1, ?_, ?_, ?_, ?_, World.ownsRow.frozenAt hrow2 _⟩
        · intro j hj
          have := HX.out j (by omega)
          rw [List.getElem?_set_ne (by omega), List.getElem?_set_ne (by omega), List.getElem?_set_ne (by omega), List.getElem?_set_ne (by omega), List.getElem?_set_ne (by omega), List.getElem?_set_ne (by omega)]
          exact this
        · intro j p tv' hj h1 h2
          have o1 := HT.out j p tv' (by omega) h1 h2
          have n1 := (HO.out j p tv' h1 h2).2
          refine row_set (World.ownsRow.kept (row_set o1 _ _ n1) hg1 ?_) _ _ n1
          cases hb : tv'.ownBlock with
          | none => exact .inl rfl
          | some g' =>
            refine .inr (fun e => ?_)
            have hkl : k < tvs.length := by omega
            have hjl := (List.getElem?_eq_some_iff.1 h2).1
            have hpw := (List.pairwise_iff_getElem.1 HAp.out) k j hkl hjl (by omega)
            have ek : tvs[k] = tv := (List.getElem?_eq_some_iff.1 htv).2
            have ej : tvs[j] = tv' := (List.getElem?_eq_some_iff.1 h2).2
            rw [ek, ej] at hpw
            exact hpw g' e.symm hb
        · refine (((hfr.grown hrow1.2 (fun g' e => by cases e; exact ⟨hgB, hgH⟩)).grown hg1 (fun g' e => ⟨(hlt2 g' e).1, HTH.out tv htm g' e⟩)).grown hrow3.2 (fun g' e => by cases e; exact ⟨hgB, hgH⟩))
        · rw [World.ownsRow.cellAt hrow2 (k * 3 + 2) (by omega), List.getElem?_set_ne (by omega), x2, e2]
      obtain ⟨ta, tcap, htvf, _, _⟩ := row_form hown
      have HM : Hid (1 + markN (doc.take k) + 1 + doc[k].t.length + 1 = 1 + markN (doc.take (k + 1))) := by unfold Hid; omega
      have hb3 : 1 + markN (doc.take k) + 1 + doc[k].t.length + 1 ≤ 600000000 := by omega
      clear hrow1 hown hlt2 HX HT hrow x0 x1 x2 e0 e1 e2 hsn hb1 hp htv htm hfr
      generalize doc[k] = p at *
      generalize markN (doc.take k) = mk at *
      subst htvf
      go_wp2_with fail
      refine hmk.mono ?_
      rintro e w1 ⟨rfl, _, hg1⟩
      obtain ⟨xs', r1, r2, r3, r4, r5, r6⟩ := FIN.out w1 hg1
      clear FIN hg1 hmk
      go_wp2
      go_roundw
      case rel => exact ⟨k + 1, xs', by omega, by go_num, by rw [← HM.out], r1, r2, r3, r4⟩
      case measure => simp [intOf]; omega
    · go_wp2
      go_ret
      exact ⟨_, rfl, by omega, by omega, hfr⟩

end Go.Proofs.YtbiiopiaglkicaaDoor

namespace Go.Proofs.YtbiiopiaglkicaaDoor
open Go.RowKit

/-- What Render answers: the text, the code. -/
def rR (r : Option (List Int)) : List Int × Int := match r with
  | some o => (o, 0)
  | none => ([], 1)
theorem render_flat {w w' : World} {r : Option (List Int)} {e : Ending} (h : RenderEnds w r e w') :
    ∃ ov, e = .returned (.tuple #[ov, .int .i64 (rR r).2]) ∧ OwB w.heap.size w' ov (rR r).1 ∧ w.grownBy w' none := by
  match r, h with
  | some o, ⟨ov, h1, h2, h3⟩ => exact ⟨ov, h1, h2, h3⟩
  | none, ⟨h1, h2⟩ => exact ⟨.slice none 0 0, h1, World.ownsRow_nil _ _ _ _, h2⟩
theorem render_len (doc : List Pc) (cs : List Int) : (rR (renderR doc cs)).1.length ≤ 560140000 := by
  unfold renderR
  split
  · rename_i h
    rcases valid_eq doc with ⟨h1, _, T, n, h3, _, h5⟩ | ⟨h1, _⟩
    · rw [h3]
      simp only
      obtain ⟨f1, f2, _⟩ := spec_facts h1 h3
      have hsz := spec_sz doc h1 T h3
      cases hr : layL 0 (some cs) [⟨T, 0, 0⟩] [] (List.replicate (grp doc doc.length) 0) 0 with
      | none => simp [rR]
      | some om =>
        obtain ⟨o, m⟩ := om
        have a1 := lay_out 0 (some cs) _ _ _ _ _ _ _ (fun it hit => by simp at hit; subst hit; exact ⟨f1, by simpa using f2⟩) hr
        simp [trs, szs] at a1
        simp only
        split
        · simp only [rR]; omega
        · simp [rR]
    · rw [h1] at h; cases h.1
  · simp [rR]

set_option maxHeartbeats 2000000 in
set_option maxRecDepth 100000 in
theorem render_law (v : Value) (ca : Option Addr) (ccap : Nat) (cs : List Int) (doc : List Pc) (w : World) (hv : RdP w.heap.size w v doc) (hcv : RdI w.heap.size w (.slice ca cs.length ccap) cs) (hcm : cs.length ≤ 9223372036854775807) (hby : ∀ p ∈ doc, Bys p.t) (hT : Tab w) :
    Calls Tryd.prog 4 #[v, .slice ca cs.length ccap] w fun e w' => e = .returned (.bool true) ∧ Below w.heap.size w w' := by
  obtain ⟨a, cap, hv0, _⟩ := id hv
  by_cases hcl : 1048576 < cs.length
  · subst hv0
    clear hv hT hcv
    go_enter Tryd.func4, Tryd.ntmps4
    go_wp2
    go_ret
    exact ⟨rfl, Below.refl _ _⟩
  have hsz := szPieceS_any v doc 1048576 w hv (by omega) (by omega)
  by_cases h0 : szDoc doc 1048576 < 0
  · subst hv0
    generalize szDoc doc 1048576 = s at *
    clear hv hT hcv
    go_enter Tryd.func4, Tryd.ntmps4
    go_wp2_with fail
    refine hsz.mono ?_
    rintro e w1 ⟨rfl, g1⟩
    go_wp2
    go_ret
    exact ⟨rfl, below_of_grown g1⟩
  · have hle := szDoc_le doc (by omega)
    have hsm := sum_mem doc
    have hd : Doc doc := by
      refine ⟨?_, ?_, ?_, hby⟩
      · by_cases hdz : doc = []
        · rw [hdz]; simp
        · obtain ⟨p, hp⟩ := List.exists_mem_of_ne_nil doc hdz
          have := hsm p hp; omega
      · intro p hp; have := hsm p hp; omega
      · omega
    have HD : Hid (Doc doc) := hd
    have HT : Hid (Tab w) := hT
    have hR0 := render_len doc cs
    have hcl2 : cs.length ≤ 1048576 := by omega
    have hnot : ∀ (x : Bool) (w : World), (Op.unary .not (.bool x)).run Tryd.prog w = .ok (.bool (!x)) w := fun _ _ => rfl
    have hspec : Hid (∀ (v cv : Value) (w : World), RdP w.heap.size w v doc → RdI w.heap.size w cv cs → Calls Tryd.prog 21 #[v, cv] w fun e w' => ∃ ov, e = .returned (.tuple #[ov, .int .i64 (rR (renderR doc cs)).2]) ∧ OwB w.heap.size w' ov (rR (renderR doc cs)).1 ∧ w.grownBy w' none) := fun v cv w h hc => (specRender_any v cv doc cs w h hd hc hcl2).mono fun e w' h' => render_flat h'
    have himpl : Hid (∀ (v cv : Value) (w : World), RdP w.heap.size w v doc → RdI w.heap.size w cv cs → Tab w → Calls Tryd.prog 23 #[v, cv] w fun e w' => ∃ ov, e = .returned (.tuple #[ov, .int .i64 (rR (renderR doc cs)).2]) ∧ OwB w.heap.size w' ov (rR (renderR doc cs)).1 ∧ w.grownBy w' none) := fun v cv w h hc ht => (implRender_any v cv doc cs w h hd hc hcl2 ht).mono fun e w' h' => render_flat h'
    generalize rR (renderR doc cs) = Rc at *
    obtain ⟨R, c⟩ := Rc
    simp only at hspec himpl hR0
    have hne : (c != c) = false := by simp
    have hmm : (((1 : Int) + (R.length : Int)) != (1 + (R.length : Int))) = false := by simp
    have HV : Hid (RdP w.heap.size w v doc) := hv
    have HCV := hide hcv
    subst hv0
    generalize szDoc doc 1048576 = s at *
    clear hT hsm hle hd hv hcv
    go_enter Tryd.func4, Tryd.ntmps4
    go_wp2_with fail
    refine hsz.mono ?_
    rintro e w1 ⟨rfl, g1⟩
    have a1 := HV.out.keep g1
    have b1 := HCV.out.keep g1
    have s1 := g1.size
    clear hsz
    go_wp2_with fail
    refine (toPieceS_any _ doc _ (a1.wide s1) HD.out.len HD.out.tlen).mono ?_
    rintro e w2 ⟨x2, rfl, o2, g2⟩
    have a2 := a1.keep g2
    have b2 := b1.keep g2
    have t2 := grown_trans g1 g2
    clear a1 b1 g1 g2 s1
    go_wp2_with fail
    refine (toIntS_any _ cs _ b2.now (by omega)).mono ?_
    rintro e w2b ⟨xc2, rfl, oc2, g2b⟩
    have a2b := a2.keep g2b
    have b2b := b2.keep g2b
    have t2b := grown_trans t2 g2b
    have o2b := o2.later g2b
    clear a2 b2 t2 o2 g2b
    go_wp2_with fail
    refine (hspec.out _ _ _ o2b.rd oc2.rd).mono ?_
    rintro e w3 ⟨s3, rfl, p3, g3⟩
    have a3 := a2b.keep g3
    have b3 := b2b.keep g3
    have t3 := grown_trans t2b g3
    have ls := World.ownsRow.lt p3
    have b23 := g3.size
    have bw2 := t2b.size
    clear a2b b2b g3 t2b o2b oc2
    go_wp2_with fail
    refine (toPieceS_any _ doc _ (a3.wide t3.size) HD.out.len HD.out.tlen).mono ?_
    rintro e w4 ⟨x4, rfl, o4, g4⟩
    have a4 := a3.keep g4
    have b4 := b3.keep g4
    have p4 := p3.later g4
    have t4 := grown_trans t3 g4
    have q4 := o4.high
    have b34 := g4.size
    have bw3 := t3.size
    clear a3 b3 g4 p3
    go_wp2_with fail
    refine (toIntS_any _ cs _ b4.now (by omega)).mono ?_
    rintro e w4b ⟨xc4, rfl, oc4, g4b⟩
    have a4b := a4.keep g4b
    have b4b := b4.keep g4b
    have p4b := p4.later g4b
    have q4b := q4.later g4b
    have o4b := o4.later g4b
    have t4b := grown_trans t4 g4b
    have lc := World.ownsRow.lt oc4
    have b44 := g4b.size
    clear a4 b4 p4 q4 o4 t4 g4b
    go_wp2_with fail
    refine (himpl.out _ _ _ o4b.rd oc4.rd (HT.out.keep t4b)).mono ?_
    rintro e w5 ⟨y5, rfl, o5, g5⟩
    have a5 := a4b.keep g5
    have b5 := b4b.keep g5
    have p5 := p4b.later g5
    have q5 := q4b.later g5
    have k5 := oc4.later g5
    have t5 := grown_trans t4b g5
    have ly := World.ownsRow.lt o5
    have b45 := g5.size
    clear a4b b4b g5 t4b o4b p4b q4b oc4
    go_wp2_with fail
    refine (eqByteS_same _ _ R _ o5.rd p5.rd (by omega)).mono ?_
    rintro e w6 ⟨rfl, g6⟩
    have a6 := a5.keep g6
    have b6 := b5.keep g6
    have p6 := p5.later g6
    have q6 := q5.later g6
    have k6 := k5.later g6
    have r6 := o5.later g6
    have t6 := grown_trans t5 g6
    clear a5 b5 g6 t5 o5 p5 q5 k5
    go_wp2_with fail
    refine (toPieceS_any _ doc _ (a6.wide t6.size) HD.out.len HD.out.tlen).mono ?_
    rintro e w7 ⟨x7, rfl, o7, g7⟩
    have a7 := a6.keep g7
    have b7 := b6.keep g7
    have p7 := p6.later g7
    have q7 := q6.later g7
    have k7 := k6.later g7
    have r7 := r6.later g7
    have t7 := grown_trans t6 g7
    clear a6 b6 g7 t6 p6 q6 k6 r6
    go_wp2_with fail
    refine (eqPieceS_same _ _ doc _ q7.low.rd o7.rd HD.out.len HD.out.tlen).mono ?_
    rintro e w8 ⟨rfl, g8⟩
    have a8 := a7.keep g8
    have b8 := b7.keep g8
    have p8 := p7.later g8
    have q8 := q7.later g8
    have k8 := k7.later g8
    have r8 := r7.later g8
    have t8 := grown_trans t7 g8
    clear a7 b7 g8 t7 p7 q7 k7 r7 o7
    go_wp2_with fail
    refine (toIntS_any _ cs _ b8.now (by omega)).mono ?_
    rintro e w8a ⟨xc8, rfl, oc8, g8a⟩
    have a8a := a8.keep g8a
    have b8a := b8.keep g8a
    have p8a := p8.later g8a
    have q8a := q8.later g8a
    have k8a := k8.later g8a
    have r8a := r8.later g8a
    have t8a := grown_trans t8 g8a
    clear a8 b8 g8a t8 p8 q8 k8 r8
    go_wp2_with fail
    refine (eqIntS_same _ _ cs _ k8a.rd oc8.rd (by omega)).mono ?_
    rintro e w8b ⟨rfl, g8b⟩
    have a8b := a8a.keep g8b
    have b8b := b8a.keep g8b
    have p8b := p8a.later g8b
    have q8b := q8a.later g8b
    have k8b := k8a.later g8b
    have r8b := r8a.later g8b
    have t8b := grown_trans t8a g8b
    clear a8a b8a g8b t8a p8a q8a k8a r8a oc8
    go_wp2_with fail
    refine (markPieceS_bd _ _ _ doc _ q8b HD.out.len HD.out.sum HD.out.tlen).mono ?_
    rintro e w9 ⟨k9, rfl, hk9, hk9b, f9⟩
    have bl9 : Below w3.heap.size w8b w9 := f9.below (by have := t8b.size; obtain ⟨gq, tq, hvq, _, hoq, _⟩ := q8b.low; have := World.ownsRow.lt hoq gq (by rw [hvq]; rfl); omega)
    have a9 := a8b.belowB (bl9.mono bw3)
    have b9 := b8b.below (bl9.mono bw3)
    have p9 : OwB w2b.heap.size w9 s3 R := f9.row p8b (fun g hg => .inl (ls g hg).2)
    have r9 : OwB w4b.heap.size w9 y5 R := f9.row r8b (fun g hg => .inr (by have := (ly g hg).1; omega))
    have c9 : OwI w4.heap.size w9 xc4 cs := f9.row k8b (fun g hg => .inr (lc g hg).1)
    have t9 := (below_of_grown t8b).trans (bl9.mono bw3)
    clear a8b b8b t8b p8b q8b k8b r8b f9 bl9
    go_wp2_with fail
    refine (markIntS_any _ _ cs k9 _ c9 (by omega) hk9 (by omega)).mono ?_
    rintro e w9b ⟨rfl, _, g9b⟩
    have a9b := a9.beside g9b (fun k hk => by have := lc k hk; omega)
    have b9b := b9.beside g9b (fun k hk => by have := lc k hk; omega)
    have p9b := p9.beside g9b (fun k hk j hj => by have := ls k hk; have := lc j hj; omega)
    have r9b := r9.beside g9b (fun k hk j hj => by have := ly k hk; have := lc j hj; omega)
    have t9b := t9.grown g9b t9.size (fun k hk => by have := lc k hk; omega)
    clear a9 b9 p9 r9 c9 t9 g9b
    have hkk : 0 ≤ k9 + (cs.length : Int) := by omega
    go_wp2_with fail
    refine (eqByteS_same _ _ R _ r9b.rd p9b.rd (by omega)).mono ?_
    rintro e w10 ⟨rfl, g10⟩
    have a10 := a9b.keep g10
    have b10 := b9b.keep g10
    have p10 := p9b.later g10
    have r10 := r9b.later g10
    have t10 := t9b.grown g10 t9b.size (fun k e => by cases e)
    clear a9b b9b g10 t9b p9b r9b
    go_wp2_with fail
    refine (markByteS_any _ _ R 1 _ r10 (by omega) (by omega) (by omega)).mono ?_
    rintro e w11 ⟨rfl, r11, g11⟩
    have a11 := a10.beside g11 (fun k hk => by have := ly k hk; omega)
    have b11 := b10.beside g11 (fun k hk => by have := ly k hk; omega)
    have p11 := p10.beside g11 (fun k hk j hj => by have := ls k hk; have := ly j hj; omega)
    have t11 := t10.grown g11 t10.size (fun k hk => by have := ly k hk; omega)
    clear a10 b10 p10 r10 t10 g11
    go_wp2_with fail
    refine (heldByteS_any _ R.length 1 _ r11.rd (by omega) (by omega) (by omega)).mono ?_
    rintro e w12 ⟨rfl, rfl⟩
    go_wp2_with fail
    refine (toPieceS_any _ doc _ (a11.wide t11.size) HD.out.len HD.out.tlen).mono ?_
    rintro e w13 ⟨x13, rfl, o13, g13⟩
    have b13 := b11.keep g13
    have p13 := p11.later g13
    have t13 := t11.grown g13 t11.size (fun k e => by cases e)
    clear a11 b11 p11 t11 r11 g13
    go_wp2_with fail
    refine (toIntS_any _ cs _ b13.now (by omega)).mono ?_
    rintro e w13b ⟨xc13, rfl, oc13, g13b⟩
    have o13b := o13.later g13b
    have p13b := p13.later g13b
    have t13b := t13.grown g13b t13.size (fun k e => by cases e)
    clear b13 p13 t13 o13 g13b
    go_wp2_with fail
    refine (himpl.out _ _ _ o13b.rd oc13.rd (HT.out.below t13b HT.out.pos)).mono ?_
    rintro e w14 ⟨y14, rfl, o14, g14⟩
    have p14 := p13b.later g14
    have t14 := t13b.grown g14 t13b.size (fun k e => by cases e)
    clear p13b t13b o13b oc13 g14
    go_wp2_with fail
    refine (eqByteS_same _ _ R _ o14.rd p14.rd (by omega)).mono ?_
    rintro e w15 ⟨rfl, g15⟩
    have t15 := t14.grown g15 t14.size (fun k e => by cases e)
    clear o14 p14 t14 g15
    go_wp2
    go_ret
    exact ⟨rfl, t15⟩

end Go.Proofs.YtbiiopiaglkicaaDoor

