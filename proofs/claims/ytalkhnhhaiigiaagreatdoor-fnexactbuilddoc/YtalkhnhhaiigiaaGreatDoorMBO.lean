import Derived.Test.YtalkhnhhaiigiaaGreatDoorMBM
namespace Go.Proofs.YtalkhnhhaiigiaaGreatDoor
open Go.RowKit
attribute [-go_sem] Builtin.append_

set_option maxHeartbeats 8000000 in
set_option maxRecDepth 100000 in
theorem list_bare5 (bs B : Nat) (ind m : Int) (p : Nod) (R : List Nod) (nv lv kv xv uv tv : Value) (w : World) (hs : Sx bs B ind m w nv R) (hc : p.cnt = 0) (ht : p.tail = [])
    (sl : Sl lv p.lead.length) (sk : Sl kv p.key.length) (sx : Sl xv p.text.length) (su : Sl uv p.units.length) (st : Sl tv p.tail.length) :
    Calls Tryz.prog 83 #[.pointer (some ⟨bs, 0, none⟩), .agg #[.int .i64 p.k, lv, .bool p.mem, kv, xv, uv, .int .i64 p.cnt, tv], .string { data := #[91] }, .string { data := #[93] }, .int .i64 3] w fun e w' => GivesV bs B ind m w (textP [91, 93]) R e w' := by
  obtain ⟨la, lc, rfl, _⟩ := sl
  obtain ⟨ka, kc, rfl, _⟩ := sk
  obtain ⟨xa, xc, rfl, _⟩ := sx
  obtain ⟨ua, uc, rfl, _⟩ := su
  obtain ⟨ta, tc, rfl, _⟩ := st
  obtain ⟨W, hW⟩ : ∃ W, W = w.alloc (Obj.cells #[.int .i64 p.k, .slice la p.lead.length lc, .bool p.mem, .slice ka p.key.length kc, .slice xa p.text.length xc, .slice ua p.units.length uc, .int .i64 p.cnt, .slice ta p.tail.length tc] 75) := ⟨_, rfl⟩
  have gW : w.grownBy W none := by rw [hW]; exact World.grownBy_alloc _ _ _
  have HS := hide (hs.keep gW)
  have HG := hide gW
  have HT := hide (textPart_any [91, 93] (by intro z hz; simp at hz; omega) (by simp) W)
  have hlim : ¬ (9223372036854775807 < 1 + 1) := by omega
  have htl : p.tail.length = 0 := by rw [ht]; rfl
  rw [htl] at hW ⊢
  have hcat : ({ data := #[91] } : ByteArray) ++ { data := #[93] } = strOfNums [91, 93] := rfl
  rw [hc] at hW ⊢
  subst hW
  clear gW hs
  go_enter Tryz.func83, Tryz.ntmps83
  go_wp2_with fail
  refine HT.out.mono ?_
  rintro e w1 ⟨f, caps, rfl, hp, g⟩
  have HP := hide hp
  have G := hide g
  clear HT hp g
  go_wp2
  go_ret
  exact ⟨f, caps, nv, rfl, HP.out.moreB HG.out.size (World.grownBy.refl _ _), HS.out.keep G.out, grown_some (grown_trans HG.out G.out)⟩

set_option maxHeartbeats 8000000 in
set_option maxRecDepth 100000 in
theorem list_tail5 (bs B : Nat) (ind m : Int) (hB : B ≤ bs) (p : Nod) (R : List Nod) (nv lv kv xv uv tv : Value) (w : World) (hs : Sx bs B ind m w nv R) (hpo : NdOk p) (hpw : wN p ≤ 2000000) (hc : p.cnt = 0) (ht : p.tail ≠ [])
    (rt : RdC B w tv p.tail) (sl : Sl lv p.lead.length) (sk : Sl kv p.key.length) (sx : Sl xv p.text.length) (su : Sl uv p.units.length) (st : Sl tv p.tail.length) :
    Calls Tryz.prog 83 #[.pointer (some ⟨bs, 0, none⟩), .agg #[.int .i64 p.k, lv, .bool p.mem, kv, xv, uv, .int .i64 p.cnt, tv], .string { data := #[91] }, .string { data := #[93] }, .int .i64 3] w fun e w' => GivesV bs B ind m w (rowP [textP [91], nestP ind (aftP p.tail), leafP 4, textP [93]]) R e w' := by
  obtain ⟨la, lc, rfl, _⟩ := sl
  obtain ⟨ka, kc, rfl, _⟩ := sk
  obtain ⟨xa, xc, rfl, _⟩ := sx
  obtain ⟨ua, uc, rfl, _⟩ := su
  obtain ⟨ta, tc, rfl, _⟩ := st
  obtain ⟨W, hW⟩ : ∃ W, W = w.alloc (Obj.cells #[.int .i64 p.k, .slice la p.lead.length lc, .bool p.mem, .slice ka p.key.length kc, .slice xa p.text.length xc, .slice ua p.units.length uc, .int .i64 p.cnt, .slice ta p.tail.length tc] 75) := ⟨_, rfl⟩
  have gW : w.grownBy W none := by rw [hW]; exact World.grownBy_alloc _ _ _
  have sW : W.heap.size = w.heap.size + 1 := by rw [hW]; simp
  have HS := hide (hs.keep gW)
  have hlt := hs.lt
  have HG := hide gW
  have HT1 : Hid (∀ U : World, _) := fun U => textPart_any [91] (by intro z hz; simp at hz; omega) (by simp) U
  have HT2 : Hid (∀ U : World, _) := fun U => textPart_any [93] (by intro z hz; simp at hz; omega) (by simp) U
  have hwt : wC p.tail ≤ 2000000 := by have := hpw; unfold wN at this; omega
  have HBL := hide (belowLines_any (.slice ta p.tail.length tc) p.tail m W ((rt.keep gW).wide (by omega)) hpo.t.2 (by omega) HS.out.mx)
  have HL4 : Hid (∀ U : World, _) := fun U => leafPart_any 4 U
  have htl : ((p.tail.length : Int) == 0) = false := by rw [beq_eq_false_iff_ne]; have := List.length_pos_iff.2 ht; omega
  have hml := mess_aft p.tail
  have hmll := mess_len (aftP p.tail)
  rw [hc] at hW ⊢
  have zc : W.cell? ⟨w.heap.size, 6, none⟩ = some (.int .i64 0) := by rw [hW]; simp [go_sem]
  have Z := hide zc
  have HW := hide hW
  rw [hW] at HBL
  clear gW hs rt hpo zc hW
  go_enter Tryz.func83, Tryz.ntmps83
  go_wp2_with fail
  refine HBL.out.mono ?_
  rintro e w1 ⟨v1, rfl, o1, g1⟩
  have hW := HW.out
  rw [← hW] at o1 g1
  clear hW
  have y6 := g1.cell Z.out (by simp)
  obtain ⟨F1, hF1, hp1⟩ := o1.pa
  obtain ⟨a1, c1, hv1⟩ := o1.sl
  have HP1 := hide hp1
  have HF1 := hide hF1
  have G1 := hide g1
  have HS1 := hide (HS.out.keep g1)
  generalize hL1 : (aftP p.tail).length = L1 at hv1
  subst hv1
  clear HBL o1 hp1 g1 hF1
  go_wp2_with fail
  refine (HT1.out w1).mono ?_
  rintro e w2 ⟨f2, caps2, rfl, hp2, g2⟩
  have HNS := hide (nest_any bs nv ind _ _ F1 w2 (HS1.out.keep g2).shp (HP1.out.at (fun _ h => h) g2.size (fun k h => g2.block k (HF1.out k h).2 (by simp))) (fun k h => Nat.lt_of_lt_of_le (HF1.out k h).2 g2.size) (by omega))
  have HP2 := hide hp2
  have G2 := hide g2
  have HS2 := hide (HS1.out.keep g2)
  clear hp2 g2 HT1
  go_wp2_with fail
  refine HNS.out.mono ?_
  rintro e w3 ⟨f3, caps3, rfl, hp3, g3⟩
  have HP3 := hide hp3
  have G3 := hide g3
  clear hp3 g3 HNS
  go_wp2_with fail
  refine (HL4.out w3).mono ?_
  rintro e w4 ⟨f4, caps4, rfl, hp4, g4⟩
  have HP4 := hide hp4
  have G4 := hide g4
  clear hp4 g4 HL4
  go_wp2_with fail
  refine (HT2.out w4).mono ?_
  rintro e w5 ⟨f5, caps5, rfl, hp5, g5⟩
  have s1 := G1.out.size
  have s2 := G2.out.size
  have s3 := G3.out.size
  have s4 := G4.out.size
  have s5 := g5.size
  have g45 := grown_trans G4.out g5
  have g35 := grown_trans G3.out g45
  have k2 := HP2.out.moreB (B := w.heap.size) (by omega) g35
  have k3 : PartAt w5 (fun k => w.heap.size ≤ k ∧ k < w5.heap.size) f3 caps3 (nestP ind (aftP p.tail)) := HP3.out.at (fun k hk => hk.elim (fun h => ⟨by have := (HF1.out k h).1; omega, by have := (HF1.out k h).2; omega⟩) (fun h => ⟨by have := h.1; omega, by have := h.2; omega⟩)) (fun k hk => g45.block k (hk.elim (fun h => by have := (HF1.out k h).2; omega) (fun h => h.2)) (by simp))
  have k4 := HP4.out.moreB (B := w.heap.size) (by omega) g5
  have k5 := hp5.moreB (B := w.heap.size) (by omega) (World.grownBy.refl _ _)
  have hpf := pa_fourB (B := w.heap.size) (by omega) k2 k3 k4 k5
  have HRW := hide (row_any _ _ _ _ hpf (fun k h => h.2) (by simp))
  have gA := World.grownBy_alloc w5 (Obj.cells #[.func (.func f2) #[] caps2, .func (.func f3) #[] caps3, .func (.func f4) #[] caps4, .func (.func f5) #[] caps5] 51) none
  have GA := hide (grown_trans g35 gA)
  have hsA : w5.heap.size ≤ (w5.alloc (Obj.cells #[.func (.func f2) #[] caps2, .func (.func f3) #[] caps3, .func (.func f4) #[] caps4, .func (.func f5) #[] caps5] 51)).heap.size := gA.size
  have HSA := hide hsA
  clear k2 k3 k4 k5 hpf HP2 HP3 HP4 hp5 g5 g45 g35 gA hsA
  go_wp2_with fail
  refine HRW.out.mono ?_
  rintro e w6 ⟨f6, caps6, rfl, hp6, g6⟩
  have HP6 := hide hp6
  have G6 := hide g6
  clear hp6 g6 HRW
  go_wp2
  go_ret
  have s6 := G6.out.size
  have hA := HSA.out
  refine ⟨f6, caps6, nv, rfl, HP6.out.at (fun k hk => hk.elim (fun h => ⟨h.1, by have := h.2; omega⟩) (fun h => ⟨by have := h.1; omega, h.2⟩)) (fun _ _ => rfl), (HS2.out.keep GA.out).keep G6.out, grown_some (grown_trans (grown_trans (grown_trans (grown_trans HG.out G1.out) G2.out) GA.out) G6.out)⟩

set_option maxHeartbeats 8000000 in
set_option maxRecDepth 100000 in
theorem list_items5 (bs B : Nat) (ind m : Int) (hB : B ≤ bs) (hbs : 1 < bs) (d : Nat) (IT : ∀ (R R2 : List Nod) (m' : Bool) (nv : Value) (w : World), Sx bs B ind m w nv R → NsK R → walkL triv d m' (R, ()) = some (R2, ()) → Calls Tryz.prog 50 #[.pointer (some ⟨bs, 0, none⟩)] w fun e w' => GivesL bs B ind m w (itemP (valP ind d) R) R2 e w') (p : Nod) (R R2 : List Nod) (nv lv kv xv uv tv : Value) (w : World) (hs : Sx bs B ind m w nv R) (hN : NsK R) (hk : p.k = 5) (hpo : NdOk p) (hpw : wN p ≤ 2000000) (c : Nat) (hc : p.cnt = (c : Int)) (hc1 : 0 < c) (hcb : c ≤ 9223372036854775807) (hw : loopN (walkL triv d false) c (R, ()) = some (R2, ()))
    (rt : RdC B w tv p.tail) (sl : Sl lv p.lead.length) (sk : Sl kv p.key.length) (sx : Sl xv p.text.length) (su : Sl uv p.units.length) (st : Sl tv p.tail.length) :
    Calls Tryz.prog 83 #[.pointer (some ⟨bs, 0, none⟩), .agg #[.int .i64 p.k, lv, .bool p.mem, kv, xv, uv, .int .i64 p.cnt, tv], .string { data := #[91] }, .string { data := #[93] }, .int .i64 3] w fun e w' => GivesV bs B ind m w (contP ind p (itK (valP ind d) c R)) R2 e w' := by
  obtain ⟨la, lc, rfl, _⟩ := sl
  obtain ⟨ka, kc, rfl, _⟩ := sk
  obtain ⟨xa, xc, rfl, _⟩ := sx
  obtain ⟨ua, uc, rfl, _⟩ := su
  obtain ⟨ta, tc, rfl, _⟩ := st
  obtain ⟨W, hW⟩ : ∃ W, W = w.alloc (Obj.cells #[.int .i64 p.k, .slice la p.lead.length lc, .bool p.mem, .slice ka p.key.length kc, .slice xa p.text.length xc, .slice ua p.units.length uc, .int .i64 p.cnt, .slice ta p.tail.length tc] 75) := ⟨_, rfl⟩
  have gW : w.grownBy W none := by rw [hW]; exact World.grownBy_alloc _ _ _
  have sW : W.heap.size = w.heap.size + 1 := by rw [hW]; simp
  have HS := hide (hs.keep gW)
  have hlt := hs.lt
  have HG := hide gW
  have HT1 : Hid (∀ U : World, _) := fun U => textPart_any [91] (by intro z hz; simp at hz; omega) (by simp) U
  have HT2 : Hid (∀ U : World, _) := fun U => textPart_any [93] (by intro z hz; simp at hz; omega) (by simp) U
  have hwt : wC p.tail ≤ 2000000 := by have := hpw; unfold wN at this; omega
  have HBL := hide (belowLines_any (.slice ta p.tail.length tc) p.tail m W ((rt.keep gW).wide (by omega)) hpo.t.2 (by omega) HS.out.mx)
  have HLE : Hid (∀ U : World, _) := fun U => leafPart_any 3 U
  have HL0 : Hid (∀ U : World, _) := fun U => leafPart_any 0 U
  have HL2 : Hid (∀ U : World, _) := fun U => leafPart_any 2 U
  have HT3 : Hid (∀ U : World, _) := fun U => textPart_any [44] (by intro z hz; simp at hz; omega) (by simp) U
  have HITM := hide IT
  have HIT := hide (items_of ind d false c R R2 hw (fun q hq h5 => ((hN.nd q hq).2.2.2.2.2.2.2.2.2.1 h5).1))
  have HNK := hide hN
  have hcz : ((c : Int) == 0) = false := by rw [beq_eq_false_iff_ne]; omega
  have hml := mess_aft p.tail
  have hmll := mess_len (aftP p.tail)
  have HCON := hide (show contP ind p (itK (valP ind d) c R) = rowP [textP [91], nestP ind (innP 5 (itK (valP ind d) c R) p.tail), leafP 3, textP [93]] ++ [⟨8, [], 0⟩] by unfold contP; rw [if_neg (by omega), hk]; rfl)
  have zc : W.cell? ⟨w.heap.size, 6, none⟩ = some (.int .i64 c) := by rw [hW, ← hc]; simp [go_sem]
  have zt : W.cell? ⟨w.heap.size, 7, none⟩ = some (.slice ta p.tail.length tc) := by rw [hW]; simp [go_sem]
  have hNw := hN.wt
  rw [hc] at hW ⊢
  have Z := hide (show _ ∧ _ from ⟨zc, zt⟩)
  have HW := hide hW
  rw [hW] at HBL
  clear gW hs rt hpo IT hw hN zc zt hk hW
  go_enter Tryz.func83, Tryz.ntmps83
  go_wp2_with fail
  refine HBL.out.mono ?_
  rintro e w2 ⟨v2, rfl, o2, g2⟩
  have hW := HW.out
  rw [← hW] at o2 g2
  clear hW
  have HO2 := hide o2
  have HS2 := hide (HS.out.keep g2)
  have G2 := hide g2
  obtain ⟨ta2, tc2, hv2⟩ := o2.sl
  generalize hTL : (aftP p.tail).length = TL at hv2
  subst hv2
  have y6 := g2.cell Z.out.1 (by simp)
  have s2 := g2.size
  clear HBL o2 g2
  go_wp2_with fail
  refine (HLE.out w2).mono ?_
  rintro e w3 ⟨f3, caps3, rfl, hp3, g3⟩
  have hpo := pol_one g3 hp3
  have gA3 := World.grownBy_alloc w3 (Obj.cells #[.func (.func f3) #[] caps3] 51) none
  have HPO := hide hpo
  have G4 := hide (grown_trans g3 gA3)
  have HS4 := hide (HS2.out.keep (grown_trans g3 gA3))
  have y6' := gA3.cell (g3.cell y6 (by simp)) (by simp)
  clear hp3 hpo g3 gA3 y6
  go_wp2
  go_loopw [12, 48] (fun iv i U => ∃ (j : Nat) (nvj : Value), j ≤ c ∧ i = .int .i64 j ∧ PoL w2.heap.size U iv (leafP 3 :: itK (valP ind d) j R) ∧ Sx bs B ind m U nvj (restK (valP ind d) j R) ∧ w2.grownBy U (some bs))
    (fun _ i _ => c - (intOf i).toNat)
  case atStart => exact ⟨0, nv, Nat.zero_le _, rfl, HPO.out, HS4.out, grown_some G4.out⟩
  case round =>
    obtain ⟨j, nvj, hj, rfl, hpo, hsx, gU⟩ := hrel
    obtain ⟨hmj, ⟨P, hP⟩, hend, hnx⟩ := HIT.out j hj
    have hNj := HNK.out.sub hP
    have hln := mess_len (itK (valP ind d) j R)
    have sU := gU.size
    obtain ⟨ia, ic, hiv⟩ := hpo.sl
    generalize hLL : (leafP 3 :: itK (valP ind d) j R).length = LL at *
    have hLL2 : LL ≤ 2000001 := by rw [← hLL, List.length_cons]; omega
    have HPJ := hide hpo
    have HSJ := hide hsx
    have GU := hide gU
    subst hiv
    clear hpo hsx gU
    by_cases hjl : j < c
    · have hwk := hnx hjl
      have HIK := hide (show itK (valP ind d) (j + 1) R = itK (valP ind d) j R ++ ((if j = 0 then [] else [textP [44], leafP 2]) ++ itemP (valP ind d) (restK (valP ind d) j R)) from rfl)
      have hitl : (itemP (valP ind d) (restK (valP ind d) j R)).length ≤ 2000000 := by
        have h1 := (HIT.out (j + 1) (by omega)).1
        rw [HIK.out, mess_app, mess_app] at h1
        have h2 := mess_len (itemP (valP ind d) (restK (valP ind d) j R))
        omega
      have HIR : Hid (∀ (nv : Value) (U : World), Sx bs B ind m U nv (restK (valP ind d) j R) → _) := fun nv U h => HITM.out (restK (valP ind d) j R) _ false nv U h hNj hwk
      clear hnx hend hwk
      generalize hRN : restK (valP ind d) (j + 1) R = RN at *
      generalize hRJ : restK (valP ind d) j R = RJ at *
      have HRN := hide hRN
      clear hRN
      generalize hDI : itemP (valP ind d) RJ = di at *
      have HDI := hide hDI
      clear hDI
      by_cases hj0 : j = 0
      · subst hj0
        have HIX := hide (HIR.out nvj wr HSJ.out)
        go_wp2_with fail
        refine HIX.out.mono ?_
        rintro e w8 ⟨v8, nv8, rfl, o8, h8, g8⟩
        obtain ⟨F8, hF8, hp8⟩ := o8.pa
        obtain ⟨a8, c8, hv8⟩ := o8.sl
        have hbw : bs < w2.heap.size := by omega
        have oI := HPJ.out.row g8 hbw
        have swr := (GU.out).size
        have s8 := g8.size
        obtain ⟨v9, w9, run9, o9, g9⟩ := append_parts w2.heap.size w8 _ v8 _ _ F8 oI hp8 (fun k hk => ⟨by have := (hF8 k hk).1; omega, (hF8 k hk).2, fun e => by have h1 := (hF8 k hk).1; have h2 := (HPJ.out.lt k e).2; omega⟩) (by omega) (by have h5 := hLL; rw [h5]; omega)
        obtain ⟨a9, c9, hv9⟩ := o9.sl
        have hL9 : (leafP 3 :: itK (valP ind d) 0 R ++ di).length = LL + di.length := by rw [List.length_append, hLL]
        rw [hL9] at hv9
        have hoW : ∀ x, (Value.slice ia LL ic).ownBlock = some x → w2.heap.size ≤ x := fun x e => (HPJ.out.lt x e).1
        have HG9 := hide (grown_mix (grown_mix GU.out g8 (fun x e => by cases e; exact .inr rfl)) g9 (fun x e => .inl (hoW x e)))
        have hS9 : Sx bs B ind m w9 nv8 RN := sx_row h8 g9 (fun x e => by have := hoW x e; omega) (by omega) (by omega)
        have HS9 : Hid (Sx bs B ind m w9 nv8 (restK (valP ind d) (0 + 1) R)) := by unfold Hid; rw [HRN.out]; exact hS9
        have HO9 : Hid (PoL w2.heap.size w9 v9 (leafP 3 :: itK (valP ind d) (0 + 1) R)) := by
          unfold Hid
          rw [HIK.out]
          simpa [itK] using o9
        generalize di.length = DL at *
        subst hv8 hv9
        clear o8 o9 h8 g8 g9 hp8 oI hS9 HIX hoW
        go_wp2
        go_roundw
        case rel => exact ⟨0 + 1, nv8, by omega, by go_num, HO9.out, HS9.out, HG9.out⟩
        case measure => simp [intOf]; omega
      · have hjp : (0 : Int) < j := by omega
        go_wp2_with fail
        refine (HT3.out wr).mono ?_
        rintro e w5 ⟨f5, caps5, rfl, hp5, g5⟩
        have HP5 := hide hp5
        have G5 := hide g5
        clear hp5 g5
        go_wp2_with fail
        refine (HL2.out w5).mono ?_
        rintro e w6 ⟨f6, caps6, rfl, hp6, g6⟩
        have k5 := HP5.out.moreB (B := wr.heap.size) (Nat.le_refl _) g6
        have k6 := hp6.moreB (B := wr.heap.size) G5.out.size (World.grownBy.refl _ _)
        have g56 := grown_trans G5.out g6
        have hpr := pa_twoB g56.size k5 k6
        have gA := World.grownBy_alloc w6 (Obj.cells #[.func (.func f5) #[] caps5, .func (.func f6) #[] caps6] 51) none
        have s56 := g56.size
        obtain ⟨v7, w7, run7, o7, g7⟩ := append_parts w2.heap.size _ _ _ _ _ _ ((HPJ.out.keep g56).keep gA) hpr (fun k hk => ⟨by have := hk.1; omega, hk.2, fun e => by have h1 := hk.1; have h2 := (HPJ.out.lt k e).2; omega⟩) (by simp; omega) (by rw [hLL]; simp; omega)
        obtain ⟨a7, c7, hv7⟩ := o7.sl
        have hL7 : (leafP 3 :: itK (valP ind d) j R ++ [textP [44], leafP 2]).length = LL + 2 := by rw [List.length_append, hLL]; rfl
        rw [hL7] at hv7
        have HP7 := hide o7
        have hoU : ∀ x, (Value.slice ia LL ic).ownBlock = some x → w2.heap.size ≤ x := fun x e => (HPJ.out.lt x e).1
        have hbw : bs < w2.heap.size := by omega
        have G7 := hide (grown_mix (grown_mix GU.out (grown_trans g56 gA) (fun x e => by cases e)) g7 (fun x e => .inl (hoU x e)))
        have hS7 : Sx bs B ind m w7 nvj RJ := sx_row ((HSJ.out.keep g56).keep gA) g7 (fun x e => by have := hoU x e; omega) (by omega) (by omega)
        have HS7 := hide hS7
        have s7 := G7.out.size
        subst hv7
        clear o7 g7 hpr gA g56 k5 k6 HP5 hp6 g6 G5 hS7 HPJ hoU
        have HIX := hide (HIR.out nvj w7 HS7.out)
        go_wp2_with fail
        refine HIX.out.mono ?_
        rintro e w8 ⟨v8, nv8, rfl, o8, h8, g8⟩
        obtain ⟨F8, hF8, hp8⟩ := o8.pa
        obtain ⟨a8, c8, hv8⟩ := o8.sl
        have hbw : bs < w2.heap.size := by omega
        have oI := HP7.out.row g8 hbw
        have sw7 := (G7.out).size
        have s8 := g8.size
        obtain ⟨v9, w9, run9, o9, g9⟩ := append_parts w2.heap.size w8 _ v8 _ _ F8 oI hp8 (fun k hk => ⟨by have := (hF8 k hk).1; omega, (hF8 k hk).2, fun e => by have h1 := (hF8 k hk).1; have h2 := (HP7.out.lt k e).2; omega⟩) (by omega) (by have h5 := hL7; rw [h5]; omega)
        obtain ⟨a9, c9, hv9⟩ := o9.sl
        have hL9 : (leafP 3 :: itK (valP ind d) j R ++ [textP [44], leafP 2] ++ di).length = (LL + 2) + di.length := by rw [List.length_append, hL7]
        rw [hL9] at hv9
        have hoW : ∀ x, (Value.slice a7 (LL + 2) c7).ownBlock = some x → w2.heap.size ≤ x := fun x e => (HP7.out.lt x e).1
        have HG9 := hide (grown_mix (grown_mix G7.out g8 (fun x e => by cases e; exact .inr rfl)) g9 (fun x e => .inl (hoW x e)))
        have hS9 : Sx bs B ind m w9 nv8 RN := sx_row h8 g9 (fun x e => by have := hoW x e; omega) (by omega) (by omega)
        have HS9 : Hid (Sx bs B ind m w9 nv8 (restK (valP ind d) (j + 1) R)) := by unfold Hid; rw [HRN.out]; exact hS9
        have HO9 : Hid (PoL w2.heap.size w9 v9 (leafP 3 :: itK (valP ind d) (j + 1) R)) := by
          unfold Hid
          rw [HIK.out]
          simpa [hj0] using o9
        generalize di.length = DL at *
        subst hv8 hv9
        clear o8 o9 h8 g8 g9 hp8 oI hS9 HIX hoW
        go_wp2
        go_roundw
        case rel => exact ⟨j + 1, nv8, by omega, by go_num, HO9.out, HS9.out, HG9.out⟩
        case measure => simp [intOf]; omega
    · have hjc : j = c := by omega
      subst hjc
      have hR2 := hend rfl
      rw [hR2] at HSJ
      clear hnx hend HIT HITM hNj
      have HB0 := hide HPJ.out
      go_wp2_with fail
      refine (HT3.out wr).mono ?_
      rintro e w5 ⟨f5, caps5, rfl, hp5, g5⟩
      have HP5 := hide hp5
      have G5 := hide g5
      clear hp5 g5
      go_wp2_with fail
      refine (HL0.out w5).mono ?_
      rintro e w6 ⟨f6, caps6, rfl, hp6, g6⟩
      have k5 := HP5.out.moreB (B := wr.heap.size) (Nat.le_refl _) g6
      have k6 := hp6.moreB (B := wr.heap.size) G5.out.size (World.grownBy.refl _ _)
      have g56 := grown_trans G5.out g6
      have hpr := pa_twoB g56.size k5 k6
      have gA := World.grownBy_alloc w6 (Obj.cells #[.func (.func f5) #[] caps5, .func (.func f6) #[] caps6] 51) none
      have HOV := hide (overPart_any 9 0 _ _ _ _ hpr (fun k h => h.2) (by simp))
      have G6 := hide (grown_trans g56 gA)
      have s6 := G6.out.size
      clear hpr gA g56 k5 k6 HP5 hp6 g6 G5
      go_wp2_with fail
      refine HOV.out.mono ?_
      rintro e w7 ⟨f7, caps7, rfl, hp7, g7⟩
      have s7 := g7.size
      have k7 : PartAt w7 (fun k => wr.heap.size ≤ k ∧ k < w7.heap.size) f7 caps7 altP := hp7.at (fun k hk => hk.elim (fun h => ⟨h.1, by have := h.2; omega⟩) (fun h => ⟨by have := h.1; omega, h.2⟩)) (fun _ _ => rfl)
      have g67 := grown_trans G6.out g7
      have hpr := pa_oneB g67.size k7
      have gA := World.grownBy_alloc w7 (Obj.cells #[.func (.func f7) #[] caps7] 51) none
      have s67 := g67.size
      obtain ⟨v8, w8, run8, o8, g8⟩ := append_parts w2.heap.size _ _ _ _ _ _ ((HPJ.out.keep g67).keep gA) hpr (fun k hk => ⟨by have := hk.1; omega, hk.2, fun e => by have h1 := hk.1; have h2 := (HPJ.out.lt k e).2; omega⟩) (by simp; omega) (by rw [hLL]; simp; omega)
      obtain ⟨a8, c8, hv8⟩ := o8.sl
      have hL8 : (leafP 3 :: itK (valP ind d) j R ++ [altP]).length = LL + 1 := by rw [List.length_append, hLL]; rfl
      rw [hL8] at hv8
      have hbw : bs < w2.heap.size := by omega
      have hoU : ∀ x, (Value.slice ia LL ic).ownBlock = some x → w2.heap.size ≤ x := fun x e => (HPJ.out.lt x e).1
      have G8 := grown_mix (grown_mix GU.out (grown_trans g67 gA) (fun x e => by cases e)) g8 (fun x e => .inl (hoU x e))
      have hS8 : Sx bs B ind m w8 nvj R2 := sx_row ((HSJ.out.keep g67).keep gA) g8 (fun x e => by have := hoU x e; omega) (by omega) (by omega)
      -- the comments
      have oT := HO2.out.row G8 (by omega)
      obtain ⟨FT, hFT, hpT⟩ := HO2.out.pa
      have hpT8 : PaR w8 FT (.slice ta2 TL tc2) (aftP p.tail) := hpT.at (fun _ h => h) G8.size (fun k h => G8.block k (hFT k h).2 (fun e => by have h1 := (hFT k h).1; simp only [Option.some.injEq] at e; omega))
      have s8 := G8.size
      obtain ⟨v9, w9, run9, o9, g9⟩ := append_parts W.heap.size w8 v8 _ _ _ FT (o8.base s2) hpT8 (fun k hk => ⟨(hFT k hk).1, by have := (hFT k hk).2; omega, fun e => by have h1 := (hFT k hk).2; have h2 := (o8.lt k e).1; omega⟩) (by omega) (by rw [hL8, hTL]; omega)
      obtain ⟨a9, c9, hv9⟩ := o9.sl
      have hL9 : ((leafP 3 :: itK (valP ind d) j R ++ [altP]) ++ aftP p.tail).length = LL + 1 + TL := by rw [List.length_append, hL8, hTL]
      rw [hL9] at hv9
      have hov : ∀ x, v8.ownBlock = some x → w2.heap.size ≤ x := fun x e => (o8.lt x e).1
      have G9 := hide (grown_mix G8 g9 (fun x e => .inl (hov x e)))
      have hS9 : Sx bs B ind m w9 nvj R2 := sx_row hS8 g9 (fun x e => by have := hov x e; omega) (by omega) (by omega)
      have HS9 := hide hS9
      have hINN : (leafP 3 :: itK (valP ind d) j R ++ [altP]) ++ aftP p.tail = innP 5 (itK (valP ind d) j R) p.tail := by simp [innP, edgP]
      rw [hINN] at o9 hL9
      have HO9 := hide o9
      have hLN := hL9
      subst hv8 hv9
      clear o8 o9 g8 g9 hpr gA g67 k7 hp7 g7 G6 hS8 hS9 HPJ hoU hov oT hpT8 hpT G8 HOV HB0 hINN hL9
      obtain ⟨F9, hF9, hp9⟩ := HO9.out.pa
      have HF9 := hide hF9
      have HPA9 := hide hp9
      clear hF9 hp9
      have s9 := G9.out.size
      go_wp2_with fail
      refine (HT1.out w9).mono ?_
      rintro e p2 ⟨f2, caps2, rfl, hp2, g2⟩
      have HNS := hide (nest_any bs nvj ind _ _ F9 p2 (HS9.out.keep g2).shp (HPA9.out.at (fun _ h => h) g2.size (fun k h => g2.block k (HF9.out k h).2 (by simp))) (fun k h => Nat.lt_of_lt_of_le (HF9.out k h).2 g2.size) (by omega))
      have HP2 := hide hp2
      have G2' := hide g2
      clear hp2 g2 HT1
      go_wp2_with fail
      refine HNS.out.mono ?_
      rintro e p3 ⟨f3', caps3', rfl, hp3, g3⟩
      have HP3 := hide hp3
      have G3 := hide g3
      clear hp3 g3 HNS
      go_wp2_with fail
      refine (HLE.out p3).mono ?_
      rintro e p4 ⟨f4, caps4, rfl, hp4, g4⟩
      have HP4 := hide hp4
      have G4' := hide g4
      clear hp4 g4 HLE
      go_wp2_with fail
      refine (HT2.out p4).mono ?_
      rintro e p5 ⟨f5, caps5, rfl, hp5, g5⟩
      have t2 := G2'.out.size
      have t3 := G3.out.size
      have t4 := G4'.out.size
      have t5 := g5.size
      have g45 := grown_trans G4'.out g5
      have g35 := grown_trans G3.out g45
      have g25 := grown_trans G2'.out g35
      have k2 := HP2.out.moreB (B := w.heap.size) (by omega) g35
      have k3 : PartAt p5 (fun k => w.heap.size ≤ k ∧ k < p5.heap.size) f3' caps3' (nestP ind (innP 5 (itK (valP ind d) j R) p.tail)) := HP3.out.at (fun k hk => hk.elim (fun h => ⟨by have := (HF9.out k h).1; omega, by have := (HF9.out k h).2; omega⟩) (fun h => ⟨by have := h.1; omega, by have := h.2; omega⟩)) (fun k hk => g45.block k (hk.elim (fun h => by have := (HF9.out k h).2; omega) (fun h => h.2)) (by simp))
      have k4 := HP4.out.moreB (B := w.heap.size) (by omega) g5
      have k5 := hp5.moreB (B := w.heap.size) (by omega) (World.grownBy.refl _ _)
      have hpf := pa_fourB (B := w.heap.size) (by omega) k2 k3 k4 k5
      have HRW := hide (row_any _ _ _ _ hpf (fun k h => h.2) (by simp))
      have gA := World.grownBy_alloc p5 (Obj.cells #[.func (.func f2) #[] caps2, .func (.func f3') #[] caps3', .func (.func f4) #[] caps4, .func (.func f5) #[] caps5] 51) none
      have GA := hide (grown_trans g25 gA)
      have hsA : p5.heap.size + 1 = (p5.alloc (Obj.cells #[.func (.func f2) #[] caps2, .func (.func f3') #[] caps3', .func (.func f4) #[] caps4, .func (.func f5) #[] caps5] 51)).heap.size := by simp
      have HSA := hide hsA
      clear k2 k3 k4 k5 hpf HP2 HP3 HP4 hp5 g5 g45 g35 g25 gA hsA HPA9 HO9
      go_wp2_with fail
      refine HRW.out.mono ?_
      rintro e p6 ⟨f6, caps6, rfl, hp6, g6⟩
      have hA := HSA.out
      have t6 := g6.size
      have k6 : PartAt p6 (fun k => w.heap.size ≤ k ∧ k < p6.heap.size) f6 caps6 (rowP [textP [91], nestP ind (innP 5 (itK (valP ind d) j R) p.tail), leafP 3, textP [93]]) := hp6.at (fun k hk => hk.elim (fun h => ⟨h.1, by have := h.2; omega⟩) (fun h => ⟨by have := h.1; omega, h.2⟩)) (fun _ _ => rfl)
      have hpr := pa_oneB (B := w.heap.size) (by omega) k6
      have HOV := hide (overPart_any 8 0 _ _ _ _ hpr (fun k h => h.2) (by simp))
      have gB := World.grownBy_alloc p6 (Obj.cells #[.func (.func f6) #[] caps6] 51) none
      have GB := hide (grown_trans (grown_trans GA.out g6) gB)
      have hsB : p6.heap.size + 1 = (p6.alloc (Obj.cells #[.func (.func f6) #[] caps6] 51)).heap.size := by simp
      have HSB := hide hsB
      clear k6 hpr hp6 g6 gB HRW hsB hA
      go_wp2_with fail
      refine HOV.out.mono ?_
      rintro e p7 ⟨f7', caps7', rfl, hp7, g7⟩
      have HP7 := hide hp7
      have G7 := hide g7
      clear HOV hp7 g7
      go_wp2
      go_ret
      have t7 := G7.out.size
      have hBs := HSB.out
      have hAs := HSA.out
      refine ⟨f7', caps7', nvj, rfl, ?_, (HS9.out.keep GB.out).keep G7.out, ?_⟩
      · rw [HCON.out]
        have hfin := HP7.out
        rw [show [rowP [textP [91], nestP ind (innP 5 (itK (valP ind d) j R) p.tail), leafP 3, textP [93]]].flatten ++ [(⟨8, [], 0⟩ : Pc)] = rowP [textP [91], nestP ind (innP 5 (itK (valP ind d) j R) p.tail), leafP 3, textP [93]] ++ [⟨8, [], 0⟩] by simp] at hfin
        exact hfin.at (fun k hk => hk.elim (fun h => ⟨h.1, by have := h.2; omega⟩) (fun h => ⟨by have := h.1; omega, h.2⟩)) (fun _ _ => rfl)
      · have h1 := grown_mix (grown_some (r := some bs) (grown_trans HG.out G2.out)) G9.out (fun x e => by cases e; exact .inr rfl)
        exact grown_mix h1 (grown_trans GB.out G7.out) (fun x e => by cases e)
end Go.Proofs.YtalkhnhhaiigiaaGreatDoor

