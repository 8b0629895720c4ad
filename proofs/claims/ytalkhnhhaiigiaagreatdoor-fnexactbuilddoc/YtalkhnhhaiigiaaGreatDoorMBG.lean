import Derived.Test.YtalkhnhhaiigiaaGreatDoorMBE
namespace Go.Proofs.YtalkhnhhaiigiaaGreatDoor
open Go.RowKit
attribute [-go_sem] Builtin.append_

set_option maxHeartbeats 4000000 in
set_option maxRecDepth 100000 in
theorem l6value_list6 (t : Tre) (ind : Int) (hD : DocOk t) (d : Nat) (hd : d ≤ 202) (IH : ∀ (j : Nat) (R2 : List Nod) (m : Bool) (nv tv : Value) (w : World), j < t.nodes.length → walkL triv d m (t.nodes.drop j, ()) = some (R2, ()) → RdT' w.heap.size w nv tv t →
      Calls Tryz.prog 38 #[.agg #[nv, tv], .int .i64 j, .int .i64 ind] w fun e w' => ∃ v', e = .returned v' ∧ PoR w.heap.size w' v' (valP ind d (t.nodes.drop j)).1 ∧ w.grownBy w' none)
    (i : Nat) (hi : i < t.nodes.length) (hk : t.nodes[i].k = 6) (hc0 : 0 < t.nodes[i].cnt) (R2 : List Nod) (hw : loopN (walkL triv d true) t.nodes[i].cnt.toNat (t.nodes.drop (i + 1), ()) = some (R2, ())) (nv tv : Value) (w : World) (hv : RdT' w.heap.size w nv tv t) :
    Calls Tryz.prog 38 #[.agg #[nv, tv], .int .i64 i, .int .i64 ind] w fun e w' => ∃ v', e = .returned v' ∧ PoR w.heap.size w' v' (contP ind t.nodes[i] (itK (valP ind d) t.nodes[i].cnt.toNat (t.nodes.drop (i + 1)))) ∧ w.grownBy w' none := by
  have HIT := hide (items_at t ind d true (i + 1) t.nodes[i].cnt.toNat R2 hw (fun p hp h5 => ((hD.nd p hp).2.2.2.2.2.2.2.2.2.1 h5).1))
  have HNM : Hid (∀ a, a < t.nodes.length → ∀ R3, walkL triv d true (t.nodes.drop a, ()) = some (R3, ()) → ∀ h : a < t.nodes.length, t.nodes[a].mem = true) := fun a ha R3 h3 h => walk_mem t d true a R3 h3 h
  have HV := hide hv
  have HIH := hide IH
  have hlenN := hD.len
  clear hw IH
  obtain ⟨hvn, hvt⟩ := id hv
  have HD := hide hD
  obtain ⟨na, ncap, hn0, _⟩ := id hvn
  obtain ⟨ta, tcap, ht0, _⟩ := id hvt
  obtain ⟨b, off, cap', lv, kv, xv, uv, qv, hva, hb0, hp⟩ := hvn.at i hi
  have hwt := Nat.le_trans (wNs_mem _ _ (List.getElem_mem hi)) hD.wt
  have hcn := hD.cn _ (List.getElem_mem hi)
  have hwtt : wC t.nodes[i].tail ≤ 2000000 := by have := hwt; unfold wN at this; omega
  have z0 := hp.k; have z1 := hp.lead; have z2 := hp.mem; have z3 := hp.key; have z4 := hp.text; have z5 := hp.units; have z6 := hp.cnt; have z7 := hp.tail
  have HRT := hide hp.rt
  obtain ⟨la, lcap, hlv, _, _⟩ := hp.rl.sl
  obtain ⟨qa, qcap, hqv, _, _⟩ := hp.rt.sl
  obtain ⟨ka, kcap, hkv, _, _⟩ := hp.sk
  obtain ⟨xa, xcap, hxv, _, _⟩ := hp.sx
  obtain ⟨ua, ucap, huv, _, _⟩ := hp.su
  subst hlv hqv hkv hxv huv hva ht0
  cases hn0
  clear hvn hvt hv hp
  generalize t.nodes[i] = p at *
  obtain ⟨wA, hwA⟩ : ∃ wA, wA = w.alloc (Obj.cells #[.slice (some ⟨b, off, none⟩) t.nodes.length ncap, .slice ta t.tail.length tcap] 33) := ⟨_, rfl⟩
  have gA : w.grownBy wA none := by rw [hwA]; exact World.grownBy_alloc _ _ _
  have z0' := gA.cell z0 (by simp); have z1' := gA.cell z1 (by simp); have z2' := gA.cell z2 (by simp); have z3' := gA.cell z3 (by simp); have z4' := gA.cell z4 (by simp); have z5' := gA.cell z5 (by simp); have z6' := gA.cell z6 (by simp); have z7' := gA.cell z7 (by simp)
  have sA : wA.heap.size = w.heap.size + 1 := by rw [hwA]; simp
  clear z0 z1 z2 z3 z4 z5 z6 z7
  rw [hk] at z0'
  obtain ⟨c, hc⟩ : ∃ c : Nat, p.cnt = (c : Int) := ⟨p.cnt.toNat, by omega⟩
  have hcc : p.cnt.toNat = c := by omega
  rw [hcc] at HIT ⊢
  rw [hc] at z6' hcn hc0
  have hc1 : 0 < c := by omega
  have hce : ((c : Int) == 0) = false := by simp; omega
  have HCON := hide (show contP ind p (itK (valP ind d) c (t.nodes.drop (i + 1))) = rowP [textP [123], nestP ind (innP 6 (itK (valP ind d) c (t.nodes.drop (i + 1))) p.tail), leafP 2, textP [125]] ++ [⟨8, [], 0⟩] by unfold contP; rw [if_neg (by omega), hk]; rfl)
  obtain ⟨W3, hW3⟩ : ∃ W3, W3 = (wA.alloc (Obj.cells #[.int .i64 6, .slice la p.lead.length lcap, .bool p.mem, .slice ka p.key.length kcap, .slice xa p.text.length xcap, .slice ua p.units.length ucap, .int .i64 c, .slice qa p.tail.length qcap] 75)).alloc (Obj.cells #[.string { data := #[110, 117, 108, 108] }, .string { data := #[116, 114, 117, 101] }, .string { data := #[102, 97, 108, 115, 101] }] 9) := ⟨_, rfl⟩
  have gg : w.grownBy W3 none := by rw [hW3]; exact grown_trans gA (grown_trans (World.grownBy_alloc _ _ _) (World.grownBy_alloc _ _ _))
  have sW3 : W3.heap.size = w.heap.size + 3 := by rw [hW3]; simp [sA]
  have GG := hide gg
  have y0 : W3.cell? ⟨w.heap.size, 0, none⟩ = some (.slice (some ⟨b, off, none⟩) t.nodes.length ncap) := by rw [hW3, hwA]; simp [go_sem]
  have y1 : W3.cell? ⟨w.heap.size, 1, none⟩ = some (.slice ta t.tail.length tcap) := by rw [hW3, hwA]; simp [go_sem]
  have y6 : W3.cell? ⟨w.heap.size + 1, 6, none⟩ = some (.int .i64 c) := by rw [hW3, ← sA]; simp [go_sem]
  have y7 : W3.cell? ⟨w.heap.size + 1, 7, none⟩ = some (.slice qa p.tail.length qcap) := by rw [hW3, ← sA]; simp [go_sem]
  have Y := hide (show _ ∧ _ ∧ _ ∧ _ from ⟨y0, y1, y6, y7⟩)
  have HT1 : Hid (∀ W : World, _) := fun W => l2text_any [123] (by intro z hz; simp at hz; omega) (by simp) W
  have HT2 : Hid (∀ W : World, _) := fun W => l2text_any [125] (by intro z hz; simp at hz; omega) (by simp) W
  have HT3 : Hid (∀ W : World, _) := fun W => l2text_any [44] (by intro z hz; simp at hz; omega) (by simp) W
  have HLE : Hid (∀ W : World, _) := fun W => l2leaf_any 2 W
  have HL0 : Hid (∀ W : World, _) := fun W => l2leaf_any 0 W
  have HL2 : Hid (∀ W : World, _) := fun W => l2leaf_any 2 W
  have HRT' := hide ((HRT.out.keep gg).wide gg.size)
  have hma := mess_aft p.tail
  have HMT := hide hwtt
  have HX := hide (HLE.out W3)
  have hpk := hk
  clear gA gg HRT hwtt hwt y0 y1 y6 y7 hc hcc
  subst hwA
  have HW3 := hide hW3
  rw [hW3] at HX
  clear hW3
  go_enter Tryz.func38, Tryz.ntmps38
  go_wp2_with fail
  refine HX.out.mono ?_
  rintro e w4 ⟨v4, rfl, o4, g4⟩
  have hW3 := HW3.out
  rw [← hW3] at o4 g4
  clear hW3
  obtain ⟨v5, w5, run5, o5, g5, _, ⟨a5, c5, hv5⟩, _⟩ := (DoR.nil W3.heap.size W3).push g4 o4 (Nat.le_refl _) (by simp)
  obtain ⟨a4, c4, hv4, _, _⟩ := o4.sl
  have G5 : Hid (Below W3.heap.size W3 w5) := below_of_grown (grown_new (World.grownBy.refl _ _) g5 (fun j e => by cases e))
  have HO5 := hide o5
  simp only [leafP, List.length_singleton] at hv4
  subst hv4 hv5
  clear HX o4 o5 g4 g5 z0' z1' z2' z3' z4' z5' z6' z7'
  go_wp2
  go_loopw [14, 16, 17] (fun r at' k W => ∃ (j : Nat), j ≤ c ∧ k = .int .i64 j ∧ at' = .int .i64 ((t.nodes.length - (restK (valP ind d) j (t.nodes.drop (i + 1))).length : Nat) : Int) ∧ DoR W3.heap.size W r (leafP 2 :: itK (valP ind d) j (t.nodes.drop (i + 1))) ∧ Below W3.heap.size W3 W)
    (fun _ _ k _ => c - (intOf k).toNat)
  case atStart =>
    refine ⟨0, Nat.zero_le _, rfl, ?_, HO5.out, G5.out⟩
    simp only [restK, List.length_drop]
    congr 1
    omega
  case round =>
    obtain ⟨j, hj, rfl, rfl, ho, hbel⟩ := hrel
    obtain ⟨a, ha, hra, hae, hmj, hnx⟩ := HIT.out j hj
    have hDw := HD.out.wt
    rw [← hae]
    clear hae
    have hln := mess_len (itK (valP ind d) j (t.nodes.drop (i + 1)))
    have hsz := hbel.size
    obtain ⟨y0, y1, y6, y7⟩ := Y.out
    have x0 : wr.cell? ⟨w.heap.size, 0, none⟩ = some (.slice (some ⟨b, off, none⟩) t.nodes.length ncap) := by rw [hbel.cell (by simp; omega)]; exact y0
    have x1 : wr.cell? ⟨w.heap.size, 1, none⟩ = some (.slice ta t.tail.length tcap) := by rw [hbel.cell (by simp; omega)]; exact y1
    have x6 : wr.cell? ⟨w.heap.size + 1, 6, none⟩ = some (.int .i64 c) := by rw [hbel.cell (by simp; omega)]; exact y6
    have x7 : wr.cell? ⟨w.heap.size + 1, 7, none⟩ = some (.slice qa p.tail.length qcap) := by rw [hbel.cell (by simp; omega)]; exact y7
    clear y0 y1 y6 y7
    have HO := hide ho
    have HB := hide hbel
    obtain ⟨ra, rc, hrv, _, _⟩ := ho.sl
    generalize hLL : (leafP 2 :: itK (valP ind d) j (t.nodes.drop (i + 1))).length = LL at *
    have hLL2 : LL ≤ 2000001 := by rw [← hLL, List.length_cons]; omega
    subst hrv
    clear ho hbel
    by_cases hlt : j < c
    · obtain ⟨hal, hwk⟩ := hnx hlt
      obtain ⟨b', off', cap'', lv, kv, xv, uv, qv, hva, hb0', hq⟩ := HV.out.1.at a hal
      cases hva
      have hmem := HNM.out a hal _ hwk hal
      have hwa := Nat.le_trans (wNs_mem _ _ (List.getElem_mem hal)) hDw
      have hwl : wC t.nodes[a].lead ≤ 2000000 := by have := hwa; unfold wN at this; omega
      have hkl : 6 * t.nodes[a].key.length ≤ 2000000 := by have := hwa; unfold wN at this; omega
      have hkey := key_len t.nodes[a].key
      have gw3 := GG.out
      have HRL : Hid (RdC W3.heap.size W3 lv t.nodes[a].lead) := (hq.rl.keep gw3).wide gw3.size
      have HRK : Hid (RdI W3.heap.size W3 kv t.nodes[a].key) := (hq.rk.keep gw3).wideC gw3.size
      have q1 := gw3.cell hq.lead (by simp)
      have q2 := gw3.cell hq.mem (by simp)
      have q3 := gw3.cell hq.key (by simp)
      have hbs : b < W3.heap.size := by omega
      obtain ⟨la', lcap', hlv, _, _⟩ := hq.rl.sl
      obtain ⟨ka', kcap', hkv, _, _⟩ := hq.sk
      rw [hmem] at q2
      have hdr : t.nodes.drop a = t.nodes[a] :: t.nodes.drop (a + 1) := List.drop_eq_getElem_cons hal
      have HITM := hide (show itemP (valP ind d) (restK (valP ind d) j (t.nodes.drop (i + 1))) = befP t.nodes[a].lead ++ (keyP t.nodes[a] ++ [(valP ind d (t.nodes.drop a)).1]) by rw [hra, hdr]; rfl)
      have HKP := hide (show keyP t.nodes[a] = [textP (keyB t.nodes[a].key ++ [58, 32])] by unfold keyP; rw [hmem]; rfl)
      have HRD : Hid (∀ W : World, Below W3.heap.size W3 W → RdT' W.heap.size W (.slice (some ⟨b, off, none⟩) t.nodes.length ncap) (.slice ta t.tail.length tcap) t) := fun W g => rdT_below (HV.out.1.keep gw3) (HV.out.2.keep gw3) gw3.size g
      have HVAL : Hid (∀ W : World, Below W3.heap.size W3 W → _) := fun W (g : Below W3.heap.size W3 W) => HIH.out a _ true _ _ W hal hwk (HRD.out W g)
      have HNXT : Hid (∀ W : World, Below W3.heap.size W3 W → _) := fun W (g : Below W3.heap.size W3 W) => l5next_any t (by omega) (fun p hp h5 => ((HD.out.nd p hp).2.2.2.2.2.2.2.2.2.1 h5).1) HD.out.cn d a true _ hd hal hwk _ _ W (HRD.out W g)
      subst hlv hkv
      have hlD := mess_bef t.nodes[a].lead
      have hmlD := mess_len (befP t.nodes[a].lead)
      have HWA := hide (show ∀ W : World, Below W3.heap.size W3 W → W.cell? ⟨b, off + a * 8 + 1, none⟩ = some (.slice la' t.nodes[a].lead.length lcap') ∧ W.cell? ⟨b, off + a * 8 + 2, none⟩ = some (.bool true) ∧ W.cell? ⟨b, off + a * 8 + 3, none⟩ = some (.slice ka' t.nodes[a].key.length kcap') ∧ W.cell? ⟨w.heap.size, 0, none⟩ = some (.slice (some ⟨b, off, none⟩) t.nodes.length ncap) ∧ W.cell? ⟨w.heap.size, 1, none⟩ = some (.slice ta t.tail.length tcap) from
        fun W g => ⟨by rw [g.cell (by simpa using hbs)]; exact q1, by rw [g.cell (by simpa using hbs)]; exact q2, by rw [g.cell (by simpa using hbs)]; exact q3, by rw [g.cell (by simp; omega)]; exact Y.out.1, by rw [g.cell (by simp; omega)]; exact Y.out.2.1⟩)
      have HIK := hide (show itK (valP ind d) (j + 1) (t.nodes.drop (i + 1)) = itK (valP ind d) j (t.nodes.drop (i + 1)) ++ ((if j = 0 then [] else [textP [44], leafP 2]) ++ itemP (valP ind d) (restK (valP ind d) j (t.nodes.drop (i + 1)))) from rfl)
      clear hq q1 q2 q3 hwk hnx hdr hwa hmem hra
      generalize t.nodes[a] = nd at *
      generalize (valP ind d (t.nodes.drop a)).1 = vd at *
      generalize hRN : restK (valP ind d) (j + 1) (t.nodes.drop (i + 1)) = RN at *
      have HRN := hide hRN
      clear hRN
      by_cases hj0 : j = 0
      · subst hj0
        have HB0 := HB
        have hDSS := hide (show leafP 2 :: itK (valP ind d) 0 (t.nodes.drop (i + 1)) = [leafP 2] from rfl)
        obtain ⟨u1, u2, u3, _, _⟩ := HWA.out wr HB.out
        have HBF := hide (l6before_any _ _ _ nd.lead W3.heap.size wr HO.out hsz (rdC_below HRL.out HB.out) (by omega) (by omega))
        go_wp2_with fail
        refine HBF.out.mono ?_
        rintro e p5 ⟨v5', rfl, o5', b5⟩
        have HB5 := hide (HB.out.trans b5)
        have hsz5 := HB5.out.size
        have HO5' := hide o5'
        obtain ⟨a5', c5', hv5', _, _⟩ := o5'.sl
        have hL5 : (leafP 2 :: itK (valP ind d) 0 (t.nodes.drop (i + 1)) ++ befP nd.lead).length ≤ 5000000 := by rw [List.length_append]; have := hLL2; omega
        generalize hLL5 : (leafP 2 :: itK (valP ind d) 0 (t.nodes.drop (i + 1)) ++ befP nd.lead).length = L5 at *
        subst hv5'
        obtain ⟨u1', u2', u3', x0', x1'⟩ := HWA.out p5 HB5.out
        clear o5' b5 HBF HO
        have HK := hide (l6key_any _ _ p5 (rdB_below HRK.out HB5.out (Nat.le_refl _)) (by omega))
        go_wp2_with fail
        refine HK.out.mono ?_
        rintro e p6 ⟨v6, rfl, o6, g6⟩
        obtain ⟨v7, p7, run7, o7, g7⟩ := bw_str p5.heap.size p6 v6 _ [58, 32] o6 (by intro z hz; simp at hz; omega) (by simp) g6.size (by simp; omega)
        rw [show strOfNums [58, 32] = { data := #[58, 32] } by rfl] at run7
        have G7 := hide (grown_new g6 g7 (fun x e => (o6.lt x e).1))
        have HTX := hide (l6text_any v7 _ p7 o7.rd (by simp; omega))
        obtain ⟨a6, c6, hv6, _, _⟩ := o6.sl
        obtain ⟨a7, c7, hv7, _, _⟩ := o7.sl
        have hl7 : (keyB nd.key ++ ([58, 32] : List Int)).length = (keyB nd.key).length + 2 := by simp
        rw [hl7] at hv7
        generalize hKL : (keyB nd.key).length = KL at *
        subst hv6 hv7
        clear o6 o7 g6 g7 HK hl7 u1' u2' u3' x0' x1'
        go_wp2_with fail
        refine HTX.out.mono ?_
        rintro e p8 ⟨v8, rfl, o8, g8⟩
        obtain ⟨v9, p9, run9, o9, g9, _, ⟨a9, c9, hv9⟩, _⟩ := HO5'.out.push (grown_trans G7.out g8) (o8.base G7.out.size) hsz5 (by omega)
        obtain ⟨a8, c8, hv8, _, _⟩ := o8.sl
        simp only [textP, List.length_singleton] at hv8
        have hb9 : Below W3.heap.size p5 p9 := (Below.refl _ _).grown g9 hsz5 (fun x e => (HO5'.out.lt x e).1)
        have HB9 := hide (HB5.out.trans hb9)
        have hsz9 := HB9.out.size
        have HO9 := hide o9
        rw [hLL5] at hv9
        subst hv8 hv9
        clear o8 o9 g8 g9 hb9 G7 HTX HO5'
        obtain ⟨u1', u2', u3', x0', x1'⟩ := HWA.out p9 HB9.out
        have HVA := hide (HVAL.out p9 HB9.out)
        go_wp2_with fail
        refine HVA.out.mono ?_
        rintro e p10 ⟨v10, rfl, o10, g10⟩
        obtain ⟨v11, p11, run11, o11, g11, _, ⟨a11, c11, hv11⟩, _⟩ := HO9.out.push g10 o10 hsz9 (by rw [List.length_append, hLL5]; simp; omega)
        obtain ⟨a10, c10, hv10, _, _⟩ := o10.sl
        have hb11 : Below W3.heap.size p9 p11 := (Below.refl _ _).grown g11 hsz9 (fun x e => (HO9.out.lt x e).1)
        have HB11 := hide (HB9.out.trans hb11)
        have hsz11 := HB11.out.size
        have HO11 := hide o11
        rw [List.length_append, hLL5, List.length_singleton] at hv11
        generalize vd.length = VL at hv10
        subst hv10 hv11
        clear o10 o11 g10 g11 hb11 HVA HO9 u1' u2' u3' x0' x1'
        obtain ⟨u1', u2', u3', x0', x1'⟩ := HWA.out p11 HB11.out
        have HNX := hide (HNXT.out p11 HB11.out)
        go_wp2_with fail
        refine HNX.out.mono ?_
        rintro e p12 ⟨rfl, g12⟩
        have HB12 := hide (HB11.out.grown g12 hsz11 (fun x e => by cases e))
        have HO12 : Hid (DoR W3.heap.size p12 (.slice a11 (L5 + 1 + 1) c11) (leafP 2 :: itK (valP ind d) (0 + 1) (t.nodes.drop (i + 1)))) := by
          unfold Hid
          rw [HIK.out, HITM.out, HKP.out]
          have hfin := HO11.out.keep g12
          simpa [itK] using hfin
        clear HO11 HNX g12 u1' u2' u3' x0' x1'
        go_wp2
        go_roundw
        case rel => exact ⟨0 + 1, by omega, by go_num, by rw [HRN.out], HO12.out, HB12.out⟩
        case measure => simp [intOf]; omega
      · have hjp : (0 : Int) < j := by omega
        go_wp2_with fail
        refine (HT3.out _).mono ?_
        rintro e w1 ⟨v1, rfl, o1, g1⟩
        obtain ⟨v2, w2, run2, o2, g2, _, ⟨a2, c2, hv2⟩, _⟩ := HO.out.push g1 o1 hsz (by omega)
        obtain ⟨a1, c1, hv1, _, _⟩ := o1.sl
        have hb2 : Below W3.heap.size wr w2 := (Below.refl _ _).grown g2 hsz (fun x e => (HO.out.lt x e).1)
        have HB2 := hide (HB.out.trans hb2)
        have hsz2 := HB2.out.size
        have HO2 := hide o2
        simp only [textP, List.length_singleton] at hv1
        rw [hLL] at hv2
        subst hv1 hv2
        clear o1 o2 g1 g2 hb2 x0 x1 x6 x7
        go_wp2_with fail
        refine (HL2.out _).mono ?_
        rintro e w3 ⟨v3, rfl, o3, g3⟩
        obtain ⟨v4, w4', run4, o4, g4, _, ⟨a4, c4, hv4⟩, _⟩ := HO2.out.push g3 o3 hsz2 (by rw [List.length_append, hLL]; simp; omega)
        obtain ⟨a3, c3, hv3, _, _⟩ := o3.sl
        have hb4 : Below W3.heap.size w2 w4' := (Below.refl _ _).grown g4 hsz2 (fun x e => (HO2.out.lt x e).1)
        have HB4 := hide (HB2.out.trans hb4)
        have hsz4 := HB4.out.size
        have HO4 := hide o4
        simp only [leafP, List.length_singleton] at hv3
        rw [List.length_append, hLL, List.length_singleton] at hv4
        subst hv3 hv4
        clear o3 o4 g3 g4 hb4 HO HO2
        obtain ⟨u1, u2, u3, x0, x1⟩ := HWA.out w4' HB4.out
        have hLX : (leafP 2 :: itK (valP ind d) j (t.nodes.drop (i + 1)) ++ [textP [44]] ++ [leafP 2]).length ≤ 2000003 := by rw [List.length_append, List.length_append, hLL]; simp; omega
        have HBF := hide (l6before_any _ _ _ nd.lead W3.heap.size w4' HO4.out hsz4 (rdC_below HRL.out HB4.out) (by omega) (by rw [List.length_append, List.length_append, hLL]; simp; omega))
        go_wp2_with fail
        refine HBF.out.mono ?_
        rintro e p5 ⟨v5', rfl, o5', b5⟩
        have HB5 := hide (HB4.out.trans b5)
        have hsz5 := HB5.out.size
        have HO5' := hide o5'
        obtain ⟨a5', c5', hv5', _, _⟩ := o5'.sl
        have hL5 : (leafP 2 :: itK (valP ind d) j (t.nodes.drop (i + 1)) ++ [textP [44]] ++ [leafP 2] ++ befP nd.lead).length ≤ 5000000 := by rw [List.length_append]; have := hLX; omega
        generalize hLL5 : (leafP 2 :: itK (valP ind d) j (t.nodes.drop (i + 1)) ++ [textP [44]] ++ [leafP 2] ++ befP nd.lead).length = L5 at *
        subst hv5'
        obtain ⟨u1', u2', u3', x0', x1'⟩ := HWA.out p5 HB5.out
        clear o5' b5 HBF HO4
        have HK := hide (l6key_any _ _ p5 (rdB_below HRK.out HB5.out (Nat.le_refl _)) (by omega))
        go_wp2_with fail
        refine HK.out.mono ?_
        rintro e p6 ⟨v6, rfl, o6, g6⟩
        obtain ⟨v7, p7, run7, o7, g7⟩ := bw_str p5.heap.size p6 v6 _ [58, 32] o6 (by intro z hz; simp at hz; omega) (by simp) g6.size (by simp; omega)
        rw [show strOfNums [58, 32] = { data := #[58, 32] } by rfl] at run7
        have G7 := hide (grown_new g6 g7 (fun x e => (o6.lt x e).1))
        have HTX := hide (l6text_any v7 _ p7 o7.rd (by simp; omega))
        obtain ⟨a6, c6, hv6, _, _⟩ := o6.sl
        obtain ⟨a7, c7, hv7, _, _⟩ := o7.sl
        have hl7 : (keyB nd.key ++ ([58, 32] : List Int)).length = (keyB nd.key).length + 2 := by simp
        rw [hl7] at hv7
        generalize hKL : (keyB nd.key).length = KL at *
        subst hv6 hv7
        clear o6 o7 g6 g7 HK hl7 u1' u2' u3' x0' x1'
        go_wp2_with fail
        refine HTX.out.mono ?_
        rintro e p8 ⟨v8, rfl, o8, g8⟩
        obtain ⟨v9, p9, run9, o9, g9, _, ⟨a9, c9, hv9⟩, _⟩ := HO5'.out.push (grown_trans G7.out g8) (o8.base G7.out.size) hsz5 (by omega)
        obtain ⟨a8, c8, hv8, _, _⟩ := o8.sl
        simp only [textP, List.length_singleton] at hv8
        have hb9 : Below W3.heap.size p5 p9 := (Below.refl _ _).grown g9 hsz5 (fun x e => (HO5'.out.lt x e).1)
        have HB9 := hide (HB5.out.trans hb9)
        have hsz9 := HB9.out.size
        have HO9 := hide o9
        rw [hLL5] at hv9
        subst hv8 hv9
        clear o8 o9 g8 g9 hb9 G7 HTX HO5'
        obtain ⟨u1', u2', u3', x0', x1'⟩ := HWA.out p9 HB9.out
        have HVA := hide (HVAL.out p9 HB9.out)
        go_wp2_with fail
        refine HVA.out.mono ?_
        rintro e p10 ⟨v10, rfl, o10, g10⟩
        obtain ⟨v11, p11, run11, o11, g11, _, ⟨a11, c11, hv11⟩, _⟩ := HO9.out.push g10 o10 hsz9 (by rw [List.length_append, hLL5]; simp; omega)
        obtain ⟨a10, c10, hv10, _, _⟩ := o10.sl
        have hb11 : Below W3.heap.size p9 p11 := (Below.refl _ _).grown g11 hsz9 (fun x e => (HO9.out.lt x e).1)
        have HB11 := hide (HB9.out.trans hb11)
        have hsz11 := HB11.out.size
        have HO11 := hide o11
        rw [List.length_append, hLL5, List.length_singleton] at hv11
        generalize vd.length = VL at hv10
        subst hv10 hv11
        clear o10 o11 g10 g11 hb11 HVA HO9 u1' u2' u3' x0' x1'
        obtain ⟨u1', u2', u3', x0', x1'⟩ := HWA.out p11 HB11.out
        have HNX := hide (HNXT.out p11 HB11.out)
        go_wp2_with fail
        refine HNX.out.mono ?_
        rintro e p12 ⟨rfl, g12⟩
        have HB12 := hide (HB11.out.grown g12 hsz11 (fun x e => by cases e))
        have HO12 : Hid (DoR W3.heap.size p12 (.slice a11 (L5 + 1 + 1) c11) (leafP 2 :: itK (valP ind d) (j + 1) (t.nodes.drop (i + 1)))) := by
          unfold Hid
          rw [HIK.out, HITM.out, HKP.out]
          have hfin := HO11.out.keep g12
          simpa [hj0] using hfin
        clear HO11 HNX g12 u1' u2' u3' x0' x1'
        go_wp2
        go_roundw
        case rel => exact ⟨j + 1, by omega, by go_num, by rw [HRN.out], HO12.out, HB12.out⟩
        case measure => simp [intOf]; omega
    · have hjc : j = c := by omega
      subst hjc
      clear hnx HNM HIT
      have HB0 := hide HB.out
      go_wp2_with fail
      refine (HT3.out _).mono ?_
      rintro e w1 ⟨v1, rfl, o1, g1⟩
      have HO1 := hide o1
      have G1 := hide g1
      obtain ⟨a1, c1, hv1, _, _⟩ := o1.sl
      simp only [textP, List.length_singleton] at hv1
      subst hv1
      clear o1 g1 x0 x1 x6
      go_wp2_with fail
      refine (HL0.out _).mono ?_
      rintro e w2 ⟨v2, rfl, o2, g2⟩
      have HBN := hide (l2bin_any 9 _ v2 _ _ wr.heap.size w2 (HO1.out.keep g2).pi (o2.base G1.out.size).pi (by simp [textP, mes]) (by simp [leafP, mes]))
      have G2 := hide (grown_trans G1.out g2)
      obtain ⟨a2, c2, hv2, _, _⟩ := o2.sl
      simp only [leafP, List.length_singleton] at hv2
      subst hv2
      clear o2 g2 HO1 G1
      go_wp2_with fail
      refine HBN.out.mono ?_
      rintro e w3 ⟨v3, rfl, o3, g3⟩
      obtain ⟨v4, w4', run4, o4, g4, _, ⟨a4, c4, hv4⟩, _⟩ := HO.out.push (grown_trans G2.out g3) (o3.base G2.out.size) hsz (by omega)
      obtain ⟨a3, c3, hv3, _, _⟩ := o3.sl
      have hb4 : Below W3.heap.size wr w4' := (Below.refl _ _).grown g4 hsz (fun x e => (HO.out.lt x e).1)
      have HB4 := hide (HB.out.trans hb4)
      have hsz4 := HB4.out.size
      have x7' : w4'.cell? ⟨w.heap.size + 1, 7, none⟩ = some (.slice qa p.tail.length qcap) := by rw [hb4.cell (by simp; omega)]; exact x7
      have HAF := hide (l6after_any _ _ _ p.tail W3.heap.size w4' o4 hsz4 (rdC_below HRT'.out HB4.out) (by have := HMT.out; omega) (by rw [List.length_append, hLL]; simp; omega))
      rw [hLL] at hv4
      simp only [textP, leafP, List.length_append, List.length_cons, List.length_nil] at hv3
      subst hv3 hv4
      clear o3 o4 g3 g4 hb4 G2 HBN HO x7
      go_wp2_with fail
      refine HAF.out.mono ?_
      rintro e p5 ⟨v5', rfl, o5', b5⟩
      have HB5 := hide (HB4.out.trans b5)
      have hsz5 := HB5.out.size
      have HINN := hide (show (leafP 2 :: itK (valP ind d) j (t.nodes.drop (i + 1))) ++ [textP [44] ++ leafP 0 ++ [(⟨9, [], 0⟩ : Pc)]] ++ aftP p.tail = innP 6 (itK (valP ind d) j (t.nodes.drop (i + 1))) p.tail by simp [innP, altP, textP, leafP, edgP])
      have hminn : mess (innP 6 (itK (valP ind d) j (t.nodes.drop (i + 1))) p.tail) ≤ 4100000 := by
        have := HMT.out
        simp only [innP, mess, mess_app, leafP, altP, mes, List.length_cons, List.length_nil]; omega
      have o5 : DoR W3.heap.size p5 v5' (innP 6 (itK (valP ind d) j (t.nodes.drop (i + 1))) p.tail) := by rw [← HINN.out]; exact o5'
      have HR := hide (l6row_any v5' _ _ p5 o5.di hsz5 (by omega))
      have hmr := mes_row (innP 6 (itK (valP ind d) j (t.nodes.drop (i + 1))) p.tail)
      obtain ⟨a5', c5', hv5', _, _⟩ := o5.sl
      generalize hNN : innP 6 (itK (valP ind d) j (t.nodes.drop (i + 1))) p.tail = NN at *
      generalize NN.length = L5 at hv5'
      subst hv5'
      clear o5 o5' b5 HAF HINN
      go_wp2_with fail
      refine HR.out.mono ?_
      rintro e p6 ⟨v6, rfl, o6, g6⟩
      have HN := hide (l2un_any 7 ind v6 _ _ p6 o6.pi (by omega))
      have GA : Hid (w.grownBy p6 none) := grown_trans (grown_trans GG.out (grown_of_below HB5.out)) g6
      obtain ⟨a6, c6, hv6, _, _⟩ := o6.sl
      generalize (rowP NN).length = L6 at hv6
      subst hv6
      clear o6 g6 HR
      go_wp2_with fail
      refine HN.out.mono ?_
      rintro e p7 ⟨v7, rfl, o7, g7⟩
      have G6 := hide (grown_trans GA.out g7)
      have HO6 := hide (o7.base (B' := w.heap.size) GA.out.size)
      obtain ⟨a6, c6, hv6, _, _⟩ := o7.sl
      generalize (rowP NN ++ [(⟨7, [], ind⟩ : Pc)]).length = L6 at hv6
      subst hv6
      clear o7 g7 HN
      go_wp2_with fail
      refine (HT1.out _).mono ?_
      rintro e w7 ⟨v7, rfl, o7, g7⟩
      have G7 := hide (grown_trans G6.out g7)
      have HO7 := hide (o7.base (B' := w.heap.size) G6.out.size)
      have HO6' := hide (HO6.out.keep g7)
      obtain ⟨a7, c7, hv7, _, _⟩ := o7.sl
      simp only [textP, List.length_singleton] at hv7
      subst hv7
      clear o7 g7 HT1 HO6
      go_wp2_with fail
      refine (HLE.out _).mono ?_
      rintro e w8 ⟨v8, rfl, o8, g8⟩
      have G8 := hide (grown_trans G7.out g8)
      have HO8 := hide (o8.base (B' := w.heap.size) G7.out.size)
      have HO6'' := hide (HO6'.out.keep g8)
      have HO7' := hide (HO7.out.keep g8)
      obtain ⟨a8, c8, hv8, _, _⟩ := o8.sl
      simp only [leafP, List.length_singleton] at hv8
      subst hv8
      clear o8 g8 HO6' HO7
      go_wp2_with fail
      refine (HT2.out _).mono ?_
      rintro e w9 ⟨v9, rfl, o9, g9⟩
      have G9 := hide (grown_trans G8.out g9)
      obtain ⟨a9, c9, hv9, _, _⟩ := o9.sl
      simp only [textP, List.length_singleton] at hv9
      have hdi := di_four w.heap.size w9 _ _ _ _ _ _ _ _ G9.out.size (HO7'.out.keep g9).pi (HO6''.out.keep g9).pi (HO8.out.keep g9).pi (o9.base (B' := w.heap.size) G8.out.size).pi
      have hmm : mess [textP [123], rowP NN ++ [(⟨7, [], ind⟩ : Pc)], leafP 2, textP [125]] ≤ 4190000 := by
        simp only [mess, mes_app, textP, leafP, mes, List.length_cons, List.length_nil]; omega
      have g10 := World.grownBy_alloc w9 (Obj.cells #[.slice a7 1 c7, .slice a6 L6 c6, .slice a8 1 c8, v9] 27) none
      have HF := hide (l6row_any _ _ w.heap.size _ hdi (by have := (grown_trans G9.out g10).size; exact this) (by omega))
      have G10 := hide (grown_trans G9.out g10)
      have hmr2 := mes_row [textP [123], rowP NN ++ [(⟨7, [], ind⟩ : Pc)], leafP 2, textP [125]]
      subst hv9
      clear o9 g9 HT2 HO6'' HO7' HO8 hdi g10
      go_wp2_with fail
      refine HF.out.mono ?_
      rintro e w11 ⟨v11, rfl, o11, g11⟩
      have HU := hide (l2un_any 8 0 v11 _ _ w11 o11.pi (by omega))
      have G11 := hide (grown_trans G10.out g11)
      obtain ⟨a11, c11, hv11, _, _⟩ := o11.sl
      generalize (rowP [textP [123], rowP NN ++ [(⟨7, [], ind⟩ : Pc)], leafP 2, textP [125]]).length = L11 at hv11
      subst hv11
      clear o11 g11 HF
      go_wp2_with fail
      refine HU.out.mono ?_
      rintro e w12 ⟨v12, rfl, o12, g12⟩
      have HO12 := hide (o12.base (B' := w.heap.size) G11.out.size)
      have G12 := hide (grown_trans G11.out g12)
      obtain ⟨a12, c12, hv12, _, _⟩ := o12.sl
      generalize (rowP [textP [123], rowP NN ++ [(⟨7, [], ind⟩ : Pc)], leafP 2, textP [125]] ++ [(⟨8, [], 0⟩ : Pc)]).length = L12 at hv12
      subst hv12
      clear o12 g12 HU
      go_wp2
      go_ret
      refine ⟨_, rfl, ?_, G12.out⟩
      rw [HCON.out]
      unfold nestP
      exact HO12.out
end Go.Proofs.YtalkhnhhaiigiaaGreatDoor

