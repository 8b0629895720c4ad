import Derived.Test.YtgmjpdejfdldlaaDoorMBS
namespace Go.Proofs.YtgmjpdejfdldlaaDoor
open Go.RowKit

theorem Rd.grow {q : IntKind} {w w' : World} {v : Value} {zs : List Int} (h : Rd q w.heap.size w v zs) (g : w.grownBy w' none) : Rd q w'.heap.size w' v zs := (h.keep g).wide g.size
theorem RdP.grow {w w' : World} {v : Value} {doc : List Pc} (h : RdP w.heap.size w v doc) (g : w.grownBy w' none) : RdP w'.heap.size w' v doc := (h.keep g).wide g.size
theorem grown_dn (w : World) (m : Nat) : w.grownBy (w.drewN m) none := grown_drewN (World.grownBy.refl _ _) m

/-- The list of the groups that were met reads. -/
structure LsR (w : World) (Wb : Nat) (lv : Value) (ls : List (Int × Int)) : Prop where
  c6 : w.cell? ⟨Wb, 6, none⟩ = some lv
  sl : ∃ a c, lv = .slice a ls.length c
  el : ∀ k e, ls[k]? = some e → ∃ b c, lv = .slice (some ⟨b, 0, none⟩) ls.length c ∧ w.cell? ⟨b, k * 2, none⟩ = some (.int .i64 e.1) ∧ w.cell? ⟨b, k * 2 + 1, none⟩ = some (.int .i64 e.2)
theorem LsR.keep {w w' : World} {Wb : Nat} {lv : Value} {ls : List (Int × Int)} (h : LsR w Wb lv ls) (g : w.grownBy w' none) : LsR w' Wb lv ls :=
  ⟨g.cell h.c6 (by simp), h.sl, fun k e he => by
    obtain ⟨b, c, h1, h2, h3⟩ := h.el k e he
    exact ⟨b, c, h1, g.cell h2 (by simp), g.cell h3 (by simp)⟩⟩
theorem cellsM_at : ∀ (l : List (Int × Int)) (k : Nat) (e : Int × Int), l[k]? = some e → (cellsM l)[k * 2]? = some (.int .i64 e.1) ∧ (cellsM l)[k * 2 + 1]? = some (.int .i64 e.2)
  | [], k, e, h => by simp at h
  | y :: r, 0, e, h => by simp at h; subst h; simp [cellsM]
  | y :: r, k + 1, e, h => by
    have := cellsM_at r k e (by simpa using h)
    rw [show (k + 1) * 2 = k * 2 + 1 + 1 by omega, show k * 2 + 1 + 1 + 1 = (k * 2 + 1) + 1 + 1 by omega]
    simp only [cellsM, List.getElem?_cons_succ]
    exact this
theorem WkR.lsr {H Wb : Nat} {w : World} {dv gv : Value} {last : Int} {fl : Bool} {S : WS} {tv lv : Value} (h : WkR H Wb w dv gv last fl S tv lv) : LsR w Wb lv S.list := by
  refine ⟨h.cell.2.2.2.2.2.2.1, ?_, fun k e he => ?_⟩
  · rcases h.ls.2 with ⟨hv, h0⟩ | ⟨g, cap, cur, hv, _⟩
    · exact ⟨none, 0, by rw [hv, h0]⟩
    · exact ⟨_, cap, hv⟩
  · have hk := (List.getElem?_eq_some_iff.1 he).1
    obtain ⟨h1, h2⟩ := cellsM_at S.list k e he
    rcases h.ls.2 with ⟨_, h0⟩ | ⟨g, cap, cur, hv, _⟩
    · omega
    · have h' := h.ls
      rw [hv] at h'
      exact ⟨g, cap, hv, by rw [World.ownsRow.cellAt h' (k * 2) (by omega)]; exact h1, by rw [World.ownsRow.cellAt h' (k * 2 + 1) (by omega)]; exact h2⟩

set_option maxHeartbeats 8000000 in
set_option maxRecDepth 100000 in
theorem greedy_main (a : Option Addr) (cap : Nat) (zs : List Int) (w : World) (hv : RdB w.heap.size w (.slice a zs.length cap) zs) (hm : zs.length ≤ 1048576) (hT : Tab w) (hby : Bys zs) (hlc : zs.length ≤ cap) (hcm : cap ≤ 9223372036854775807) {out met : List Int} (hn : layoutR (dLay zs).1 (dLay zs).2 = some (out, met)) (h40 : grp (dLay zs).1 (dLay zs).1.length ≤ 40) :
    Calls Tryd.prog 3 #[.slice a zs.length cap] w fun e w' => e = .returned (.bool true) ∧ Below w.heap.size w w' := by
  have hnot : ∀ (x : Bool) (w : World), (Op.unary .not (.bool x)).run Tryd.prog w = .ok (.bool (!x)) w := fun _ _ => rfl
  have hps := dAny_ok (zs := zs.take 500) (nx_le (Nat.zero_le _))
  have HPs : Hid (PsOk (dLay zs).1) := hps
  have hd := psok_doc hps
  have HDoc : Hid (Doc (dLay zs).1) := hd
  have HDR : Hid (∀ W : World, w.grownBy W none → _) := fun W (g : w.grownBy W none) => drawLayout_any a cap zs W (hv.grow g) hby hm hlc hcm
  have HTab : Hid (∀ W : World, w.grownBy W none → Tab W) := fun W g => hT.keep g
  obtain ⟨T, t1, t2, t3, t4, t5, t6, t7, t8, t9, t10, t11⟩ := greedy_fact HDoc.out hn
  have holen := (layout_len (dLay zs).1 (dLay zs).2 HDoc.out.len)
  rw [hn] at holen
  have HO : Hid (out.length ≤ 560140000 ∧ met.length ≤ 1048576) := holen
  have HN := hide hn
  have HSz : Hid (sz T ≤ 3700) := Nat.le_trans (sz_mes t1) HPs.out.1
  have hbdw := goT_bd met (-1) false T 0 0 ⟨false, List.replicate (grp (dLay zs).1 (dLay zs).1.length) 0, [], 0⟩ t4 (Int.le_refl _) (by simpa using t5)
  have HLs : Hid ((goT met (-1) false T 0 0 ⟨false, List.replicate (grp (dLay zs).1 (dLay zs).1.length) 0, [], 0⟩).list.length ≤ 3700) := by
    have := hbdw.2.2.1
    have := HSz.out
    unfold Hid
    simp only [List.length_nil] at *
    omega
  have HF := hide t11
  have HTk := hide t10
  have HRen := hide t8
  have HSeg := hide t2
  have HK := hide (And.intro t3 (And.intro t4 (And.intro t5 t6)))
  have HML := hide t7
  have HWd := hide t9
  have h1 : ¬ (1048576 : Int) < (zs.length : Int) := by omega
  have HD1 := hide (HDR.out w (World.grownBy.refl _ _))
  clear hv hd hn hps t1 t2 t3 t4 t5 t6 t7 t8 t9 t10 t11 holen hbdw hT
  generalize (dLay zs).1 = doc at *
  generalize (dLay zs).2 = wd at *
  go_enter Tryd.func3, Tryd.ntmps3
  go_wp2_with fail
  refine HD1.out.mono ?_
  rintro e w1 ⟨dv, rfl, r1, g1⟩
  have HL := hide (specLayout_any dv doc wd w1 r1 HDoc.out)
  rw [HN.out] at HL
  have HR1 := hide r1
  have G1 := hide g1
  obtain ⟨da, dc, hdv, _⟩ := id r1
  subst hdv
  clear HD1 r1 g1
  go_wp2_with fail
  refine HL.out.mono ?_
  rintro e w2 h
  obtain ⟨ov, mv, rfl, o1, o2, _, g2⟩ := h
  have HW := hide o1.rd
  have G2 := hide (grown_trans G1.out g2)
  have HR2 := hide (HR1.out.grow g2)
  have HG : Hid (∀ W : World, w2.grownBy W none → _) := fun W (g : w2.grownBy W none) => groupsTo_any _ doc doc.length W (HR2.out.grow g) HDoc.out.len (Nat.le_refl _)
  have h40' : ¬ (40 : Int) < (grp doc doc.length : Int) := by omega
  have HG2 := hide (HG.out w2 (World.grownBy.refl _ _))
  obtain ⟨oa, oc, hov, _⟩ := o1.sl
  obtain ⟨ma, mc, hmv, _⟩ := o2.sl
  subst hov hmv
  clear HL o1 o2 g2 HR1 G1
  go_wp2_with fail
  refine HG2.out.mono ?_
  rintro e w3 ⟨rfl, rfl⟩
  have HD2 := hide (HDR.out w2 G2.out)
  clear HG2
  go_wp2_with fail
  refine HD2.out.mono ?_
  rintro e w3 ⟨dv2, rfl, r3, g3⟩
  have HL := hide (implLayout_any dv2 doc wd w3 r3 HDoc.out (HTab.out w3 (grown_trans G2.out g3)))
  rw [HN.out] at HL
  have HR3 := hide (HR2.out.grow g3)
  have HQ3 := hide r3
  have HW3 := hide (HW.out.grow g3)
  have G3 := hide (grown_trans G2.out g3)
  have G23 := hide g3
  obtain ⟨ea, ec, hev, _⟩ := id r3
  subst hev
  clear HD2 HDR r3 g3 HR2 G2 HW
  go_wp2_with fail
  refine HL.out.mono ?_
  rintro e w4 h
  obtain ⟨tx, cv, rfl, o1, o2, _, g4⟩ := h
  have HG4 := hide (HG.out w4 (grown_trans G23.out g4))
  have HX4 := hide o1.rd
  have HC4 := hide o2.rd
  have HR4 := hide (HR3.out.grow g4)
  have HQ4 := hide (HQ3.out.grow g4)
  have HW4 := hide (HW3.out.grow g4)
  have G4 := hide (grown_trans G3.out g4)
  have HXs := hide o1.sl
  have hmN : ((met.length : Int) != (grp doc doc.length : Int)) = false := by rw [HML.out]; simp
  obtain ⟨xa, xc, hxv, _⟩ := o1.sl
  obtain ⟨ca, cc, hcv, hcl1, hcl2⟩ := o2.sl
  subst hxv hcv
  clear HL HG g4 o1 o2 HR3 HQ3 HW3 G3 G23
  go_wp2_with fail
  refine HG4.out.mono ?_
  rintro e w5 ⟨rfl, rfl⟩
  have HS := hide (sameB_any _ _ out out w4 HX4.out HW4.out (by have := HO.out.1; omega))
  clear HG4
  go_wp2_with fail
  refine HS.out.mono ?_
  rintro e w5 ⟨rfl, n5, rfl⟩
  have g5 := grown_dn w4 n5
  have HR5 := hide (HR4.out.grow g5)
  have HQ5 := hide (HQ4.out.grow g5)
  have HC5 := hide (HC4.out.grow g5)
  have HX5 := hide (HX4.out.grow g5)
  have G5 := hide (grown_trans G4.out g5)
  have hdec : decide (out = out) = true := by simp
  clear HS HR4 HQ4 HC4 HX4 G4 HW4 g5
  generalize w4.drewN n5 = w5 at *
  have HRe := hide (implRender_any _ _ doc met w5 HQ5.out HDoc.out HC5.out HO.out.2 (HTab.out w5 G5.out))
  rw [HRen.out] at HRe
  go_wp2_with fail
  refine HRe.out.mono ?_
  rintro e w6 h
  obtain ⟨sv, rfl, o1, g6⟩ := h
  have HS := hide (sameB_any _ _ out out w6 o1.rd (HX5.out.grow g6) (by have := HO.out.1; omega))
  have HR6 := hide (HR5.out.grow g6)
  have HQ6 := hide (HQ5.out.grow g6)
  have HC6 := hide (HC5.out.grow g6)
  have G6 := hide (grown_trans G5.out g6)
  obtain ⟨sa, sc, hsv, _⟩ := o1.sl
  subst hsv
  clear HRe HR5 HQ5 HC5 HX5 G5 g6 o1
  go_wp2_with fail
  refine HS.out.mono ?_
  rintro e w7 ⟨rfl, n7, rfl⟩
  have g7 := grown_dn w6 n7
  have HR7 := hide (HR6.out.grow g7)
  have HQ7 := hide (HQ6.out.grow g7)
  have HC7 := hide (HC6.out.grow g7)
  have G7 := hide (grown_trans G6.out g7)
  clear HS HR6 HQ6 HC6 G6 g7
  generalize w6.drewN n7 = w7 at *
  have HWk := hide (walked_any _ _ doc met (-1) false w7 HR7.out HC7.out HDoc.out.len (by rw [HML.out]; exact Nat.le_refl _) HSeg.out HK.out.1 HK.out.2.1 HK.out.2.2.1 HK.out.2.2.2)
  go_wp2_with fail
  refine HWk.out.mono ?_
  rintro e w8 ⟨Wb, tv, lv, rfl, W8, g8⟩
  have HLs8 := hide W8.lsr
  obtain ⟨c0, c1, c2, c3, c4, c5, c6, c7, cf⟩ := W8.cell
  have htk := W8.tk
  rw [show (goT met (-1) false T 0 0 (WS0 (grp doc doc.length))).taken = met from HTk.out] at htk
  have HS := hide (sameN_any _ _ met met w8 htk.rd (HC7.out.grow g8) (by have := HO.out.2; omega))
  have HR8 := hide (HR7.out.grow g8)
  have HQ8 := hide (HQ7.out.grow g8)
  have HC8 := hide (HC7.out.grow g8)
  have G8 := hide (grown_trans G7.out g8)
  obtain ⟨ta, tc, htv, _⟩ := htk.sl
  subst htv
  clear HWk HR7 HQ7 HC7 G7 g8 htk W8 c0 c1 c2 c3 c4 c6 c7 cf
  go_wp2_with fail
  refine HS.out.mono ?_
  rintro e w9 ⟨rfl, n9, rfl⟩
  have g9 := grown_dn w8 n9
  have HR := hide (HR8.out.grow g9)
  have HQ := hide (HQ8.out.grow g9)
  have HC := hide (HC8.out.grow g9)
  have HL9 := hide (HLs8.out.keep g9)
  have G9 := hide (grown_trans G8.out g9)
  have hdec2 : decide (met = met) = true := by simp
  clear HS HR8 HQ8 HC8 G8 g9 HLs8 c5
  generalize w8.drewN n9 = w9 at *
  have HL9' : Hid (LsR w9 Wb lv (goT met (-1) false T 0 0 ⟨false, List.replicate (grp doc doc.length) 0, [], 0⟩).list) := HL9.out
  clear HL9
  generalize (goT met (-1) false T 0 0 ⟨false, List.replicate (grp doc doc.length) 0, [], 0⟩).list = ls at *
  have hdl := HDoc.out.len
  have hlsl := HLs.out
  go_wp2
  go_loopw [16, 17] (fun pl i wr => ∃ k : Nat, k ≤ doc.length ∧ i = .int .i64 k ∧ pl = .int .i64 (grp doc k : Int) ∧ w9.grownBy wr none)
    (fun _ i _ => doc.length - (intOf i).toNat)
  case atStart => exact ⟨0, Nat.zero_le _, rfl, by rw [grp_zero]; rfl, World.grownBy.refl _ _⟩
  case round =>
    obtain ⟨k, hk, rfl, rfl, hg⟩ := hrel
    by_cases hlt : k < doc.length
    · obtain ⟨b, off, cap', tx0, hva, hb, hp⟩ := (HR.out.keep hg).at k hlt
      cases hva
      have hk0 := hp.k
      have hin : (k : Int) < (doc.length : Int) := by omega
      have hsn := grp_succ doc k hlt
      have hgle := grp_le doc k
      have hdk : doc[k]? = some doc[k] := List.getElem?_eq_getElem hlt
      clear hp
      by_cases h8 : doc[k].k = 8
      · have q8 : (doc[k].k != 8) = false := by rw [h8]; rfl
        rw [if_pos h8] at hsn
        have HSn := hide hsn
        have H8 := hide h8
        have HDk := hide hdk
        generalize doc[k] = pk at *
        have HLr := hide (HL9'.out.keep hg)
        have cl6 := HLr.out.c6
        obtain ⟨la, lc, hlv⟩ := HLr.out.sl
        clear h8 hsn hdk
        go_wp2
        go_loopw [19, 20] (fun at' j wr2 => ∃ (m : Nat) (z : Int), m ≤ ls.length ∧ j = .int .i64 m ∧ at' = .int .i64 z ∧ (z = -1 ∨ ∃ e ∈ ls, e.1 = (grp doc k : Int) ∧ e.2 = z) ∧ wr = wr2)
          (fun _ j _ => ls.length - (intOf j).toNat)
        case atStart => exact ⟨0, -1, Nat.zero_le _, rfl, rfl, .inl rfl, rfl⟩
        case round =>
          obtain ⟨m, z, hm1, rfl, rfl, hz, hw⟩ := hrel
          subst hw
          by_cases hlm : m < ls.length
          · obtain ⟨eb, ec', hle, e0, e1⟩ := HLr.out.el m ls[m] (List.getElem?_eq_getElem hlm)
            have hmem : ls[m] ∈ ls := List.getElem_mem hlm
            have hlmI : (m : Int) < (ls.length : Int) := by omega
            rw [hle] at cl6
            clear hlv hle
            by_cases heq : ls[m].1 = (grp doc k : Int)
            · have qe : (ls[m].1 == (grp doc k : Int)) = true := by simpa using heq
              have HM : Hid (∃ e ∈ ls, e.1 = (grp doc k : Int) ∧ e.2 = ls[m].2) := ⟨ls[m], hmem, heq, rfl⟩
              clear heq hmem hz
              generalize ls[m].1 = g1 at *
              generalize ls[m].2 = g2 at *
              generalize grp doc k = G at *
              go_wp2
              go_roundw
              case rel => exact ⟨m + 1, g2, by omega, by go_num, rfl, .inr HM.out, trivial⟩
              case measure => simp [intOf]; omega
            · have qe : (ls[m].1 == (grp doc k : Int)) = false := by simpa using heq
              have HM := hide hz
              clear heq hmem hz
              generalize ls[m].1 = g1 at *
              generalize ls[m].2 = g2 at *
              generalize grp doc k = G at *
              go_wp2
              go_roundw
              case rel => exact ⟨m + 1, z, by omega, by go_num, rfl, HM.out, trivial⟩
              case measure => simp [intOf]; omega
          · have hml : m = ls.length := by omega
            have hlmI : ¬ (m : Int) < (ls.length : Int) := by omega
            clear hm1 hml
            have hzc : (z = -1 ∧ z < 0) ∨ (∃ e ∈ ls, e.1 = (grp doc k : Int) ∧ e.2 = z) := hz.imp_left fun h => ⟨h, by omega⟩
            clear hz
            rw [hlv] at cl6
            rcases hzc with ⟨_, hz0⟩ | hzc
            · go_wp2
              go_roundw
              case rel => exact ⟨k + 1, by omega, by go_num, by rw [HSn.out]; go_num, hg⟩
              case measure => simp [intOf]; omega
            · obtain ⟨e, hmem, he1, he2⟩ := hzc
              obtain ⟨p, x, a0, i, f1, f2, f3, f4, f5, f6, f7⟩ := HF.out e hmem
              have hik : i = k := grp_inj f1 HDk.out f2 H8.out (by rw [f4] at he1; omega)
              subst hik
              rw [he2] at f5 f7
              have hz0 : ¬ z < 0 := by omega
              have hai := f3.lt
              obtain ⟨b2, off2, cap2, tx2, hva2, hb2, hp2⟩ := (HQ.out.keep hg).at i hlt
              cases hva2
              have HBg := hide (begin_any _ doc wr (HR.out.grow hg) hdl (by omega) f3)
              have hcap2 := (HQ.out).cap
              have HFl := hide (implFlat_any _ (subD doc a0 i) wr (rdP_part (HQ.out.grow hg) hai (by omega)) (doc_sub HDoc.out (by omega)) (HTab.out wr (grown_trans G9.out hg)))
              clear hp2
              have hq1 : (a0 : Int) ≤ (i : Int) := by omega
              have hq2 : i ≤ ec := by omega
              have hq3 : a0 ≤ i := by omega
              have hGN : grp doc i < met.length := by rw [HML.out]; exact grp_lt HDk.out H8.out
              have hgI : (grp doc i : Int) < (met.length : Int) := by omega
              obtain ⟨ca', cc', hce, hcr⟩ := id HC.out
              cases hce
              obtain ⟨cb, co, hca, hcb, hcc⟩ := hcr (fun e => by rw [e] at hGN; simp at hGN)
              subst hca
              have hcg := hcc _ hGN
              have hmet := HO.out.2
              clear hmem he1 he2 f1 f2 f4 hcr hcc hcap2
              rcases f7 with ⟨n1, n2⟩ | ⟨part, n1, l1, l2, l3, l4, m1, m2, m3, m4, m5, m6, m7, m8, m9, m10⟩
              · have hfb : flatB (subD doc a0 i) = false := by unfold flatB; rw [n1]; rfl
                have hfl : flatL (subD doc a0 i) = [] := by unfold flatL; rw [n1]; rfl
                rw [hfb, hfl] at HFl
                have hmg : met[grp doc i]?.getD 0 = 2 := by rw [n2]; rfl
                rw [hmg] at hcg
                have HSn2 := HSn
                clear n1 n2 hfb hfl hmg f3 f6
                generalize grp doc i = G at *
                go_wp2_with fail
                refine HBg.out.mono ?_
                rintro e9 wx ⟨rfl, rfl⟩
                clear HBg
                go_wp2_with fail
                refine HFl.out.mono ?_
                rintro e9 w10 ⟨pv, rfl, o10, g10⟩
                have hc10 := (grown_trans hg g10).cell hcg (by simp)
                have HG10 := hide (grown_trans hg g10)
                obtain ⟨pa, pc, hpv, _⟩ := o10.sl
                subst hpv
                clear HFl o10 g10 hcg cl6
                go_wp2
                go_roundw
                case rel => exact ⟨i + 1, by omega, by go_num, by rw [HSn2.out]; go_num, HG10.out⟩
                case measure => simp [intOf]; omega
              · have hfb : flatB (subD doc a0 i) = true := by unfold flatB; rw [n1]; rfl
                have hfl : flatL (subD doc a0 i) = part := by unfold flatL; rw [n1]; rfl
                rw [hfb, hfl] at HFl
                have HWk : Hid (∀ W : World, w9.grownBy W none → _) := fun W (g : w9.grownBy W none) => walked_any _ _ doc met (grp doc i : Int) true W (HR.out.grow g) (HC.out.grow g) HDoc.out.len (by rw [HML.out]; exact Nat.le_refl _) HSeg.out HK.out.1 HK.out.2.1 HK.out.2.2.1 HK.out.2.2.2
                have hbd2 := goT_bd met (grp doc i : Int) true T 0 0 ⟨false, List.replicate (grp doc doc.length) 0, [], 0⟩ HK.out.2.1 (Int.le_refl _) (by simpa using HK.out.2.2.1)
                have HTl : Hid ((goT met (grp doc i : Int) true T 0 0 ⟨false, List.replicate (grp doc doc.length) 0, [], 0⟩).taken.length ≤ 1048576) := by
                  unfold Hid
                  rw [hbd2.2.2.2]
                  simp only [List.length_replicate]
                  omega
                have HRe : Hid (∀ (W : World) (tv : Value), w9.grownBy W none → RdI W.heap.size W tv (goT met (grp doc i : Int) true T 0 0 ⟨false, List.replicate (grp doc doc.length) 0, [], 0⟩).taken → _) := fun W tv (g : w9.grownBy W none) h => implRender_any _ tv doc _ W (HQ.out.grow g) HDoc.out h HTl.out (HTab.out W (grown_trans G9.out g))
                rw [m1] at HRe
                have hszT := HSz.out
                have HLA : Hid (∀ (W : World) (v : Value), RdB W.heap.size W v (l1 ++ l2 ++ l3 ++ l4) → Sl v (l1 ++ l2 ++ l3 ++ l4).length → _) := fun W v h1 h2 => lineAt_any v l1 l2 l3 l4 W h1 h2 m9 (by omega) m3 m4 m5 m6
                rw [← m2] at HLA
                have hlz : (l1 ++ l2 ++ l3 ++ l4).length = (l1 ++ l2).length + l3.length + l4.length := by simp only [List.length_append]
                have hfin : ¬ ((l1 ++ l2 ++ l3 ++ l4).length : Int) < z + (part.length : Int) := by omega
                have hzb : z ≤ 20000000 := by omega
                have hpb : part.length ≤ 20000000 := by omega
                have hlb : (l1 ++ l2 ++ l3 ++ l4).length ≤ 20000000 := by omega
                have HSn2 := HSn
                have HIff := hide (And.intro m8 f6)
                clear n1 hfb hfl m1 m2 m3 m4 m5 m6 m7 m8 m9 m10 f3 f6 hbd2 hlz HTl hszT
                generalize widthR (l2 ++ l3) = WL at *
                generalize hlist : l1 ++ l2 ++ l3 ++ l4 = LL at *
                go_wp2_with fail
                refine HBg.out.mono ?_
                rintro e9 wx ⟨rfl, rfl⟩
                clear HBg
                go_wp2_with fail
                refine HFl.out.mono ?_
                rintro e9 w10 ⟨pv, rfl, o10, g10⟩
                have hg10 := grown_trans hg g10
                have HG10 := hide hg10
                have HWk2 := hide (HWk.out w10 hg10)
                obtain ⟨pa, pc, hpv, _⟩ := o10.sl
                subst hpv
                clear HFl o10 g10 HWk hg10
                go_wp2_with fail
                refine HWk2.out.mono ?_
                rintro e9 w11 ⟨Wc, tv2, lv2, rfl, W11, g11⟩
                have hg11 := grown_trans HG10.out g11
                have HRe2 := hide (HRe.out w11 tv2 hg11 W11.tk.rd)
                obtain ⟨c0, c1, c2, c3, c4, c5, c6, c7, cf⟩ := W11.cell
                obtain ⟨tva, tvc, htv2, _⟩ := W11.tk.sl
                have HG11 := hide hg11
                generalize List.length _ = TL at htv2
                subst htv2
                clear HWk2 W11 g11 hg11 c0 c1 c2 c3 c4 c6 c7 cf HRe
                go_wp2_with fail
                refine HRe2.out.mono ?_
                rintro e9 w12 h
                obtain ⟨ov, rfl, o12, g12⟩ := h
                have hg12 := grown_trans HG11.out g12
                have HLA2 := hide (HLA.out w12 ov o12.rd o12.sl)
                obtain ⟨ova, ovc, hov2, _⟩ := o12.sl
                subst hov2
                clear HRe2 o12 g12 HLA
                go_wp2_with fail
                refine HLA2.out.mono ?_
                rintro e9 w13 ⟨rfl, g13⟩
                have hc13 := (grown_trans hg12 g13).cell hcg (by simp)
                have HG13 := hide (grown_trans hg12 g13)
                clear hg12 g13 HLA2 hcg c5 cl6
                by_cases hfit : WL ≤ wd
                · have hmg : met[grp doc i]?.getD 0 = 1 := by rw [HIff.out.1.1 hfit]; rfl
                  rw [hmg] at hc13
                  clear hmg
                  generalize grp doc i = G at *
                  go_wp2
                  go_roundw
                  case rel => exact ⟨i + 1, by omega, by go_num, by rw [HSn2.out]; go_num, HG13.out⟩
                  case measure => simp [intOf]; omega
                · have hmg : met[grp doc i]?.getD 0 = 2 := by
                    rcases HIff.out.2 with h | h
                    · exact absurd (HIff.out.1.2 h) hfit
                    · rw [h]; rfl
                  rw [hmg] at hc13
                  clear hmg
                  generalize grp doc i = G at *
                  go_wp2
                  go_roundw
                  case rel => exact ⟨i + 1, by omega, by go_num, by rw [HSn2.out]; go_num, HG13.out⟩
                  case measure => simp [intOf]; omega
      · have q8 : (doc[k].k != 8) = true := by simpa using h8
        rw [if_neg h8] at hsn
        have HSn := hide hsn
        clear h8 hsn hdk
        generalize doc[k] = pk at *
        go_wp2
        go_roundw
        case rel => exact ⟨k + 1, by omega, by go_num, by rw [HSn.out]; rfl, hg⟩
        case measure => simp [intOf]; omega
    · have hkn : k = doc.length := by omega
      clear hk
      go_wp2
      go_ret
      exact ⟨rfl, below_of_grown (grown_trans G9.out hg)⟩
theorem greedy_law (a : Option Addr) (cap : Nat) (zs : List Int) (w : World) (hv : RdB w.heap.size w (.slice a zs.length cap) zs) (_ : zs.length ≤ 9223372036854775807) (hT : Tab w) (hby : Bys zs) (hlc : zs.length ≤ cap) (hcm : cap ≤ 9223372036854775807) :
    Calls Tryd.prog 3 #[.slice a zs.length cap] w fun e w' => e = .returned (.bool true) ∧ Below w.heap.size w w' := by
  by_cases hm : zs.length ≤ 1048576
  · cases hl : layoutR (dLay zs).1 (dLay zs).2 with
    | none => exact greedy_bad a cap zs w hv hm hby hlc hcm hl
    | some r =>
      obtain ⟨out, met⟩ := r
      by_cases h40 : grp (dLay zs).1 (dLay zs).1.length ≤ 40
      · exact greedy_main a cap zs w hv hm hT hby hlc hcm hl h40
      · exact greedy_many a cap zs w hv hm hby hlc hcm hl (by omega)
  · exact greedy_long a cap zs w (by omega) hlc hcm
end Go.Proofs.YtgmjpdejfdldlaaDoor

