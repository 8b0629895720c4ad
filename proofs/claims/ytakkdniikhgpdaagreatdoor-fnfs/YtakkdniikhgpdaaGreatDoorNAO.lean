import Derived.Test.YtakkdniikhgpdaaGreatDoorNAN
namespace Go.Proofs.YtakkdniikhgpdaaGreatDoor
open Go.RowKit

theorem lis_cons {zs : List Int} {d C q i : Nat} {R R' : List Nod} {p : Nod} {S : List Int × List Nod × Nat} (hS : lisF zs (loF zs d) C q R i = S) (h : S.2.1 = p :: R') {g : List Int × Nat} (hg : gapF zs S.2.2 = g) {k : List Int × Nat} (hk : lkF zs p g.2 = k) {x : List Int × List Nod × Nat} (hx : loF zs d (p :: R') k.2 = x) {h' : List Int × Nat} (hh : gapF zs x.2.2 = h') :
    lisF zs (loF zs d) C (q + 1) R i = (S.1 ++ (g.1 ++ (comsF p.lead ++ (k.1 ++ (x.1 ++ (h'.1 ++ (if q + 1 < C then ([44], h'.2) else (if (nx zs h'.2).1 % 3 = 1 then [44] else [], (nx zs h'.2).2) : List Int × Nat).1))))), x.2.1, (if q + 1 < C then ([44], h'.2) else (if (nx zs h'.2).1 % 3 = 1 then [44] else [], (nx zs h'.2).2) : List Int × Nat).2) := by
  subst hS hg hk hx hh
  simp only [lisF, h, liF]
  by_cases hc : q + 1 < C
  · simp only [hc, if_true, not_true_eq_false, decide_false, Bool.false_eq_true, if_false]
  · simp only [hc, if_false, not_false_eq_true, decide_true, if_true]
theorem lk_mem {zs : List Int} {p : Nod} {i : Nat} (hm : p.mem = true) {A : List Int × Nat} (hA : (if nmR p.key then (if 0 < (nx zs i).1 % 3 then (p.key, (nx zs i).2) else lqF zs p.key (nx zs i).2) else lqF zs p.key i) = A) : lkF zs p i = (A.1 ++ ((gapF zs A.2).1 ++ 58 :: (gapF zs (gapF zs A.2).2).1), (gapF zs (gapF zs A.2).2).2) := by
  unfold lkF
  rw [if_pos hm]
  simp only [hA]
theorem sz_of {t : List Int} {s : ByteArray} {L : Nat} (h : strOfNums t = s) (hl : BL L t) : s.size ≤ L := by rw [← h, strOfNums_size]; exact hl.1

set_option maxHeartbeats 8000000 in
set_option maxRecDepth 100000 in
theorem loose_cont {F : Nat} {v : Value} {zs : List Int} (hz : Zk zs) (t : Tre) (hG : ∀ p ∈ t.nodes, Gx p) (hN : t.nodes.length ≤ 341) (d : Nat) (hd : d ≤ 9) (IH : LoOk F v zs t d) (j i : Nat) (Γ : Gk) (w : World) (nv tv : Sv) (hj : j < t.nodes.length) (hk5 : ¬ t.nodes[j].k < 5) (R2 : List Nod) (hw : loopN (walkL triv d (decide (t.nodes[j].k = 6))) t.nodes[j].cnt.toNat (t.nodes.drop (j + 1), ()) = some (R2, ())) (hs : KS F v zs i Γ w) (hJN : JN (Pre Γ) nv t.nodes) (hJC : JC (Pre Γ) tv t.tail) :
    Calls Tryz.prog 71 #[.agg #[nv.v, tv.v], .int .i64 j, .pointer (some ⟨F, 0, none⟩)] w fun e w' => e = .returned (.string (strOfNums (loF zs (d + 1) (t.nodes.drop j) i).1)) ∧ KD F v zs Γ w (loF zs (d + 1) (t.nodes.drop j) i).2.2 Γ w' := by
  have hdr : t.nodes.drop j = t.nodes[j] :: t.nodes.drop (j + 1) := List.drop_eq_getElem_cons hj
  have hg := hG _ (List.getElem_mem hj)
  have hk0 := hg.g.k
  have hcb := hg.g.c
  have HP : Hid (loF zs (d + 1) (t.nodes.drop j) i = ((if t.nodes[j].k = 6 then 123 else 91) :: ((lisF zs (loF zs d) t.nodes[j].cnt.toNat t.nodes[j].cnt.toNat (t.nodes.drop (j + 1)) i).1 ++ ((gapF zs (lisF zs (loF zs d) t.nodes[j].cnt.toNat t.nodes[j].cnt.toNat (t.nodes.drop (j + 1)) i).2.2).1 ++ (comsF t.nodes[j].tail ++ [if t.nodes[j].k = 6 then 125 else 93]))), (lisF zs (loF zs d) t.nodes[j].cnt.toNat t.nodes[j].cnt.toNat (t.nodes.drop (j + 1)) i).2.1, (gapF zs (lisF zs (loF zs d) t.nodes[j].cnt.toNat t.nodes[j].cnt.toNat (t.nodes.drop (j + 1)) i).2.2).2)) := by
    unfold Hid
    rw [hdr]
    simp only [loF]
    rw [if_neg (by omega), if_neg hk5]
  have HST : Hid (∀ k, k < t.nodes[j].cnt.toNat → _) := fun k (hk : k < t.nodes[j].cnt.toNat) => lis_step (zs := zs) (i := i) hw (fun n hn h => (hG n (List.mem_of_mem_drop hn)).l.cnt h) hk
  have HLN : Hid (∀ k, BL (10000 * 341) (lisF zs (loF zs d) t.nodes[j].cnt.toNat k (t.nodes.drop (j + 1)) i).1) := fun k => by
    obtain ⟨⟨h1, h2⟩, _⟩ := lis_ln (zs := zs) (fun n R i => lo_ln d n R i) (lo_suf d) t.nodes[j].cnt.toNat k (t.nodes.drop (j + 1)) i (fun p hp => hG p (List.mem_of_mem_drop hp))
    exact ⟨by simp only [List.length_drop] at h1; omega, h2⟩
  have eT := hJC.len hs.mt
  obtain ⟨ta, tn, tcap⟩ := tv
  simp only at eT
  cases eT
  obtain ⟨b, off, cap, rfl, hc1, hc2, hFb, hbw, hat⟩ := hJN.base hs.mt (by omega)
  unfold maxLen at hc2
  obtain ⟨wA, hwA⟩ : ∃ wA, wA = w.alloc (Obj.cells #[.slice (some ⟨b, off, none⟩) t.nodes.length cap, .slice ta t.tail.length tcap] 100) := ⟨_, rfl⟩
  have gA : w.grownBy wA none := by rw [hwA]; exact World.grownBy_alloc _ _ _
  obtain ⟨l, y, x, u, tl, hp⟩ := hat wA (hs.mt.grown gA (fun x e => by cases e)) j hj
  have z0 := hp.k; have z1 := hp.lead; have z2 := hp.mem; have z3 := hp.key; have z4 := hp.text; have z5 := hp.units; have z6 := hp.cnt; have z7 := hp.tail
  obtain ⟨W3, hW3⟩ : ∃ W3, W3 = wA.alloc (Obj.cells #[.int .i64 t.nodes[j].k, .slice l.1 t.nodes[j].lead.length l.2, .bool t.nodes[j].mem, .slice y.1 t.nodes[j].key.length y.2, .slice x.1 t.nodes[j].text.length x.2, .slice u.1 t.nodes[j].units.length u.2, .int .i64 t.nodes[j].cnt, .slice tl.1 t.nodes[j].tail.length tl.2] 119) := ⟨_, rfl⟩
  have gg : w.grownBy W3 none := by rw [hW3]; exact grown_trans gA (World.grownBy_alloc _ _ _)
  have HD3 := hide ((KD.refl hs).keep gg)
  have HKS := hide HD3.out.st
  have hFw := hs.lt
  have q0 : W3.cell? ⟨w.heap.size, 0, none⟩ = some (.slice (some ⟨b, off, none⟩) t.nodes.length cap) := by rw [hW3, hwA]; simp [go_sem]
  have q1 : W3.cell? ⟨w.heap.size, 1, none⟩ = some (.slice ta t.tail.length tcap) := by rw [hW3, hwA]; simp [go_sem]
  have q6 : W3.cell? ⟨w.heap.size + 1, 6, none⟩ = some (.int .i64 t.nodes[j].cnt) := by rw [hW3, hwA]; simp [go_sem]
  have q7 : W3.cell? ⟨w.heap.size + 1, 7, none⟩ = some (.slice tl.1 t.nodes[j].tail.length tl.2) := by rw [hW3, hwA]; simp [go_sem]
  have HQ := hide (And.intro (And.intro q0 q1) (And.intro q6 q7))
  have HJT := hide hp.jt
  have HTB := hide hg.g.b.tail
  have HJN := hide hJN
  have HJC := hide hJC
  have HAT : Hid (∀ (W : World), MT (F + 1) Γ W → ∀ (j : Nat) (hj : j < t.nodes.length), ∃ l y x u t', Ndp Γ W b (off + j * 8) t.nodes[j] l y x u t') := hat
  have HIH := hide IH
  have HZ := hide hz
  have HG := hide hG
  have hne : (t.nodes[j].k == 4) = false := by simp; omega
  have hlt : decide (t.nodes[j].k < 5) = false := by simp; omega
  generalize hnd : t.nodes[j] = nd at *
  have HND := hide hnd
  have HDR := hide hdr
  subst hwA
  have HW3 := hide hW3
  simp only [Sv.v]
  clear hs hJN hJC hat hp gA gg hG hz hg hW3 IH q0 q1 q6 q7 hnd hdr hw
  have h6 : nd.k = 5 ∨ nd.k = 6 := by omega
  obtain ⟨C, hC⟩ : ∃ C : Nat, nd.cnt = (C : Int) := ⟨nd.cnt.toNat, by omega⟩
  have hCt : nd.cnt.toNat = C := by omega
  rw [hCt] at HP HST HLN
  rw [hC] at z6 HQ HW3
  have hCb : C ≤ 100 := by omega
  clear hCt hC hcb
  obtain ⟨op, cl, hop, hcl, hps⟩ : ∃ op cl : Int, (if nd.k = 6 then 123 else 91) = op ∧ (if nd.k = 6 then 125 else 93) = cl ∧ ((nd.k = 5 ∧ op = 91 ∧ cl = 93) ∨ (nd.k = 6 ∧ op = 123 ∧ cl = 125)) := ⟨_, _, rfl, rfl, by
    rcases h6 with h | h
    · rw [if_neg (by omega), if_neg (by omega)]; exact .inl ⟨h, rfl, rfl⟩
    · rw [if_pos h, if_pos h]; exact .inr ⟨h, rfl, rfl⟩⟩
  rw [hop, hcl] at HP
  clear h6 hop hcl hk5 hk0
  have hM : nd.tail.length ≤ 64 := HTB.out.1
  have HCELL : Hid (∀ (x : Nat) (W : World), KD F v zs Γ W3 x Γ W → (W.cell? ⟨w.heap.size, 0, none⟩ = some (.slice (some ⟨b, off, none⟩) t.nodes.length cap) ∧ W.cell? ⟨w.heap.size, 1, none⟩ = some (.slice ta t.tail.length tcap)) ∧ W.cell? ⟨w.heap.size + 1, 6, none⟩ = some (.int .i64 (C : Int)) ∧ W.cell? ⟨w.heap.size + 1, 7, none⟩ = some (.slice tl.1 nd.tail.length tl.2)) := fun x W D => by
    obtain ⟨⟨q0, q1⟩, q6, q7⟩ := HQ.out
    exact ⟨⟨D.gr.cell q0 (by simp; omega), D.gr.cell q1 (by simp; omega)⟩, D.gr.cell q6 (by simp; omega), D.gr.cell q7 (by simp; omega)⟩
  clear HQ
  rcases hps with ⟨h6, hop, hcl⟩ | ⟨h6, hop, hcl⟩
  all_goals
    rw [h6] at z0 hne hlt HW3 HST
    have HOP := hide hop
    have HCL := hide hcl
    clear HND h6 hop hcl
    go_enter Tryz.func71, Tryz.ntmps71
    go_wp2
    have hW3 := HW3.out
    rw [← hW3]
    clear hW3 z0 z1 z2 z3 z4 z5 z6 z7
    go_loopw [10, 12, 13] (fun o at' k W => ∃ q a : Nat, q ≤ C ∧ k = .int .i64 q ∧ at' = .int .i64 a ∧ a = t.nodes.length - (lisF zs (loF zs d) C q (t.nodes.drop (j + 1)) i).2.1.length ∧ o = .string (strOfNums (op :: (lisF zs (loF zs d) C q (t.nodes.drop (j + 1)) i).1)) ∧ KD F v zs Γ W3 (lisF zs (loF zs d) C q (t.nodes.drop (j + 1)) i).2.2 Γ W)
      (fun _ _ k _ => C - (intOf k).toNat)
    case atStart => exact ⟨0, j + 1, Nat.zero_le _, rfl, by go_num, by simp only [lisF, List.length_drop]; omega, by rw [HOP.out]; rfl, KD.refl HKS.out⟩
    case round =>
      obtain ⟨q, a, hq, rfl, rfl, ha, rfl, hD⟩ := hrel
      have hs0l := (HLN.out q)
      obtain ⟨⟨p0, p1⟩, p6, p7⟩ := HCELL.out _ _ hD
      have hz0 : (strOfNums (op :: (lisF zs (loF zs d) C q (t.nodes.drop (j + 1)) i).1)).size ≤ 3410001 := by rw [strOfNums_size]; have := hs0l.1; simp; omega
      by_cases hlt2 : q < C
      · obtain ⟨hwk, P, hP⟩ := HST.out q hlt2
        have hsf := suf_drop hP
        rw [← ha] at hsf
        have ha2 : a < t.nodes.length := by
          by_cases h : a < t.nodes.length
          · exact h
          · rw [hsf, List.drop_eq_nil_of_le (by omega)] at hwk
            cases d <;> simp [walkL] at hwk
        have hdr2 : t.nodes.drop a = t.nodes[a] :: t.nodes.drop (a + 1) := List.drop_eq_getElem_cons ha2
        have hgx := HG.out _ (List.getElem_mem ha2)
        obtain ⟨S, hS⟩ : ∃ S, lisF zs (loF zs d) C q (t.nodes.drop (j + 1)) i = S := ⟨_, rfl⟩
        obtain ⟨S1, hS1⟩ : ∃ S1, lisF zs (loF zs d) C (q + 1) (t.nodes.drop (j + 1)) i = S1 := ⟨_, rfl⟩
        obtain ⟨g, hg⟩ : ∃ g, gapF zs S.2.2 = g := ⟨_, rfl⟩
        obtain ⟨k, hk⟩ : ∃ k, lkF zs t.nodes[a] g.2 = k := ⟨_, rfl⟩
        obtain ⟨x, hx⟩ : ∃ x, loF zs d (t.nodes.drop a) k.2 = x := ⟨_, rfl⟩
        obtain ⟨h', hh⟩ : ∃ h', gapF zs x.2.2 = h' := ⟨_, rfl⟩
        rw [hS] at hsf
        have hE := lis_cons (zs := zs) (d := d) (C := C) (R' := t.nodes.drop (a + 1)) (p := t.nodes[a]) hS (by rw [hsf]; exact hdr2) hg hk (by rw [← hdr2]; exact hx) hh
        rw [hS1] at hE
        have HE := hide hE
        rw [hS] at hD hwk hz0 ⊢
        rw [hS1] at hwk
        rw [hsf] at hwk
        have HWK := hide hwk
        have HG1 := hide (gap_k hD.st HZ.out)
        have HKK := hide hk
        have HXX := hide hx
        have HHH := hide hh
        have HS1 := hide hS1
        have HHA := hide (And.intro ha2 hdr2)
        have HGX := hide hgx
        have hgl := gap_bl (zs := zs) S.2.2
        rw [hg] at HG1 hgl
        have hkl := lk_bl (zs := zs) hgx.g.b.key.1 g.2
        rw [hk] at hkl
        have hcl' := coms_bl' hgx.g.b.lead
        have hxl : BL 3410000 x.1 := by
          have := lo_ln (zs := zs) d t.nodes[a] (t.nodes.drop (a + 1)) k.2 (fun p hp => HG.out p (by rw [← hdr2] at hp; exact List.mem_of_mem_drop hp))
          rw [← hdr2, hx] at this
          exact ⟨by have := this.1; simp only [List.length_drop] at this; omega, this.2⟩
        have hhl := gap_bl (zs := zs) x.2.2
        rw [hh] at hhl
        have HAA := hide ha
        have HBL := hide (And.intro hkl (And.intro hxl hhl))
        have HD := hide hD
        generalize hs0 : strOfNums (op :: S.1) = s0 at *
        have HS0 := hide hs0
        generalize hsg : strOfNums g.1 = sg at *
        have HSG := hide hsg
        have hzg := sz_of hsg hgl
        have hlm : ¬ 9223372036854775807 < s0.size + sg.size := by omega
        clear hk hx hh hS1 hE hwk hD hs0 hsg hsf hgx hgl hkl hxl hhl hP hdr2 hs0l ha
        go_wp2_with fail
        refine HG1.out.mono ?_
        rintro e w1 ⟨rfl, D1⟩
        have D1' := HD.out.trans D1
        obtain ⟨⟨p0, p1⟩, p6, p7⟩ := HCELL.out _ _ D1'
        obtain ⟨l1, y1, x1, u1, t1, hp⟩ := HAT.out w1 D1'.st.mt a ha2
        have z1 := hp.lead
        have HCm := hide (looseComs_any _ t.nodes[a].lead w1 (hp.jl.rd D1'.st.mt) HGX.out.g.b.lead)
        simp only [Sv.v] at HCm
        have HD1 := hide D1'
        have HPp := hide hp
        clear D1 D1' hp HG1 HD
        generalize hsc : strOfNums (comsF t.nodes[a].lead) = sc at *
        have HSC := hide hsc
        have hzc := sz_of hsc hcl'
        clear hsc hcl'
        go_wp2_with fail
        generalize hs1 : s0 ++ sg = s1
        have HS1' := hide hs1
        have hz1 : s1.size ≤ 3410011 := by rw [← hs1, ByteArray.size_append]; omega
        refine HCm.out.mono ?_
        rintro e w2 ⟨rfl, g2⟩
        have D2 := HD1.out.keep g2
        have HD2 := hide D2
        obtain ⟨⟨p0, p1⟩, p6, p7⟩ := HCELL.out _ _ D2
        have hp := HPp.out.keep g2 (by simp)
        have z2 := hp.mem
        have z3 := hp.key
        have HJK := hide hp.jk
        have hlm1 : ¬ 9223372036854775807 < s1.size + sc.size := by omega
        clear hs1 hp D2 g2 HCm HD1 HPp hlm
        cases hm : t.nodes[a].mem
        case' false =>
          rw [hm] at z2
          have hkf : k = ([], g.2) := by rw [← HKK.out]; unfold lkF; rw [if_neg (by rw [hm]; simp)]
          have HDC : Hid (KD F v zs Γ W3 k.2 Γ w2) := by rw [hkf]; exact HD2.out
          have HKF := hide hkf
          clear hkf HD2 HJK z3
          go_wp2_with fail
          generalize hs2 : s1 ++ sc = sC
          have HCC : Hid (sC = strOfNums ((op :: S.1) ++ (g.1 ++ (comsF t.nodes[a].lead ++ k.1)))) := by
            unfold Hid
            rw [HKF.out, ← hs2, ← HS1'.out, ← HS0.out, ← HSG.out, ← HSC.out, List.append_nil, ← lstr_app, ← lstr_app, ← ByteArray.append_assoc]
          have hzC : sC.size ≤ 3420000 := by rw [← hs2, ByteArray.size_append]; omega
          clear hs2 HKF HS1' HS0 HSG HSC
        case' true =>
          rw [hm] at z2
          have hky := HGX.out.g.b.key.1
          have HNm := hide (specIsName_any _ t.nodes[a].key w2 (HJK.out.rd HD2.out.st.mt).1 (by omega))
          simp only [Sv.v] at HNm
          go_wp2_with fail
          generalize hs2 : s1 ++ sc = s2
          have HS2 : Hid (s2 = strOfNums ((op :: S.1) ++ (g.1 ++ comsF t.nodes[a].lead))) := by
            unfold Hid
            rw [← hs2, ← HS1'.out, ← HS0.out, ← HSG.out, ← HSC.out, ← lstr_app, ← lstr_app, ← ByteArray.append_assoc]
          have hz2 : s2.size ≤ 3415000 := by rw [← hs2, ByteArray.size_append]; omega
          clear hs2 HS1' HS0 HSG HSC hlm1
          refine HNm.out.mono ?_
          rintro e w2' ⟨rfl, rfl⟩
          cases hn : nmR t.nodes[a].key
          case' false =>
            have HQt := hide (looseQuote_k HD2.out.st HZ.out (y1.1, t.nodes[a].key.length, y1.2) t.nodes[a].key HJK.out HGX.out.l.key hky)
            simp only [Sv.v] at HQt
            obtain ⟨A, hA⟩ : ∃ A, lqF zs t.nodes[a].key g.2 = A := ⟨_, rfl⟩
            have hkm := lk_mem (zs := zs) (i := g.2) hm (A := A) (by rw [hn, if_neg (by simp)]; exact hA)
            have hAl : BL 520 A.1 := by rw [← hA]; exact lq_bl hky _
            rw [hA] at HQt
            clear hA HNm
            go_wp2_with fail
            refine HQt.out.mono ?_
            rintro e wK ⟨rfl, DK⟩
            have HDK := hide (HD2.out.trans DK)
            generalize hsA : strOfNums A.1 = sA at *
            have HSA := hide hsA
            clear hsA DK HQt HD2
          case' true =>
            have HNx := hide (HD2.out.next HZ.out)
            clear HNm
            go_wp2_with fail
            refine HNx.out.mono ?_
            rintro e w3 ⟨rfl, D3, g3⟩
            have hnb := nx_bd HZ.out.by' g.2
            by_cases h3 : 0 < (nx zs g.2).1 % 3
            case' pos =>
              have HAs := hide (l4ascii_any _ t.nodes[a].key w3 (HJK.out.rd D3.st.mt).1 (nm_by hn) (by omega))
              simp only [Sv.v] at HAs
              obtain ⟨A, hA⟩ : ∃ A, (t.nodes[a].key, (nx zs g.2).2) = A := ⟨_, rfl⟩
              have hkm := lk_mem (zs := zs) (i := g.2) hm (A := A) (by rw [hn, if_pos rfl, if_pos h3]; exact hA)
              have hAl : BL 520 A.1 := by rw [← hA]; exact ⟨by simp only; omega, fun z hz => by have := nm_by hn z hz; omega⟩
              have HAA1 := hide (show t.nodes[a].key = A.1 by rw [← hA])
              have HDK0 : Hid (KD F v zs Γ W3 A.2 Γ w3) := by rw [← hA]; exact D3
              clear hA D3 g3 HNx HD2
              go_wp2_with fail
              refine HAs.out.mono ?_
              rintro e wK ⟨vK, rfl, oK, gK⟩
              have hcv := conv_rd oK.rd
              obtain ⟨aK, cK, hvK, _, _⟩ := oK.sl
              have HDK := hide (HDK0.out.keep gK)
              generalize hsA : strOfNums t.nodes[a].key = sA at *
              have HSA : Hid (strOfNums A.1 = sA) := by unfold Hid; rw [← HAA1.out]; exact hsA
              generalize t.nodes[a].key.length = LK at *
              subst hvK
              clear hsA oK gK HAs HDK0 HAA1
            case' neg =>
              have HQt := hide (looseQuote_k D3.st HZ.out (y1.1, t.nodes[a].key.length, y1.2) t.nodes[a].key HJK.out HGX.out.l.key hky)
              simp only [Sv.v] at HQt
              obtain ⟨A, hA⟩ : ∃ A, lqF zs t.nodes[a].key (nx zs g.2).2 = A := ⟨_, rfl⟩
              have hkm := lk_mem (zs := zs) (i := g.2) hm (A := A) (by rw [hn, if_pos rfl, if_neg h3]; exact hA)
              have hAl : BL 520 A.1 := by rw [← hA]; exact lq_bl hky _
              rw [hA] at HQt
              have HD3' := hide D3
              clear hA D3 g3 HNx HD2
              go_wp2_with fail
              refine HQt.out.mono ?_
              rintro e wK ⟨rfl, DK⟩
              have HDK := hide (HD3'.out.trans DK)
              generalize hsA : strOfNums A.1 = sA at *
              have HSA := hide hsA
              clear hsA DK HQt HD3'
          all_goals
            have hzA : sA.size ≤ 520 := sz_of HSA.out hAl
            have hlm2 : ¬ 9223372036854775807 < s2.size + sA.size := by omega
            have HG2 := hide (gap_k HDK.out.st HZ.out)
            obtain ⟨B, hB⟩ : ∃ B, gapF zs A.2 = B := ⟨_, rfl⟩
            have hBl := gap_bl (zs := zs) A.2
            rw [hB] at HG2 hkm hBl
            have HKM := hide hkm
            clear hkm hB
            go_wp2_with fail
            generalize hs3 : s2 ++ sA = s3
            have hz3 : s3.size ≤ 3416000 := by rw [← hs3, ByteArray.size_append]; omega
            have HS3 := hide hs3
            refine HG2.out.mono ?_
            rintro e w5 ⟨rfl, D5⟩
            have HD5 := hide (HDK.out.trans D5)
            generalize hsb : strOfNums B.1 = sb at *
            have HSb := hide hsb
            have hzb := sz_of hsb hBl
            have hlm3 : ¬ 9223372036854775807 < s3.size + sb.size := by omega
            have hlm4 : ¬ 9223372036854775807 < (s3 ++ sb).size + 1 := by rw [ByteArray.size_append]; omega
            have hlm5 : ¬ 9223372036854775807 < s3.size + sb.size + 1 := by omega
            have HG3 := hide (gap_k HD5.out.st HZ.out)
            obtain ⟨B2, hB2⟩ : ∃ B2, gapF zs B.2 = B2 := ⟨_, rfl⟩
            have hB2l := gap_bl (zs := zs) B.2
            rw [hB2] at HG3 HKM hB2l
            clear hsb hs3 D5 HDK HG2 hlm2 hB2
            go_wp2_with fail
            generalize hs4 : s3 ++ sb ++ { data := #[58] } = s4
            have hz4 : s4.size ≤ 3417000 := by rw [← hs4, ByteArray.size_append, ByteArray.size_append, show ({ data := #[58] } : ByteArray).size = 1 from rfl]; omega
            have HS4 := hide hs4
            refine HG3.out.mono ?_
            rintro e w6 ⟨rfl, D6⟩
            have HDC : Hid (KD F v zs Γ W3 k.2 Γ w6) := by unfold Hid; rw [← HKK.out, HKM.out]; exact HD5.out.trans D6
            obtain ⟨⟨p0, p1⟩, p6, p7⟩ := HCELL.out _ _ HDC.out
            generalize hs5 : strOfNums B2.1 = s5 at *
            have HS5 := hide hs5
            have hz5 := sz_of hs5 hB2l
            have hlm6 : ¬ 9223372036854775807 < s4.size + s5.size := by omega
            clear hs5 hs4 D6 HD5 HG3 hlm3 hlm4 hlm5
            go_wp2_with fail
            generalize hsC : s4 ++ s5 = sC
            have HCC : Hid (sC = strOfNums ((op :: S.1) ++ (g.1 ++ (comsF t.nodes[a].lead ++ k.1)))) := by
              unfold Hid
              rw [← HKK.out, HKM.out, ← hsC, ← HS4.out, ← HS3.out, HS2.out, ← HSA.out, ← HSb.out, ← HS5.out, show ({ data := #[58] } : ByteArray) = strOfNums [58] from rfl]
              simp only [lstr_app]
              congr 1
              simp [List.append_assoc]
            have hzC : sC.size ≤ 3420000 := by rw [← hsC, ByteArray.size_append]; omega
            clear hsC HS4 HS3 HS2 HSA HSb HS5
        all_goals
          have HL := hide (HIH.out a S1.2.1 _ k.2 Γ _ _ _ HHA.out.1 HWK.out HDC.out.st HJN.out HJC.out)
          simp only [Sv.v] at HL
          rw [HXX.out] at HL
          refine HL.out.mono ?_
          rintro e w7 ⟨rfl, D7⟩
          have HD7 := hide (HDC.out.trans D7)
          generalize hsx : strOfNums x.1 = sx at *
          have HSx := hide hsx
          have hzx := sz_of hsx HBL.out.2.1
          have hlm7 : ¬ 9223372036854775807 < sC.size + sx.size := by omega
          have HG4 := hide (gap_k HD7.out.st HZ.out)
          rw [HHH.out] at HG4
          clear hsx D7 HL HDC
          go_wp2_with fail
          generalize hs8 : sC ++ sx = s8
          have HS8 := hide hs8
          have hz8 : s8.size ≤ 6830000 := by rw [← hs8, ByteArray.size_append]; omega
          refine HG4.out.mono ?_
          rintro e w8 ⟨rfl, D8⟩
          have HD8 := hide (HD7.out.trans D8)
          obtain ⟨⟨p0, p1⟩, p6, p7⟩ := HCELL.out _ _ HD8.out
          generalize hsh : strOfNums h'.1 = sh at *
          have HSh := hide hsh
          have hzh := sz_of hsh HBL.out.2.2
          have hlm8 : ¬ 9223372036854775807 < s8.size + sh.size := by omega
          have HN5 := hide (l5next_any t (by omega) (fun p hp h => (HG.out p hp).l.cnt h) (fun p hp => by have := (HG.out p hp).g.c; omega) d a _ S1.2.1 (by omega) HHA.out.1 HWK.out _ _ w8 ⟨HJN.out.rd HD8.out.st.mt, HJC.out.rd HD8.out.st.mt⟩)
          simp only [Sv.v] at HN5
          clear hsh hs8 D8 HD7 HG4 hlm7
          go_wp2_with fail
          generalize hs9 : s8 ++ sh = s9
          have hz9 : s9.size ≤ 6840000 := by rw [← hs9, ByteArray.size_append]; omega
          have hlm9 : ¬ 9223372036854775807 < s9.size + 1 := by omega
          have HS9 : Hid (s9 = strOfNums ((op :: S.1) ++ (g.1 ++ (comsF t.nodes[a].lead ++ (k.1 ++ (x.1 ++ h'.1)))))) := by
            unfold Hid
            rw [← hs9, ← HS8.out, HCC.out, ← HSx.out, ← HSh.out]
            simp only [lstr_app]
            congr 1
            simp [List.append_assoc]
          refine HN5.out.mono ?_
          rintro e w9 ⟨rfl, g9⟩
          have HD9 := hide (HD8.out.keep g9)
          obtain ⟨⟨p0, p1⟩, p6, p7⟩ := HCELL.out _ _ HD9.out
          clear hs9 g9 HD8 HN5 hlm8 HSx HSh HS8 HCC
          by_cases h1 : q + 1 < C
          · have hEq := HE.out
            rw [if_pos h1] at hEq
            have HEQ := hide hEq
            have h1' : (q : Int) + 1 < C := by omega
            clear hEq HE
            go_wp2
            go_roundw
            case rel => exact ⟨q + 1, _, by omega, by go_num, rfl, by rw [HS1.out], by rw [HS1.out, HEQ.out, HS9.out, show ({ data := #[44] } : ByteArray) = strOfNums [44] from rfl, lstr_app]; simp [List.append_assoc], by rw [HS1.out, HEQ.out]; exact HD9.out⟩
            case measure => simp [intOf]; omega
          · have HNy := hide (HD9.out.next HZ.out)
            have h1' : ¬ (q : Int) + 1 < C := by omega
            have hEq := HE.out
            rw [if_neg h1] at hEq
            clear HE
            have hnb := nx_bd HZ.out.by' h'.2
            by_cases h3 : (nx zs h'.2).1 % 3 = 1
            · rw [if_pos h3] at hEq
              have HEQ := hide hEq
              clear hEq
              go_wp2_with fail
              refine HNy.out.mono ?_
              rintro e wZ ⟨rfl, DZ, _⟩
              have HDZ := hide DZ
              clear DZ HNy HD9
              go_wp2
              go_roundw
              case rel => exact ⟨q + 1, _, by omega, by go_num, rfl, by rw [HS1.out], by rw [HS1.out, HEQ.out, HS9.out, show ({ data := #[44] } : ByteArray) = strOfNums [44] from rfl, lstr_app]; simp [List.append_assoc], by rw [HS1.out, HEQ.out]; exact HDZ.out⟩
              case measure => simp [intOf]; omega
            · rw [if_neg h3] at hEq
              have hb3 : ((nx zs h'.2).1 % 3 == 1) = false := by simpa using h3
              have HEQ := hide hEq
              clear hEq
              go_wp2_with fail
              refine HNy.out.mono ?_
              rintro e wZ ⟨rfl, DZ, _⟩
              have HDZ := hide DZ
              clear DZ HNy HD9
              go_wp2
              go_roundw
              case rel => exact ⟨q + 1, _, by omega, by go_num, rfl, by rw [HS1.out], by rw [HS1.out, HEQ.out, HS9.out]; simp, by rw [HS1.out, HEQ.out]; exact HDZ.out⟩
              case measure => simp [intOf]; omega
      · obtain rfl : q = C := by omega
        have HD := hide hD
        have HG1 := hide (gap_k hD.st HZ.out)
        obtain ⟨S, hS⟩ : ∃ S, lisF zs (loF zs d) q q (t.nodes.drop (j + 1)) i = S := ⟨_, rfl⟩
        obtain ⟨g, hg⟩ : ∃ g, gapF zs S.2.2 = g := ⟨_, rfl⟩
        have HPP := HP.out
        have hgl := gap_bl (zs := zs) S.2.2
        rw [hS] at HD HPP HG1 hz0 ⊢
        rw [hg] at HPP HG1 hgl
        have HPQ := hide HPP
        generalize hs0 : strOfNums (op :: S.1) = s0 at *
        have HS0 := hide hs0
        generalize hsg : strOfNums g.1 = sg at *
        have HSG := hide hsg
        have hzg := sz_of hsg hgl
        have hlm : ¬ 9223372036854775807 < s0.size + sg.size := by omega
        clear hD hS hg HPP hs0 hsg hs0l ha
        go_wp2_with fail
        refine HG1.out.mono ?_
        rintro e w1 ⟨rfl, D1⟩
        have HD1 := hide (HD.out.trans D1)
        obtain ⟨⟨p0, p1⟩, p6, p7⟩ := HCELL.out _ _ HD1.out
        have HCm := hide (looseComs_any _ nd.tail w1 (HJT.out.rd HD1.out.st.mt) HTB.out)
        simp only [Sv.v] at HCm
        have hct := coms_bl' HTB.out
        generalize hsc : strOfNums (comsF nd.tail) = sc at *
        have HSC := hide hsc
        have hzc := sz_of hsc hct
        clear D1 HG1 HD hsc
        go_wp2_with fail
        generalize hs1 : s0 ++ sg = s1
        have HS1' := hide hs1
        have hz1 : s1.size ≤ 3410011 := by rw [← hs1, ByteArray.size_append]; omega
        have hlm1 : ¬ 9223372036854775807 < s1.size + sc.size := by omega
        have hlm2 : ¬ 9223372036854775807 < (s1 ++ sc).size + 1 := by rw [ByteArray.size_append]; omega
        have hlm3 : ¬ 9223372036854775807 < s1.size + sc.size + 1 := by omega
        refine HCm.out.mono ?_
        rintro e w2 ⟨rfl, g2⟩
        have HD2 := hide (HD1.out.keep g2)
        clear hs1 g2 HCm HD1 hlm
        go_wp2
        go_ret
        rw [HPQ.out]
        refine ⟨?_, HD3.out.trans HD2.out⟩
        rw [← HS1'.out, ← HS0.out, ← HSG.out, ← HSC.out, HCL.out]
        first | rw [show ({ data := #[93] } : ByteArray) = strOfNums [93] from rfl] | rw [show ({ data := #[125] } : ByteArray) = strOfNums [125] from rfl]
        simp only [lstr_app]
        simp [List.append_assoc]
end Go.Proofs.YtakkdniikhgpdaaGreatDoor

