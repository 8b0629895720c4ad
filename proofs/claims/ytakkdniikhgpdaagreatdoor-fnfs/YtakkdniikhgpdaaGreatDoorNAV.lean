import Derived.Test.YtakkdniikhgpdaaGreatDoorMAL
import Derived.Test.YtakkdniikhgpdaaGreatDoorMAM
import Derived.Test.YtakkdniikhgpdaaGreatDoorNAO
import Derived.Test.YtakkdniikhgpdaaGreatDoorNAP
import Derived.Test.YtakkdniikhgpdaaGreatDoorNAU
namespace Go.Proofs.YtakkdniikhgpdaaGreatDoor
open Go.RowKit

theorem loose_any {F : Nat} {v : Value} {zs : List Int} (hz : Zk zs) (t : Tre) (hG : ∀ p ∈ t.nodes, Gx p) (hN : t.nodes.length ≤ 341) : ∀ (d : Nat), d ≤ 9 → LoOk F v zs t d
  | 0, _ => fun j R2 m i Γ w nv tv hj hw => by simp [walkL] at hw
  | d + 1, hd => fun j R2 m i Γ w nv tv hj hw hs hJN hJC => by
    have hdr : t.nodes.drop j = t.nodes[j] :: t.nodes.drop (j + 1) := List.drop_eq_getElem_cons hj
    by_cases h5 : t.nodes[j].k < 5
    · exact loose_scal hz t hG hN d j i Γ w nv tv hj h5 hs hJN hJC
    · rw [hdr] at hw
      by_cases hm : t.nodes[j].mem ≠ m
      · simp [walkL, hm] at hw
      · by_cases hd0 : 5 ≤ t.nodes[j].k ∧ d = 0
        · simp [walkL, hm, hd0, triv] at hw
        · simp only [walkL, if_neg hm, if_neg hd0, triv, Option.bind_some] at hw
          exact loose_cont hz t hG hN d (by omega) (loose_any hz t hG hN d (by omega)) j i Γ w nv tv hj h5 R2 hw hs hJN hJC
set_option maxHeartbeats 4000000 in
set_option maxRecDepth 100000 in
/-- spec.l6looseTree. -/
theorem looseTree_k {F : Nat} {v : Value} {zs : List Int} (hz : Zk zs) (t : Tre) (hG : ∀ p ∈ t.nodes, Gx p) (hN : t.nodes.length ≤ 341) (hT : t.tail.length ≤ 64 ∧ ∀ c ∈ t.tail, CmB 64 c) (hw : walkL triv 9 false (t.nodes, ()) = some ([], ())) (i : Nat) (Γ : Gk) (w : World) (nv tv : Sv) (hs : KS F v zs i Γ w) (hJN : JN (Pre Γ) nv t.nodes) (hJC : JC (Pre Γ) tv t.tail) :
    Calls Tryz.prog 62 #[.agg #[nv.v, tv.v], .pointer (some ⟨F, 0, none⟩)] w fun e w' => ∃ v', e = .returned v' ∧ Ab F w' v' (ltF zs t.nodes t.tail i).1 ∧ KD F v zs Γ w (ltF zs t.nodes t.tail i).2 Γ w' := by
  have h0 : 0 < t.nodes.length := by
    rcases hh : t.nodes with _ | ⟨n, R⟩
    · rw [hh] at hw; simp [walkL] at hw
    · simp
  have hdr : t.nodes = t.nodes[0] :: t.nodes.drop 1 := by rw [← List.drop_eq_getElem_cons h0]; rfl
  have HP : Hid (ltF zs t.nodes t.tail i = ((gapF zs i).1 ++ (comsF t.nodes[0].lead ++ ((loF zs 9 t.nodes (gapF zs i).2).1 ++ ((gapF zs (loF zs 9 t.nodes (gapF zs i).2).2.2).1 ++ comsF t.tail))), (gapF zs (loF zs 9 t.nodes (gapF zs i).2).2.2).2)) := by
    unfold Hid
    generalize hn0 : t.nodes[0] = n0 at *
    generalize t.nodes.drop 1 = R at *
    rw [hdr]
    rfl
  have HBL := hide (lt_bl (zs := zs) hG hN hT i)
  have eT := hJC.len hs.mt
  obtain ⟨ta, tn, tcap⟩ := tv
  simp only at eT
  cases eT
  obtain ⟨b, off, cap, rfl, hc1, hc2, hFb, hbw, hat⟩ := hJN.base hs.mt (by omega)
  unfold maxLen at hc2
  obtain ⟨wA, hwA⟩ : ∃ wA, wA = w.alloc (Obj.cells #[.slice (some ⟨b, off, none⟩) t.nodes.length cap, .slice ta t.tail.length tcap] 100) := ⟨_, rfl⟩
  have gA : w.grownBy wA none := by rw [hwA]; exact World.grownBy_alloc _ _ _
  have gd : wA.grownBy wA.drew none := ⟨rfl, rfl, rfl, Nat.le_refl _, fun _ _ _ => rfl⟩
  have DA := ((KD.refl hs).keep gA).keep gd
  have HDA := hide DA
  have hFw := hs.lt
  have q0 : wA.drew.cell? ⟨w.heap.size, 0, none⟩ = some (.slice (some ⟨b, off, none⟩) t.nodes.length cap) := gd.cell (by rw [hwA]; simp [go_sem]) (by simp)
  have q1 : wA.drew.cell? ⟨w.heap.size, 1, none⟩ = some (.slice ta t.tail.length tcap) := gd.cell (by rw [hwA]; simp [go_sem]) (by simp)
  obtain ⟨l, y, x0, u, tl, hp⟩ := hat wA.drew DA.st.mt 0 h0
  rw [show off + 0 * 8 = off by omega] at hp
  have HG1 := hide (gap_k DA.st hz)
  have HCELL : Hid (∀ (x : Nat) (W : World), KD F v zs Γ wA.drew x Γ W → W.cell? ⟨w.heap.size, 0, none⟩ = some (.slice (some ⟨b, off, none⟩) t.nodes.length cap) ∧ W.cell? ⟨w.heap.size, 1, none⟩ = some (.slice ta t.tail.length tcap)) := fun x W D => ⟨D.gr.cell q0 (by simp; omega), D.gr.cell q1 (by simp; omega)⟩
  have hg0 := hG _ (List.getElem_mem h0)
  obtain ⟨I, hI⟩ : ∃ I : World → Prop, I = (fun W => W.cell? ⟨w.heap.size, 0, none⟩ = some (.slice (some ⟨b, off, none⟩) t.nodes.length cap) ∧ W.cell? ⟨b, off + 1, none⟩ = some (.slice l.1 t.nodes[0].lead.length l.2)) := ⟨_, rfl⟩
  have HI0 : I wA.drew := by rw [hI]; exact ⟨q0, hp.lead⟩
  have HIK : Hid (∀ (W W' : World) (r : Option Nat), I W → W.grownBy W' r → (r = none ∨ r = some F) → I W') := fun W W' r h g hr => by
    rw [hI] at h ⊢
    rcases hr with rfl | rfl
    · exact ⟨g.cell h.1 (by simp), g.cell h.2 (by simp)⟩
    · exact ⟨g.cell h.1 (by simp; omega), g.cell h.2 (by simp; omega)⟩
  have HJL := hide hp.jl
  have HWK := hide hw
  have HJN := hide hJN
  have HJC := hide hJC
  have HZ := hide hz
  have HGG := hide hG
  have HTT := hide hT
  obtain ⟨G1, hG1⟩ : ∃ G1, gapF zs i = G1 := ⟨_, rfl⟩
  obtain ⟨X, hX⟩ : ∃ X, loF zs 9 t.nodes G1.2 = X := ⟨_, rfl⟩
  obtain ⟨G2, hG2⟩ : ∃ G2, gapF zs X.2.2 = G2 := ⟨_, rfl⟩
  have hb1 := gap_bl (zs := zs) i
  have hb2 := gap_bl (zs := zs) X.2.2
  have hxl : BL 3410000 X.1 := by
    have := lo_ln (zs := zs) 9 t.nodes[0] (t.nodes.drop 1) G1.2 (fun p hp => hG p (by rw [← hdr] at hp; exact hp))
    rw [← hdr, hX] at this
    exact ⟨by have := this.1; omega, this.2⟩
  have hcl := coms_bl' hg0.g.b.lead
  have hct := coms_bl' hT
  have hlead := hg0.g.b.lead
  have HLEAD := hide hlead
  rw [hG1] at hb1 HG1 HP
  rw [hX] at HP
  rw [hG2] at hb2 HP
  have HX := hide hX
  have HG2 := hide hG2
  simp only [Sv.v]
  have HWA := hide hwA
  rw [HWA.out] at gA
  clear hdr hw hat hp hs hJN hJC hz hG hT hX hG2 DA hg0 gA gd hG1 hlead
  go_enter Tryz.func62, Tryz.ntmps62
  go_wp2
  rw [← HWA.out]
  generalize t.nodes[0].lead = LD at *
  refine region_anyI I (fun _ => false) (by kernel_rfl) ?_
  show anyI _ _ _ _ _ _ 10 (Array.replicate 10 false) _ _
  refine anyI_take (i := 0) (.pointer (some ⟨F, 0, none⟩)) rfl (by kernel_rfl) (by kernel_rfl) (by kernel_rfl) (by kernel_rfl) (fun _ _ _ h => h) HI0 (yldI rfl (fun W hW => by go_simp)) ?_
  refine anyI_take (i := 2) (.pointer (some ⟨w.heap.size, 0, none⟩)) rfl (by kernel_rfl) (by kernel_rfl) (by kernel_rfl) (by kernel_rfl) (fun _ _ _ h => h) HI0 (yldI rfl (fun W hW => by go_simp)) ?_
  refine anyI_take (i := 3) (.slice (some ⟨b, off, none⟩) t.nodes.length cap) rfl (by kernel_rfl) (by kernel_rfl) (by kernel_rfl) (by kernel_rfl) (fun _ _ _ h => h) HI0 (yldI rfl (fun W hW => by rw [hI] at hW; obtain ⟨h1, h2⟩ := hW; go_simp)) ?_
  refine anyI_take (i := 4) (.pointer (some ⟨b, off, none⟩)) rfl (by kernel_rfl) (by kernel_rfl) (by kernel_rfl) (by kernel_rfl) (fun _ _ _ h => h) HI0 (yldI rfl (fun W hW => by go_simp)) ?_
  refine anyI_take (i := 5) (.pointer (some ⟨b, off + 1, none⟩)) rfl (by kernel_rfl) (by kernel_rfl) (by kernel_rfl) (by kernel_rfl) (fun _ _ _ h => h) HI0 (yldI rfl (fun W hW => by go_simp)) ?_
  refine anyI_take (i := 6) (.slice l.1 LD.length l.2) rfl (by kernel_rfl) (by kernel_rfl) (by kernel_rfl) (by kernel_rfl) (fun _ _ _ h => h) HI0 (yldI rfl (fun W hW => by rw [hI] at hW; obtain ⟨h1, h2⟩ := hW; go_simp)) ?_
  generalize hGa : Act.put _ _ _ = A0
  simp [Act.put] at hGa
  subst hGa
  refine anyI_one (i := 1) (by kernel_rfl) (wpOp_call rfl rfl (by go_simp) HG1.out ?_)
  rintro e w1 ⟨rfl, D1⟩
  have HI1 := HIK.out _ _ _ HI0 D1.gr (.inr rfl)
  refine ⟨_, rfl, .inr HI1, ?_⟩
  have HCm := hide (looseComs_any _ LD w1 (HJL.out.rd D1.st.mt) HLEAD.out)
  simp only [Sv.v] at HCm
  have HD1 := hide D1
  clear D1 HG1
  refine anyI_one (i := 7) (by kernel_rfl) (wpOp_call rfl rfl (by go_simp) HCm.out ?_)
  rintro e w2 ⟨rfl, g2⟩
  have HI2 := HIK.out _ _ _ HI1 g2 (.inl rfl)
  refine ⟨_, rfl, .inr HI2, ?_⟩
  have D2 := HD1.out.keep g2
  have HD2 := hide D2
  obtain ⟨p0, p1⟩ := HCELL.out _ _ D2
  generalize hs1 : strOfNums G1.1 = s1 at *
  generalize hs2 : strOfNums (comsF LD) = s2 at *
  have hz1 := sz_of hs1 hb1
  have hz2 := sz_of hs2 hcl
  have HS1 := hide hs1
  have HS2 := hide hs2
  have hlm : ¬ 9223372036854775807 < s1.size + s2.size := by omega
  clear D2 g2 HCm HD1 hs1 hs2
  refine anyI_one (i := 8) (by kernel_rfl) (wpOp_val (w' := w2) (v := .string (s1 ++ s2)) rfl rfl (by go_simp) ⟨.inr HI2, ?_⟩)
  refine anyI_one (i := 9) (by kernel_rfl) (wpOp_val (w' := w2) (v := .string (s1 ++ s2)) rfl rfl (by go_simp) ⟨.inr HI2, ?_⟩)
  refine anyI_done (by kernel_rfl) ?_ _
  generalize hs3 : s1 ++ s2 = s3
  have hz3 : s3.size ≤ 4500 := by rw [← hs3, ByteArray.size_append]; omega
  have HS3 := hide hs3
  have HL := hide (loose_any HZ.out t HGG.out (by omega) 9 (by omega) 0 [] false G1.2 Γ w2 _ _ h0 (by simpa using HWK.out) HD2.out.st HJN.out HJC.out)
  simp only [Sv.v, List.drop_zero] at HL
  rw [HX.out] at HL
  clear HI0 HI1 HI2 HIK hs3
  subst hI
  go_wp2_with fail
  refine HL.out.mono ?_
  rintro e w3 ⟨rfl, D3⟩
  have HD3 := hide (HD2.out.trans D3)
  generalize hs4 : strOfNums X.1 = s4 at *
  have HS4 := hide hs4
  have hz4 := sz_of hs4 hxl
  have hlm4 : ¬ 9223372036854775807 < s3.size + s4.size := by omega
  have HG3 := hide (gap_k HD3.out.st HZ.out)
  rw [HG2.out] at HG3
  clear hs4 D3 HD2 HL
  go_wp2_with fail
  generalize hs5 : s3 ++ s4 = s5
  have HS5 := hide hs5
  have hz5 : s5.size ≤ 3420000 := by rw [← hs5, ByteArray.size_append]; omega
  refine HG3.out.mono ?_
  rintro e w4 ⟨rfl, D4⟩
  have HD4 := hide (HD3.out.trans D4)
  obtain ⟨p0, p1⟩ := HCELL.out _ _ HD4.out
  generalize hs6 : strOfNums G2.1 = s6 at *
  have HS6 := hide hs6
  have hz6 := sz_of hs6 hb2
  have hlm5 : ¬ 9223372036854775807 < s5.size + s6.size := by omega
  have HCt := hide (looseComs_any _ t.tail w4 (HJC.out.rd HD4.out.st.mt) HTT.out)
  simp only [Sv.v] at HCt
  clear hs6 D4 HD3 HG3 hs5
  go_wp2_with fail
  generalize hs7 : s5 ++ s6 = s7
  have HS7 := hide hs7
  have hz7 : s7.size ≤ 3430000 := by rw [← hs7, ByteArray.size_append]; omega
  refine HCt.out.mono ?_
  rintro e w5 ⟨rfl, g5⟩
  have HD5 := hide (HD4.out.keep g5)
  generalize hs8 : strOfNums (comsF t.tail) = s8 at *
  have hz8 := sz_of hs8 hct
  have hlm6 : ¬ 9223372036854775807 < s7.size + s8.size := by omega
  have hE : s7 ++ s8 = strOfNums (ltF zs t.nodes t.tail i).1 := by
    rw [HP.out, ← hs8, ← HS7.out, ← HS5.out, ← HS6.out, ← HS3.out, ← HS4.out, ← HS1.out, ← HS2.out]
    simp only [lstr_app, List.append_assoc]
  obtain ⟨cap6, w6, run6, t6, g6, _, _⟩ := conv_bytes (ltF zs t.nodes t.tail i).1 HBL.out.2 (by have := HBL.out.1; omega) w5
  rw [← hE] at run6
  have HA6 := hide (ab_tx t6 (show F < w5.heap.size by have := HD5.out.gr.size; have := HD5.out.lt; omega))
  have HD6 := hide (HDA.out.trans (HD5.out.keep g6))
  have HEE := hide (congrArg Prod.snd HP.out)
  clear hs8 hs7 g5 t6 g6 HD5 HD4 hE HP
  generalize (ltF zs t.nodes t.tail i).1.length = LL at run6 HA6
  go_wp2
  go_ret
  exact ⟨_, rfl, HA6.out, by rw [HEE.out]; exact HD6.out⟩
end Go.Proofs.YtakkdniikhgpdaaGreatDoor

namespace Go.Proofs.YtakkdniikhgpdaaGreatDoor
open Go.RowKit
attribute [-go_sem] Builtin.append_

/-! A drawn text. -/
def txtW : List (List Int) := [[], [47, 47, 32, 111, 110, 108, 121], [49, 32, 50], [91, 44, 93], [91, 49, 44, 44, 50, 93], [123, 44, 125], [123, 97, 125], [123, 97, 58, 125], [123, 97, 58, 49, 44, 44, 125], [123, 49, 58, 50, 125], [123, 97, 58, 49, 32, 98, 58, 50, 125], [91, 49, 32, 50, 93], [93], [91, 49, 125], [123, 97, 58, 49, 93], [102, 111, 111], [123, 110, 117, 108, 108, 58, 110, 117, 108, 108, 44, 116, 114, 117, 101, 58, 116, 114, 117, 101, 44, 73, 110, 102, 105, 110, 105, 116, 121, 58, 78, 97, 78, 125], [47, 42], [47], [91, 47, 42, 93], [39], [123, 39, 97, 39, 125], [110, 117, 108], [45], [91, 49, 44, 50], [123, 97, 58, 91], [239, 187, 191, 49], [43, 73, 110, 102, 105, 110, 105, 116, 121], [49, 47, 42, 42, 47], [73, 110, 102, 105, 110, 105, 116, 121, 47, 47, 120]]
def txGood (zs : List Int) (i : Nat) : List Int × Nat := ltF zs (dGood zs i).1.1 (dGood zs i).1.2 (dGood zs i).2
def txF (zs : List Int) (i : Nat) : List Int × Nat :=
  if (nx zs i).1 = 9 then (List.replicate (3999 + (nx zs (nx zs i).2).1 % 3).toNat 32, (nx zs (nx zs i).2).2)
  else if (nx zs i).1 = 10 then (List.replicate (20 + (nx zs (nx zs i).2).1).toNat 91 ++ List.replicate (20 + (nx zs (nx zs i).2).1).toNat 93, (nx zs (nx zs i).2).2)
  else if (nx zs i).1 % 16 = 1 then (txtW.getD ((nx zs (nx zs i).2).1 % 30).toNat [], (nx zs (nx zs i).2).2)
  else if (nx zs i).1 % 8 = 2 then mutF zs (txGood zs (nx zs i).2).1 (txGood zs (nx zs i).2).2 else txGood zs (nx zs i).2
theorem bl_rep {c : Int} (hc : 0 ≤ c ∧ c ≤ 255) (n : Nat) : BL n (List.replicate n c) := ⟨by simp, fun z hz => by rw [List.eq_of_mem_replicate hz]; exact hc⟩
theorem good_gx {zs : List Int} (hz : Bys zs) (i : Nat) : (∀ p ∈ (dGood zs i).1.1, Gx p) ∧ (dGood zs i).1.1.length ≤ 341 ∧ ((dGood zs i).1.2.length ≤ 64 ∧ ∀ c ∈ (dGood zs i).1.2, CmB 64 c) := by
  obtain ⟨h1, h2, h3, h4⟩ := good_gn hz i
  exact ⟨fun p hp => ⟨h1 p hp, good_gl hz i p hp⟩, h2.2, h3, h4⟩
theorem txGood_bl {zs : List Int} (hz : Bys zs) (i : Nat) : BL 4000000 (txGood zs i).1 := by
  obtain ⟨h1, h2, h3⟩ := good_gx hz i
  exact lt_bl h1 h2 h3 _
theorem tx_bl {zs : List Int} (hz : Bys zs) (i : Nat) : BL 8000002 (txF zs i).1 := by
  have hb := nx_bd hz (nx zs i).2
  unfold txF
  split
  · exact (bl_rep (by omega) _).up (by omega)
  · split
    · exact (bl_rep (by omega) _).app (bl_rep (by omega) _) (by omega)
    · split
      · exact (BLs.at (L := 64) (by decide) _).up (by omega)
      · split
        · exact mut_bl (txGood_bl hz _) _
        · exact (txGood_bl hz _).up (by omega)

set_option maxHeartbeats 8000000 in
set_option maxRecDepth 100000 in
/-- spec.l6drawText. -/
theorem drawText_k {F : Nat} {v : Value} {zs : List Int} (hz : Zk zs) (i : Nat) (Γ : Gk) (w : World) (hs : KS F v zs i Γ w) :
    Calls Tryz.prog 55 #[.pointer (some ⟨F, 0, none⟩)] w fun e w' => ∃ v' Γ', e = .returned v' ∧ Ab F w' v' (txF zs i).1 ∧ KD F v zs Γ w (txF zs i).2 Γ' w' := by
  have HZ := hide hz
  have HN1 := hide ((KD.refl hs).next hz)
  have hb1 := nx_bd hz.by' i
  have hb2 := nx_bd hz.by' (nx zs i).2
  have hFw := hs.lt
  have HP : Hid (txF zs i = if (nx zs i).1 = 9 then (List.replicate (3999 + (nx zs (nx zs i).2).1 % 3).toNat 32, (nx zs (nx zs i).2).2)
    else if (nx zs i).1 = 10 then (List.replicate (20 + (nx zs (nx zs i).2).1).toNat 91 ++ List.replicate (20 + (nx zs (nx zs i).2).1).toNat 93, (nx zs (nx zs i).2).2)
    else if (nx zs i).1 % 16 = 1 then (txtW.getD ((nx zs (nx zs i).2).1 % 30).toNat [], (nx zs (nx zs i).2).2)
    else if (nx zs i).1 % 8 = 2 then mutF zs (txGood zs (nx zs i).2).1 (txGood zs (nx zs i).2).2 else txGood zs (nx zs i).2) := rfl
  have HGD : Hid (∀ W Γ', KS F v zs (nx zs i).2 Γ' W → _) := fun W Γ' (h : KS F v zs (nx zs i).2 Γ' W) => drawGood_k hz (nx zs i).2 Γ' W h
  have HGX := hide (good_gx hz.by' (nx zs i).2)
  have HGW := hide (good_walk (zs := zs) (nx zs i).2)
  have HTB := hide (txGood_bl hz.by' (nx zs i).2)
  have HTG : Hid (txGood zs (nx zs i).2 = ltF zs (dGood zs (nx zs i).2).1.1 (dGood zs (nx zs i).2).1.2 (dGood zs (nx zs i).2).2) := rfl
  have HN2' : Hid (∀ W, KD F v zs Γ w (nx zs i).2 Γ W → _) := fun W (D : KD F v zs Γ w (nx zs i).2 Γ W) => D.next hz
  generalize txGood zs (nx zs i).2 = TG at *
  generalize dGood zs (nx zs i).2 = DG at *
  generalize nx zs (nx zs i).2 = n2 at *
  generalize nx zs i = n1 at *
  clear hs hz
  go_enter Tryz.func55, Tryz.ntmps55
  go_wp2_with fail
  refine HN1.out.mono ?_
  rintro e w1 ⟨rfl, D1, _⟩
  have HN2 := hide (HN2'.out w1 D1)
  have HD1 := hide D1
  have hw1 := D1.gr.size
  clear HN1 D1
  by_cases h9 : n1.1 = 9
  · have HE := hide (HP.out.trans (if_pos h9))
    clear HP HGD HGX HGW HTB HTG
    rw [h9]
    go_wp2_with fail
    refine HN2.out.mono ?_
    rintro e w2 ⟨rfl, D2, _⟩
    have hq : 3999 + n2.1 % 3 = ((3999 + n2.1 % 3).toNat : Int) := by omega
    have HF := hide (fill_any 32 (3999 + n2.1 % 3).toNat w2 (by omega))
    rw [← hq] at HF
    have HD2 := hide D2
    have hw2 := D2.gr.size
    clear D2 HN2 hq
    go_wp2_with fail
    refine HF.out.mono ?_
    rintro e w3 ⟨v3, rfl, o3, g3⟩
    have HA := hide (ab_bw (F := F) o3 (by omega))
    have HD3 := hide (HD2.out.keep g3)
    obtain ⟨a3, c3, hv3, _, _⟩ := o3.sl
    generalize (List.replicate (3999 + n2.1 % 3).toNat (32 : Int)).length = LL at hv3
    subst hv3
    clear o3 g3 HD2 HF
    go_wp2
    go_ret
    rw [HE.out]
    exact ⟨_, Γ, rfl, HA.out, HD3.out⟩
  have hP2 := HP.out.trans (if_neg h9)
  have b9 : (n1.1 == 9) = false := by simpa using h9
  by_cases h10 : n1.1 = 10
  · have HE := hide (hP2.trans (if_pos h10))
    clear HP hP2 HGD HGX HGW HTB HTG
    rw [h10]
    go_wp2_with fail
    refine HN2.out.mono ?_
    rintro e w2 ⟨rfl, D2, _⟩
    obtain ⟨N, hN⟩ : ∃ N : Nat, (20 + n2.1).toNat = N := ⟨_, rfl⟩
    have hq : 20 + n2.1 = (N : Int) := by omega
    have hNb : N ≤ 300 := by omega
    rw [hN] at HE
    have HF := hide (fill_any 91 N w2 (by omega))
    have HF2 : Hid (∀ W : World, _) := fun W => fill_any 93 N W (by omega)
    have HD2 := hide D2
    have hw2 := D2.gr.size
    rw [← hq] at HF HF2
    clear D2 HN2 hN hq
    go_wp2_with fail
    refine HF.out.mono ?_
    rintro e w3 ⟨v3, rfl, o3, g3⟩
    have HO3 := hide o3
    have G3 := hide g3
    obtain ⟨a3, c3, hv3, _, _⟩ := o3.sl
    rw [List.length_replicate] at hv3
    subst hv3
    clear o3 g3 HF
    go_wp2_with fail
    refine (HF2.out w3).mono ?_
    rintro e w4 ⟨v4, rfl, o4, g4⟩
    obtain ⟨v5, w5, run5, o5, g5, _⟩ := bw_app w2.heap.size w4 _ v4 _ _ (HO3.out.keep g4) o4.rd (Nat.le_trans G3.out.size g4.size) (by simp; omega)
    have HA := hide (ab_bw (F := F) o5 (by omega))
    have HD5 := hide (HD2.out.keep (grown_new (grown_trans G3.out g4) g5 (fun j e => (HO3.out.lt j e).1)))
    obtain ⟨a4, c4, hv4, _, _⟩ := o4.sl
    obtain ⟨a5, c5, hv5, _, _⟩ := o5.sl
    rw [List.length_replicate] at hv4
    rw [List.length_append, List.length_replicate, List.length_replicate] at hv5
    subst hv4 hv5
    clear o4 o5 g4 g5 HO3 G3 HD2 HF2
    go_wp2
    go_ret
    rw [HE.out]
    exact ⟨_, Γ, rfl, HA.out, HD5.out⟩
  have hP3 := hP2.trans (if_neg h10)
  have b10 : (n1.1 == 10) = false := by simpa using h10
  clear hP2 HP
  by_cases h16 : n1.1 % 16 = 1
  · have HE := hide (hP3.trans (if_pos h16))
    clear hP3 HGD HGX HGW HTB HTG HN2
    have gA := World.grownBy_alloc w1 (Obj.cells #[.string { data := #[] }, .string { data := #[47, 47, 32, 111, 110, 108, 121] }, .string { data := #[49, 32, 50] }, .string { data := #[91, 44, 93] }, .string { data := #[91, 49, 44, 44, 50, 93] }, .string { data := #[123, 44, 125] }, .string { data := #[123, 97, 125] }, .string { data := #[123, 97, 58, 125] }, .string { data := #[123, 97, 58, 49, 44, 44, 125] }, .string { data := #[123, 49, 58, 50, 125] }, .string { data := #[123, 97, 58, 49, 32, 98, 58, 50, 125] }, .string { data := #[91, 49, 32, 50, 93] }, .string { data := #[93] }, .string { data := #[91, 49, 125] }, .string { data := #[123, 97, 58, 49, 93] }, .string { data := #[102, 111, 111] }, .string { data := #[123, 110, 117, 108, 108, 58, 110, 117, 108, 108, 44, 116, 114, 117, 101, 58, 116, 114, 117, 101, 44, 73, 110, 102, 105, 110, 105, 116, 121, 58, 78, 97, 78, 125] }, .string { data := #[47, 42] }, .string { data := #[47] }, .string { data := #[91, 47, 42, 93] }, .string { data := #[39] }, .string { data := #[123, 39, 97, 39, 125] }, .string { data := #[110, 117, 108] }, .string { data := #[45] }, .string { data := #[91, 49, 44, 50] }, .string { data := #[123, 97, 58, 91] }, .string { data := #[239, 187, 191, 49] }, .string { data := #[43, 73, 110, 102, 105, 110, 105, 116, 121] }, .string { data := #[49, 47, 42, 42, 47] }, .string { data := #[73, 110, 102, 105, 110, 105, 116, 121, 47, 47, 120] }] 9) none
    have HN2 := hide (HN2'.out _ (HD1.out.keep gA))
    have hce := lit_cellK w1 txtW 9 (n2.1 % 30).toNat (by simp [txtW]; omega) #[.string { data := #[] }, .string { data := #[47, 47, 32, 111, 110, 108, 121] }, .string { data := #[49, 32, 50] }, .string { data := #[91, 44, 93] }, .string { data := #[91, 49, 44, 44, 50, 93] }, .string { data := #[123, 44, 125] }, .string { data := #[123, 97, 125] }, .string { data := #[123, 97, 58, 125] }, .string { data := #[123, 97, 58, 49, 44, 44, 125] }, .string { data := #[123, 49, 58, 50, 125] }, .string { data := #[123, 97, 58, 49, 32, 98, 58, 50, 125] }, .string { data := #[91, 49, 32, 50, 93] }, .string { data := #[93] }, .string { data := #[91, 49, 125] }, .string { data := #[123, 97, 58, 49, 93] }, .string { data := #[102, 111, 111] }, .string { data := #[123, 110, 117, 108, 108, 58, 110, 117, 108, 108, 44, 116, 114, 117, 101, 58, 116, 114, 117, 101, 44, 73, 110, 102, 105, 110, 105, 116, 121, 58, 78, 97, 78, 125] }, .string { data := #[47, 42] }, .string { data := #[47] }, .string { data := #[91, 47, 42, 93] }, .string { data := #[39] }, .string { data := #[123, 39, 97, 39, 125] }, .string { data := #[110, 117, 108] }, .string { data := #[45] }, .string { data := #[91, 49, 44, 50] }, .string { data := #[123, 97, 58, 91] }, .string { data := #[239, 187, 191, 49] }, .string { data := #[43, 73, 110, 102, 105, 110, 105, 116, 121] }, .string { data := #[49, 47, 42, 42, 47] }, .string { data := #[73, 110, 102, 105, 110, 105, 116, 121, 47, 47, 120] }] rfl
    have hb3 : BL 64 (txtW.getD (n2.1 % 30).toNat []) := BLs.at (by decide) _
    generalize txtW.getD (n2.1 % 30).toNat [] = tt at *
    clear HN2' HD1 gA
    go_wp2_with fail
    refine HN2.out.mono ?_
    rintro e w2 ⟨rfl, D2, g2⟩
    have hce2 := g2.cell hce (by simp; omega)
    obtain ⟨cap6, w6, run6, t6, g6, _, _⟩ := conv_bytes tt hb3.2 (by have := hb3.1; omega) w2
    have HA6 := hide (ab_tx t6 (show F < w2.heap.size by have := D2.gr.size; omega))
    have HD6 := hide (D2.keep g6)
    generalize tt.length = LL at run6 HA6
    clear D2 g2 t6 g6 HN2 hce
    go_wp2
    go_ret
    rw [HE.out]
    exact ⟨_, Γ, rfl, HA6.out, HD6.out⟩
  · have b16 : (n1.1 % 16 == 1) = false := by simpa using h16
    have hP4 := hP3.trans (if_neg h16)
    have HG1 := hide (HGD.out w1 Γ HD1.out.st)
    clear hP3 HN2 HN2' HGD
    go_wp2_with fail
    refine HG1.out.mono ?_
    rintro e w2 ⟨na, nn, nc, ta, tn, tc, rfl, Γ', hJN, hJC, D2⟩
    have hJN' : JN (Pre Γ') (na, nn, nc) (⟨DG.1.1, DG.1.2⟩ : Tre).nodes := by
      obtain ⟨els, e1, e2⟩ := hJN
      exact ⟨els, e1.pre, e2.mono (fun e c => JD.mono (Pre.rle Γ'))⟩
    have hJC' : JC (Pre Γ') (ta, tn, tc) (⟨DG.1.1, DG.1.2⟩ : Tre).tail := hJC.mono (Pre.rle Γ').b (Pre.rle Γ').c
    have HD2 := hide (HD1.out.trans D2)
    have HLT : Hid (∀ W, w2.grownBy W none → _) := fun W (g : w2.grownBy W none) => looseTree_k HZ.out ⟨DG.1.1, DG.1.2⟩ HGX.out.1 HGX.out.2.1 HGX.out.2.2 HGW.out DG.2 Γ' W _ _ (HD2.out.keep g).st hJN' hJC'
    simp only [Sv.v] at HLT
    rw [← HTG.out] at HLT
    clear hJN hJC D2 HG1 hJN' hJC' HD1
    go_wp2_with fail
    have gA := World.grownBy_alloc w2 (Obj.cells #[.slice na nn nc, .slice ta tn tc] 100) none
    refine (HLT.out _ gA).mono ?_
    rintro e w3 ⟨v3, rfl, hA3, D3⟩
    have HD3 := hide ((HD2.out.keep gA).trans D3)
    have HA3 := hide hA3
    obtain ⟨a3, c3, hv3, _, _⟩ := hA3.1
    clear D3 hA3 HLT HD2 gA
    by_cases h8 : n1.1 % 8 = 2
    · have HE := hide (hP4.trans (if_pos h8))
      have HM := hide (mutate_k HZ.out TG.2 Γ' w3 HD3.out.st v3 TG.1 HA3.out HTB.out.1)
      generalize TG.1.length = LT at *
      subst hv3
      clear hP4
      go_wp2_with fail
      refine HM.out.mono ?_
      rintro e w4 ⟨v4, rfl, hA4, D4⟩
      have HA4 := hide hA4
      have HD4 := hide (HD3.out.trans D4)
      obtain ⟨a4, c4, hv4, _, _⟩ := hA4.1
      generalize (mutF zs TG.1 TG.2).1.length = LM at *
      subst hv4
      clear hA4 D4 HM HD3 HA3
      go_wp2
      go_ret
      rw [HE.out]
      exact ⟨_, Γ', rfl, HA4.out, HD4.out⟩
    · have HE := hide (hP4.trans (if_neg h8))
      have b8 : (n1.1 % 8 == 2) = false := by simpa using h8
      generalize TG.1.length = LT at *
      subst hv3
      clear hP4
      go_wp2
      go_ret
      rw [HE.out]
      exact ⟨_, Γ', rfl, HA3.out, HD3.out⟩
end Go.Proofs.YtakkdniikhgpdaaGreatDoor

namespace Go.Proofs.YtakkdniikhgpdaaGreatDoor
open Go.RowKit

/-! Drawn file systems, as plain lists. -/
def namW : List (List Int) := [[97, 46, 106, 115, 111, 110], [98], [97, 46, 106, 115, 111, 110, 46, 116, 109, 112], [99, 111, 110, 102, 47, 120, 46, 106, 115, 111, 110, 53], [122, 122], [98, 46, 116, 109, 112]]
def cutD (t : List Int) : List Int := if 2000 < t.length then t.take 20 else t
def flOf (k : Int) (t : List Int) : Fl := ⟨namW.getD (k % 6).toNat [], cutD t, if k / 6 % 5 = 0 then k % (((cutD t).length : Int) + 1) else ((cutD t).length : Int)⟩
def fsN (zs : List Int) : Nat → Nat → List Fl × Nat
  | 0, i => ([], i)
  | m + 1, i => (withF (fsN zs m i).1 (flOf (nx zs (fsN zs m i).2).1 (txF zs (nx zs (fsN zs m i).2).2).1), (txF zs (nx zs (fsN zs m i).2).2).2)
def fName (m : Nat) : List Int := [102, 97 + ((m / 26 : Nat) : Int), 97 + ((m % 26 : Nat) : Int)]
def fillN (fs : List Fl) : Nat → List Fl
  | 0 => fs
  | m + 1 => withF (fillN fs m) ⟨fName m, [], 0⟩
def dFs (zs : List Int) (i : Nat) : List Fl × Nat :=
  let s := fsN zs ((nx zs i).1 % 5).toNat (nx zs i).2
  (if (nx zs s.2).1 = 3 then fillN s.1 (49 - s.1.length) else s.1, (nx zs s.2).2)
def modF (fs : List Fl) (q : Nat) (g : Fl → Fl) : List Fl := match fs[q]? with | some p => fs.set q (g p) | none => fs
def sp5 (zs : List Int) : Nat → List Fl → Nat → List Fl × Nat
  | 0, fs, i => (fs, i)
  | m + 1, fs, i => if (fs.length : Int) < 50 + (nx zs i).1 % 2 then sp5 zs m (fs ++ [⟨[126, (fs.length : Int)], [], 0⟩]) (nx zs i).2 else (fs, (nx zs i).2)
def spF (zs : List Int) (fs : List Fl) (i : Nat) : List Fl × Nat :=
  if fs.length = 0 then ([⟨[], [], 0⟩], (nx zs i).2)
  else
    let j := nx zs (nx zs i).2
    let q := (j.1 % fs.length).toNat
    if (nx zs i).1 % 7 = 0 then (modF fs q fun p => { p with s := p.d.length + 1 }, j.2)
    else if (nx zs i).1 % 7 = 1 then (modF fs q fun p => { p with s := -1 }, j.2)
    else if (nx zs i).1 % 7 = 2 then (modF fs q fun p => { p with n := [] }, j.2)
    else if (nx zs i).1 % 7 = 3 then (modF fs q fun p => { p with n := List.replicate (100 + (nx zs j.2).1 % 2).toNat 122 }, (nx zs j.2).2)
    else if (nx zs i).1 % 7 = 4 then (fs ++ (fs[q]?).toList, j.2)
    else if (nx zs i).1 % 7 = 5 then sp5 zs 60 fs j.2
    else (modF fs q fun p => { p with n := [109] }, j.2)
def dAny (zs : List Int) (i : Nat) : List Fl × Nat := if (nx zs i).1 % 10 = 0 then spF zs (dFs zs (nx zs i).2).1 (dFs zs (nx zs i).2).2 else dFs zs (nx zs i).2
/-- What DrawFsWrite draws: the files, the data. -/
def dWri (zs : List Int) : List Fl × List Int := ((dAny (zs.take 500) (nx (zs.take 500) 0).2).1, ddt ((zs.take 500).drop (nx (zs.take 500) 0).2))

/-! How great they are. -/
structure Smf (L : Nat) (fs : List Fl) : Prop where
  l : fs.length ≤ L
  b : ∀ p ∈ fs, BL 200 p.n ∧ BL 2000 p.d
theorem Smf.fss {L : Nat} {fs : List Fl} (h : Smf L fs) (hL : L ≤ 1000) : Fss fs := ⟨by have := h.l; omega, fun p hp => ⟨by have := (h.b p hp).1.1; omega, by have := (h.b p hp).2.1; omega⟩, fun p hp => ⟨(h.b p hp).1.2, (h.b p hp).2.2⟩⟩
theorem Smf.with {L : Nat} {fs : List Fl} (h : Smf L fs) {f : Fl} (hf : BL 200 f.n ∧ BL 2000 f.d) : Smf (L + 1) (withF fs f) := by
  refine ⟨?_, fun p hp => ?_⟩
  · unfold withF; rw [insF_length]; have := without_len fs f.n; have := h.l; omega
  · rcases insF_mem f _ p hp with rfl | hp
    · exact hf
    · exact h.b p (without_mem hp)
theorem cutD_bl {L : Nat} {t : List Int} (h : BL L t) : BL 2000 (cutD t) := by
  unfold cutD
  split
  · exact ⟨by simp; omega, fun z hz => h.2 z (List.mem_of_mem_take hz)⟩
  · exact ⟨by omega, h.2⟩
theorem nam_bl (k : Int) : BL 12 (namW.getD (k % 6).toNat []) := BLs.at (by decide) _
theorem flOf_bl {L : Nat} {t : List Int} (h : BL L t) (k : Int) : BL 200 (flOf k t).n ∧ BL 2000 (flOf k t).d := ⟨(nam_bl k).up (by omega), cutD_bl h⟩
theorem nam_in (k : Int) : namW.getD (k % 6).toNat [] ∈ namW := by
  have hn : (k % 6).toNat < namW.length := by simp [namW]; omega
  rw [List.getD_eq_getElem?_getD, List.getElem?_eq_getElem hn]
  exact List.getElem_mem hn
section
variable {zs : List Int}
theorem fsN_sm (hz : Bys zs) : ∀ (m i : Nat), Smf m (fsN zs m i).1 ∧ ∀ p ∈ (fsN zs m i).1, p.n ∈ namW
  | 0, i => ⟨⟨by simp [fsN], fun p h => by simp [fsN] at h⟩, fun p h => by simp [fsN] at h⟩
  | m + 1, i => by
    obtain ⟨h1, h2⟩ := fsN_sm hz m i
    refine ⟨h1.with (flOf_bl (tx_bl hz _) _), fun p hp => ?_⟩
    rcases insF_mem _ _ p hp with rfl | hp
    · exact nam_in _
    · exact h2 p (without_mem hp)
theorem fName_bl {m : Nat} (h : m ≤ 60) : BL 3 (fName m) := ⟨by simp [fName], fun z hz => by
  simp only [fName, List.mem_cons, List.not_mem_nil, or_false] at hz
  omega⟩
theorem fName_no (m : Nat) : fName m ∉ namW := by
  intro h
  have : namW.all (fun t => decide (t.head? ≠ some 102)) = true := by decide
  have := List.all_eq_true.1 this _ h
  simp [fName] at this
theorem fName_inj {a b : Nat} (h : fName a = fName b) : a = b := by
  simp only [fName, List.cons.injEq, true_and, and_true] at h
  omega
theorem with_new {fs : List Fl} {f : Fl} (h : ∀ p ∈ fs, p.n ≠ f.n) : (withF fs f).length = fs.length + 1 := by
  unfold withF
  rw [insF_length, show withoutF fs f.n = fs from List.filter_eq_self.2 fun p hp => by simpa using h p hp]
theorem fill_len {fs : List Fl} (h : ∀ p ∈ fs, p.n ∈ namW) : ∀ m, (fillN fs m).length = fs.length + m ∧ ∀ p ∈ fillN fs m, p.n ∈ namW ∨ ∃ j, j < m ∧ p.n = fName j
  | 0 => ⟨rfl, fun p hp => .inl (h p hp)⟩
  | m + 1 => by
    obtain ⟨h1, h2⟩ := fill_len h m
    refine ⟨?_, fun p hp => ?_⟩
    · rw [fillN, with_new, h1]
      · omega
      · intro p hp e
        rcases h2 p hp with h3 | ⟨j, hj, h3⟩
        · have e' : p.n = fName m := e
          rw [e'] at h3
          exact fName_no m h3
        · have := fName_inj (h3.symm.trans e); omega
    · rcases insF_mem _ _ p hp with rfl | hp
      · exact .inr ⟨m, by omega, rfl⟩
      · rcases h2 p (without_mem hp) with h3 | ⟨j, hj, h3⟩
        · exact .inl h3
        · exact .inr ⟨j, by omega, h3⟩
theorem fill_sm {L : Nat} {fs : List Fl} (h : Smf L fs) : ∀ m, m ≤ 60 → Smf (L + m) (fillN fs m)
  | 0, _ => h
  | m + 1, hm => by
    have := (fill_sm h m (by omega)).with (f := ⟨fName m, [], 0⟩) ⟨(fName_bl (by omega)).up (by omega), bl_nil⟩
    exact this
theorem dFs_sm (hz : Bys zs) (i : Nat) : Smf 60 (dFs zs i).1 := by
  have hb := nx_bd hz i
  obtain ⟨h1, h2⟩ := fsN_sm hz ((nx zs i).1 % 5).toNat (nx zs i).2
  unfold dFs
  simp only
  split
  · have := fill_sm h1 (49 - (fsN zs ((nx zs i).1 % 5).toNat (nx zs i).2).1.length) (by omega)
    exact ⟨by have := this.l; omega, this.b⟩
  · exact ⟨by have := h1.l; omega, h1.b⟩
theorem mod_sm {L : Nat} {fs : List Fl} (h : Smf L fs) (q : Nat) (g : Fl → Fl) (hg : ∀ p, BL 200 p.n ∧ BL 2000 p.d → BL 200 (g p).n ∧ BL 2000 (g p).d) : Smf L (modF fs q g) := by
  unfold modF
  split
  · rename_i p hp
    refine ⟨by rw [List.length_set]; exact h.l, fun x hx => ?_⟩
    rcases List.mem_or_eq_of_mem_set hx with hx | rfl
    · exact h.b x hx
    · exact hg p (h.b p (List.mem_of_getElem? hp))
  · exact h
theorem Smf.snoc {L : Nat} {fs : List Fl} (h : Smf L fs) {f : Fl} (hf : BL 200 f.n ∧ BL 2000 f.d) : Smf (L + 1) (fs ++ [f]) := ⟨by have := h.l; simp; omega, fun p hp => by
  rcases List.mem_append.1 hp with hp | hp
  · exact h.b p hp
  · simp at hp; subst hp; exact hf⟩
theorem sp5_sm (hz : Bys zs) : ∀ (m : Nat) (fs : List Fl) (i : Nat), Smf fs.length fs → fs.length ≤ 60 → (sp5 zs m fs i).1.length ≤ 60 ∧ ∀ p ∈ (sp5 zs m fs i).1, BL 200 p.n ∧ BL 2000 p.d
  | 0, fs, i, h, hl => ⟨hl, h.b⟩
  | m + 1, fs, i, h, hl => by
    have hb := nx_bd hz i
    rw [sp5]
    split
    · rename_i hc
      have hs := h.snoc (f := ⟨[126, (fs.length : Int)], [], 0⟩) ⟨⟨by simp, fun z hz => by simp at hz; omega⟩, bl_nil⟩
      refine sp5_sm hz m _ _ ⟨Nat.le_refl _, hs.b⟩ (by simp; omega)
    · exact ⟨hl, h.b⟩
theorem sp_sm (hz : Bys zs) {fs : List Fl} (h : Smf 60 fs) (i : Nat) : Smf 61 (spF zs fs i).1 := by
  have h61 : Smf 61 fs := ⟨by have := h.l; omega, h.b⟩
  unfold spF
  split
  · exact ⟨by simp, fun p hp => by simp at hp; subst hp; exact ⟨bl_nil, bl_nil⟩⟩
  · simp only
    split
    · exact mod_sm h61 _ _ (fun p hp => hp)
    · split
      · exact mod_sm h61 _ _ (fun p hp => hp)
      · split
        · exact mod_sm h61 _ _ (fun p hp => ⟨bl_nil, hp.2⟩)
        · split
          · exact mod_sm h61 _ _ (fun p hp => ⟨(bl_rep (by omega) _).up (by omega), hp.2⟩)
          · split
            · cases hq : fs[((nx zs (nx zs i).2).1 % fs.length).toNat]? with
              | none => simpa using h61
              | some p => exact h.snoc (h.b p (List.mem_of_getElem? hq))
            · split
              · have := sp5_sm hz 60 fs (nx zs (nx zs i).2).2 ⟨Nat.le_refl _, h.b⟩ h.l
                exact ⟨by omega, this.2⟩
              · exact mod_sm h61 _ _ (fun p hp => ⟨⟨by simp, fun z hz => by simp at hz; omega⟩, hp.2⟩)
theorem dAny_sm (hz : Bys zs) (i : Nat) : Smf 61 (dAny zs i).1 := by
  unfold dAny
  split
  · exact sp_sm hz (dFs_sm hz _) _
  · exact ⟨by have := (dFs_sm hz (nx zs i).2).l; omega, (dFs_sm hz _).b⟩
end
end Go.Proofs.YtakkdniikhgpdaaGreatDoor

namespace Go.Proofs.YtakkdniikhgpdaaGreatDoor
open Go.RowKit
attribute [-go_sem] Builtin.append_

set_option maxHeartbeats 2000000 in
set_option maxRecDepth 100000 in
theorem names_any (w : World) : Calls Tryz.prog 37 #[] w fun e w' => e = .returned (.slice (some ⟨w.heap.size, 0, none⟩) 6 6) ∧ (∀ n, n < 6 → w'.cell? ⟨w.heap.size, n, none⟩ = some (.string (strOfNums (namW.getD n [])))) ∧ w.grownBy w' none ∧ w'.heap.size = w.heap.size + 1 := by
  have HC : Hid (∀ n, n < 6 → (w.alloc (Obj.cells #[.string { data := #[97, 46, 106, 115, 111, 110] }, .string { data := #[98] }, .string { data := #[97, 46, 106, 115, 111, 110, 46, 116, 109, 112] }, .string { data := #[99, 111, 110, 102, 47, 120, 46, 106, 115, 111, 110, 53] }, .string { data := #[122, 122] }, .string { data := #[98, 46, 116, 109, 112] }] 9)).cell? ⟨w.heap.size, n, none⟩ = some (.string (strOfNums (namW.getD n [])))) := fun n hn => lit_cellK w namW 9 n (by simp [namW]; omega) #[.string { data := #[97, 46, 106, 115, 111, 110] }, .string { data := #[98] }, .string { data := #[97, 46, 106, 115, 111, 110, 46, 116, 109, 112] }, .string { data := #[99, 111, 110, 102, 47, 120, 46, 106, 115, 111, 110, 53] }, .string { data := #[122, 122] }, .string { data := #[98, 46, 116, 109, 112] }] rfl
  have HG := hide (World.grownBy_alloc w (Obj.cells #[.string { data := #[97, 46, 106, 115, 111, 110] }, .string { data := #[98] }, .string { data := #[97, 46, 106, 115, 111, 110, 46, 116, 109, 112] }, .string { data := #[99, 111, 110, 102, 47, 120, 46, 106, 115, 111, 110, 53] }, .string { data := #[122, 122] }, .string { data := #[98, 46, 116, 109, 112] }] 9) none)
  go_enter Tryz.func37, Tryz.ntmps37
  go_wp2
  go_ret
  exact ⟨rfl, HC.out, HG.out, by simp⟩

set_option maxHeartbeats 4000000 in
set_option maxRecDepth 100000 in
/-- spec.l7drawName. -/
theorem drawName_k {F : Nat} {v : Value} {zs : List Int} (hz : Zk zs) (i : Nat) (Γ : Gk) (w : World) (hs : KS F v zs i Γ w) :
    Calls Tryz.prog 18 #[.pointer (some ⟨F, 0, none⟩)] w fun e w' => (∃ a n c, e = .returned (.slice a n c)) ∧ KD F v zs Γ w (nx zs i).2 Γ w' := by
  have HN := hide ((KD.refl hs).next hz)
  have hkb := nx_bd hz.by' i
  generalize (nx zs i).1 = k at *
  generalize (nx zs i).2 = j at *
  obtain ⟨hk0, hk1⟩ := hkb
  clear hs hz
  go_enter Tryz.func18, Tryz.ntmps18
  go_wp2_with fail
  refine HN.out.mono ?_
  rintro e w1 ⟨rfl, D1, _⟩
  have HD1 := hide D1
  have HM := hide (names_any w1)
  clear D1 HN
  go_wp2_with fail
  refine HM.out.mono ?_
  rintro e w2 ⟨rfl, hc, g2, hsz⟩
  have HD2 := hide (HD1.out.keep g2)
  have HC := hide hc
  clear hc g2 hsz HD1 HM
  by_cases h1 : k = 250
  · clear HC
    rw [h1]
    go_wp2
    go_ret
    exact ⟨⟨_, _, _, rfl⟩, HD2.out⟩
  have b1 : (k == 250) = false := by simpa using h1
  by_cases h2 : 250 < k
  · have hq : -152 + k = ((-152 + k).toNat : Int) := by omega
    have HF := hide (fill_any 110 (-152 + k).toNat w2 (by omega))
    rw [← hq] at HF
    clear hq HC
    go_wp2_with fail
    refine HF.out.mono ?_
    rintro e w3 ⟨v3, rfl, o3, g3⟩
    have HD3 := hide (HD2.out.keep g3)
    obtain ⟨a3, c3, hv3, _, _⟩ := o3.sl
    generalize (List.replicate (-152 + k).toNat (110 : Int)).length = LL at hv3
    subst hv3
    clear o3 g3 HF HD2
    go_wp2
    go_ret
    exact ⟨⟨_, _, _, rfl⟩, HD3.out⟩
  · have hc := HC.out (k % 6).toNat (by omega)
    have hb := nam_bl k
    generalize namW.getD (k % 6).toNat [] = tt at *
    obtain ⟨cap6, w6, run6, t6, g6, _, _⟩ := conv_bytes tt hb.2 (by have := hb.1; omega) w2
    have HD6 := hide (HD2.out.keep g6)
    generalize tt.length = LL at run6
    clear t6 g6 HC HD2
    go_wp2
    go_ret
    exact ⟨⟨_, _, _, rfl⟩, HD6.out⟩
end Go.Proofs.YtakkdniikhgpdaaGreatDoor

