import Derived.Test.YtakkdniikhgpdaaGreatDoorNAX
namespace Go.Proofs.YtakkdniikhgpdaaGreatDoor
open Go.RowKit
attribute [-go_sem] Builtin.append_

set_option maxHeartbeats 8000000 in
set_option maxRecDepth 100000 in
/-- spec.l7drawFs. -/
theorem drawFs_k {F : Nat} {v : Value} {zs : List Int} (hz : Zk zs) (i : Nat) (Γ : Gk) (w : World) (hs : KS F v zs i Γ w) :
    Calls Tryz.prog 41 #[.pointer (some ⟨F, 0, none⟩)] w fun e w' => ∃ v', e = .returned (.agg #[v']) ∧ RwF F (w.heap.size + 1) w' v' (dFs zs i).1 ∧ ∃ Γ', KD F v zs Γ w (dFs zs i).2 Γ' w' := by
  have HZ := hide hz
  have hFw := hs.lt
  have hb1 := nx_bd hz.by' i
  have HP : Hid (dFs zs i = (if (nx zs (fsN zs ((nx zs i).1 % 5).toNat (nx zs i).2).2).1 = 3 then fillN (fsN zs ((nx zs i).1 % 5).toNat (nx zs i).2).1 (49 - (fsN zs ((nx zs i).1 % 5).toNat (nx zs i).2).1.length) else (fsN zs ((nx zs i).1 % 5).toNat (nx zs i).2).1, (nx zs (fsN zs ((nx zs i).1 % 5).toNat (nx zs i).2).2).2)) := rfl
  have HSM : Hid (∀ m, _) := fun m => fsN_sm hz.by' m (nx zs i).2
  obtain ⟨w0, hw0⟩ : ∃ w0, w0 = (w.alloc (Obj.cells #[Value.slice none 0 0] 25)).alloc (Obj.cells #[Value.slice none 0 0] 25) := ⟨_, rfl⟩
  have g0 : w.grownBy w0 none := by rw [hw0]; exact grown_trans (World.grownBy_alloc _ _ _) (World.grownBy_alloc _ _ _)
  have bR : Bx w0 w.heap.size (.slice none 0 0) := by rw [hw0]; exact (Bx.new w _).keep (World.grownBy_alloc _ _ none) (by simp)
  have bF : Bx w0 (w.heap.size + 1) (.slice none 0 0) := by
    rw [hw0]
    have := Bx.new (w.alloc (Obj.cells #[Value.slice none 0 0] 25)) (.slice none 0 0)
    rw [show (w.alloc (Obj.cells #[Value.slice none 0 0] 25)).heap.size = w.heap.size + 1 by simp] at this
    exact this
  have HN1 := hide (((KD.refl hs).keep g0).next hz)
  have HBX := hide (And.intro bR bF)
  generalize hn1 : nx zs i = n1 at *
  have HW0 := hide hw0
  rw [hw0] at HN1
  clear hs hz hn1 bR bF g0 hw0
  go_enter Tryz.func41, Tryz.ntmps41
  go_wp2_with fail
  refine HN1.out.mono ?_
  rintro e w1 ⟨rfl, D1, g1⟩
  rw [← HW0.out] at g1
  have hbR := HBX.out.1.keep g1 (by simp; omega)
  have hbF := HBX.out.2.keep g1 (by simp; omega)
  have HM := hide (names_any w1)
  have HD1 := hide D1
  have HB1 := hide (And.intro hbR hbF)
  clear D1 g1 hbR hbF HBX HN1
  go_wp2_with fail
  refine HM.out.mono ?_
  rintro e w2 ⟨rfl, hc, g2, hsz⟩
  have HD2 := hide (HD1.out.keep g2)
  have HB2 := hide (And.intro (HB1.out.1.keep g2 (by simp)) (HB1.out.2.keep g2 (by simp)))
  have HC2 := hide hc
  have hw1 : w.heap.size + 1 < w1.heap.size := HB1.out.2.lt
  obtain ⟨C, hC⟩ : ∃ C : Nat, n1.1 % 5 = (C : Int) := ⟨(n1.1 % 5).toNat, by omega⟩
  have hCt : (n1.1 % 5).toNat = C := by omega
  have hC5 : C ≤ 4 := by omega
  rw [hCt] at HP
  have hsz' := hsz
  clear hc g2 hsz HD1 HB1 HM hCt
  go_wp2
  clear hC
  go_loopw [6] (fun q W => ∃ (m : Nat) (fv : Value) (Γ' : Gk), m ≤ C ∧ q = .int .i64 m ∧ Bx W w.heap.size (.slice none 0 0) ∧ Bx W (w.heap.size + 1) fv ∧ (∀ n, n < 6 → W.cell? ⟨w1.heap.size, n, none⟩ = some (.string (strOfNums (namW.getD n [])))) ∧ w1.heap.size < W.heap.size ∧ RwF F (w.heap.size + 2) W fv (fsN zs m n1.2).1 ∧ KD F v zs Γ w (fsN zs m n1.2).2 Γ' W) (fun q _ => C - (intOf q).toNat)
  case atStart => exact ⟨0, _, Γ, Nat.zero_le _, rfl, HB2.out.1, HB2.out.2, HC2.out, by rw [hsz']; omega, RwF.nil _ (by omega), HD2.out⟩
  case round =>
    obtain ⟨m, fv, Γ', hm, rfl, hbR, hbF, hnm, hws, hrw, hD⟩ := hrel
    by_cases hlt : m < C
    · have HN2 := hide (hD.next HZ.out)
      have hb2 := nx_bd HZ.out.by' (fsN zs m n1.2).2
      have HFS : Hid (fsN zs (m + 1) n1.2 = (withF (fsN zs m n1.2).1 (flOf (nx zs (fsN zs m n1.2).2).1 (txF zs (nx zs (fsN zs m n1.2).2).2).1), (txF zs (nx zs (fsN zs m n1.2).2).2).2)) := rfl
      have HSm := hide (HSM.out m).1
      have HDT : Hid (∀ W Γ2, KS F v zs (nx zs (fsN zs m n1.2).2).2 Γ2 W → _) := fun W Γ2 (h : KS F v zs (nx zs (fsN zs m n1.2).2).2 Γ2 W) => drawText_k HZ.out _ Γ2 W h
      have HTB := hide (tx_bl HZ.out.by' (nx zs (fsN zs m n1.2).2).2)
      generalize hFM : fsN zs m n1.2 = FM at *
      generalize hn2 : nx zs FM.2 = n2 at *
      generalize hT : txF zs n2.2 = T at *
      have HB := hide (And.intro hbR hbF)
      have HNM := hide hnm
      have HRW := hide hrw
      obtain ⟨fa, fc, hfv, _, _⟩ := hrw.rd.sl
      clear hbR hbF hnm hrw hD hFM hn2 hT
      go_wp2_with fail
      refine HN2.out.mono ?_
      rintro e w3 ⟨rfl, D3, g3⟩
      have htm : n2.1.tmod 6 = n2.1 % 6 := Int.tmod_eq_emod_of_nonneg hb2.1
      have hNb := nam_bl n2.1
      have hnmk := HNM.out (n2.1 % 6).toNat (by omega)
      generalize hNMe : namW.getD (n2.1 % 6).toNat [] = NM at *
      have HNE := hide hNMe
      have gd : w3.grownBy w3.drew none := ⟨rfl, rfl, rfl, Nat.le_refl _, fun _ _ _ => rfl⟩
      have hIK : ∀ {U U' : World} {r : Option Nat}, wr.grownBy U (some F) → U.grownBy U' r → (r = none ∨ r = some F) → U'.cell? ⟨w1.heap.size, (n2.1 % 6).toNat, none⟩ = some (.string (strOfNums NM)) := fun {U U' r} g g' hr => by
        have h1 := g.cell hnmk (by simp; omega)
        rcases hr with rfl | rfl
        · exact g'.cell h1 (by simp)
        · exact g'.cell h1 (by simp; omega)
      have G := grown_two g3 (grown_F (F := F) gd)
      have D := D3.keep gd
      obtain ⟨I, hI⟩ : ∃ I : World → Prop, I = (fun U => U.cell? ⟨w1.heap.size, (n2.1 % 6).toNat, none⟩ = some (.string (strOfNums NM))) := ⟨_, rfl⟩
      have HI0 : I w3.drew := by rw [hI]; exact hIK g3 gd (.inl rfl)
      replace hIK : ∀ {U U' : World} {r : Option Nat}, wr.grownBy U (some F) → U.grownBy U' r → (r = none ∨ r = some F) → I U' := by rw [hI]; exact hIK
      clear HN2 D3 g3 gd hNMe
      go_wp2_with fail
      subst hfv
      generalize hU0 : w3.drew = U0 at *
      apply joinQ (P := fun na nc da dc bf W => (∃ Γ2, KD F v zs Γ w T.2 Γ2 W) ∧ wr.grownBy W (some F) ∧ wr.heap.size ≤ bf ∧ Fx W bf (.slice na NM.length nc) (.slice da T.1.length dc) (.int .i64 0) ∧ Txo F none W (.slice na NM.length nc) NM ∧ Txo F none W (.slice da T.1.length dc) T.1 ∧ T.1.length ≤ dc ∧ dc ≤ maxLen)
      case main =>
        intro KEY
        refine region_anyI I (fun _ => false) (by kernel_rfl) ?_
        show anyI _ _ _ _ _ _ 11 (Array.replicate 11 false) _ _
        rw [hU0]
        refine anyI_take (i := 0) (.slice (some ⟨w1.heap.size, 0, none⟩) 6 6) rfl (by kernel_rfl) (by kernel_rfl) (by kernel_rfl) (by kernel_rfl) (fun _ _ _ h => h) HI0 (yldI rfl (fun U hU => by go_simp)) ?_
        refine anyI_take (i := 1) (.int .i64 n2.1) rfl (by kernel_rfl) (by kernel_rfl) (by kernel_rfl) (by kernel_rfl) (fun _ _ _ h => h) HI0 (yldI rfl (fun U hU => by go_simp)) ?_
        refine anyI_take (i := 2) (.int .i64 (n2.1 % 6)) rfl (by kernel_rfl) (by kernel_rfl) (by kernel_rfl) (by kernel_rfl) (fun _ _ _ h => h) HI0 (yldI rfl (fun U hU => by go_simp)) ?_
        refine anyI_take (i := 3) (.pointer (some ⟨w1.heap.size, (n2.1 % 6).toNat, none⟩)) rfl (by kernel_rfl) (by kernel_rfl) (by kernel_rfl) (by kernel_rfl) (fun _ _ _ h => h) HI0 (yldI rfl (fun U hU => by go_simp; intro h; exact absurd (h (by omega)) (by omega))) ?_
        refine anyI_take (i := 4) (.string (strOfNums NM)) rfl (by kernel_rfl) (by kernel_rfl) (by kernel_rfl) (by kernel_rfl) (fun _ _ _ h => h) HI0 (yldI rfl (fun U hU => by rw [hI] at hU; go_simp)) ?_
        refine anyI_take (i := 6) (.pointer (some ⟨F, 0, none⟩)) rfl (by kernel_rfl) (by kernel_rfl) (by kernel_rfl) (by kernel_rfl) (fun _ _ _ h => h) HI0 (yldI rfl (fun U hU => by go_simp)) ?_
        generalize hGa : Act.put _ _ _ = A0
        simp [Act.put] at hGa
        subst hGa
        refine anyI_three (i := 5) (j := 7) (k := 9) (by kernel_rfl) ?h1a ?h1b ?h1c
        case' h1a =>
          obtain ⟨cp, U1, runC, tC, gC, hq1, hq2⟩ := conv_bytes NM hNb.2 (by have := hNb.1; omega) U0
          clear hq1 hq2
          refine wpOp_val (w' := U1) (v := .slice (some ⟨U0.heap.size, 0, none⟩) NM.length cp) rfl rfl (by go_simp) ⟨.inr (hIK G gC (.inl rfl)), ?_⟩
          have hNV := ab_tx tC (show F < U0.heap.size by have := G.size; omega)
          replace D := D.keep gC
          replace G := grown_two G (grown_F gC)
          clear runC tC gC
          generalize hnv : Value.slice (some ⟨U0.heap.size, 0, none⟩) NM.length cp = nv at *
          replace hnv : ∃ a c, nv = .slice a NM.length c := ⟨_, _, hnv.symm⟩
          refine anyI_two (i := 7) (j := 9) (by kernel_rfl) ?h2a ?h2b
          case' h2a =>
            refine wpOp_call rfl rfl (by go_simp) (HDT.out U1 _ D.st) ?_
            rintro e U2 ⟨dv, Γ2, rfl, hDV, D'⟩
            refine ⟨_, rfl, .inr (hIK G D'.gr (.inr rfl)), ?_⟩
            replace hNV := hNV.mono D'.gr
            replace D := D.trans D'
            replace G := grown_two G D'.gr
            clear D'
            obtain ⟨na, nc, hnv⟩ := hnv
            obtain ⟨da, dc, hdv, hdc1, hdc2⟩ := hDV.1
            subst hnv hdv
            refine anyI_take (i := 8) (.agg #[.slice na NM.length nc, .slice da T.1.length dc, .int .i64 0]) rfl (by kernel_rfl) (by kernel_rfl) (by kernel_rfl) (by kernel_rfl) (fun _ _ _ h => h) (hIK G (World.grownBy.refl _ none) (.inl rfl)) (yldI rfl (fun U1 hU => by go_simp)) ?_
            refine anyI_one (i := 9) (by kernel_rfl) ?h3a
            case' h3a =>
              have gA := World.grownBy_alloc U2 (Obj.cells #[.slice none 0 0, .slice none 0 0, .int .i64 0] 45) none
              refine wpOp_val (w' := U2.alloc (Obj.cells #[.slice none 0 0, .slice none 0 0, .int .i64 0] 45)) (v := .pointer (some ⟨U2.heap.size, 0, none⟩)) rfl rfl (by go_simp) ⟨.inr (hIK G gA (.inl rfl)), ?_⟩
              have hFX := Fx.new U2 (.slice none 0 0) (.slice none 0 0) (.int .i64 0)
              have hbl : w.heap.size + 2 ≤ U2.heap.size ∧ w1.heap.size < U2.heap.size ∧ wr.heap.size ≤ U2.heap.size := by have := G.size; omega
              replace hNV := hNV.mono (grown_F gA)
              replace hDV := hDV.mono (grown_F gA)
              replace D := D.keep gA
              replace G := grown_two G (grown_F gA)
              generalize U2.alloc (Obj.cells #[.slice none 0 0, .slice none 0 0, .int .i64 0] 45) = U3 at *
              generalize U2.heap.size = bf at *
              clear gA
          case' h2b =>
            have gA := World.grownBy_alloc U1 (Obj.cells #[.slice none 0 0, .slice none 0 0, .int .i64 0] 45) none
            refine wpOp_val (w' := U1.alloc (Obj.cells #[.slice none 0 0, .slice none 0 0, .int .i64 0] 45)) (v := .pointer (some ⟨U1.heap.size, 0, none⟩)) rfl rfl (by go_simp) ⟨.inr (hIK G gA (.inl rfl)), ?_⟩
            have hFX := Fx.new U1 (.slice none 0 0) (.slice none 0 0) (.int .i64 0)
            have hbl : w.heap.size + 2 ≤ U1.heap.size ∧ w1.heap.size < U1.heap.size ∧ wr.heap.size ≤ U1.heap.size := by have := G.size; omega
            replace hNV := hNV.mono (grown_F gA)
            replace D := D.keep gA
            replace G := grown_two G (grown_F gA)
            generalize U1.alloc (Obj.cells #[.slice none 0 0, .slice none 0 0, .int .i64 0] 45) = U2 at *
            generalize U1.heap.size = bf at *
            clear gA
            refine anyI_one (i := 7) (by kernel_rfl) ?h4a
            case' h4a =>
              refine wpOp_call rfl rfl (by go_simp) (HDT.out U2 _ D.st) ?_
              rintro e U3 ⟨dv, Γ2, rfl, hDV, D'⟩
              refine ⟨_, rfl, .inr (hIK G D'.gr (.inr rfl)), ?_⟩
              replace hNV := hNV.mono D'.gr
              replace hFX := hFX.keep D'.gr (by simp; omega)
              replace D := D.trans D'
              replace G := grown_two G D'.gr
              clear D'
              obtain ⟨na, nc, hnv⟩ := hnv
              obtain ⟨da, dc, hdv, hdc1, hdc2⟩ := hDV.1
              subst hnv hdv
              refine anyI_take (i := 8) (.agg #[.slice na NM.length nc, .slice da T.1.length dc, .int .i64 0]) rfl (by kernel_rfl) (by kernel_rfl) (by kernel_rfl) (by kernel_rfl) (fun _ _ _ h => h) (hIK G (World.grownBy.refl _ none) (.inl rfl)) (yldI rfl (fun U2 hU => by go_simp)) ?_
        case' h1b =>
          refine wpOp_call rfl rfl (by go_simp) (HDT.out U0 _ D.st) ?_
          rintro e U1 ⟨dv, Γ2, rfl, hDV, D'⟩
          refine ⟨_, rfl, .inr (hIK G D'.gr (.inr rfl)), ?_⟩
          replace D := D.trans D'
          replace G := grown_two G D'.gr
          clear D'
          refine anyI_two (i := 5) (j := 9) (by kernel_rfl) ?h5a ?h5b
          case' h5a =>
            obtain ⟨cp, U2, runC, tC, gC, hq1, hq2⟩ := conv_bytes NM hNb.2 (by have := hNb.1; omega) U1
            clear hq1 hq2
            refine wpOp_val (w' := U2) (v := .slice (some ⟨U1.heap.size, 0, none⟩) NM.length cp) rfl rfl (by go_simp) ⟨.inr (hIK G gC (.inl rfl)), ?_⟩
            have hNV := ab_tx tC (show F < U1.heap.size by have := G.size; omega)
            replace hDV := hDV.mono (grown_F gC)
            replace D := D.keep gC
            replace G := grown_two G (grown_F gC)
            clear runC tC gC
            generalize hnv : Value.slice (some ⟨U1.heap.size, 0, none⟩) NM.length cp = nv at *
            replace hnv : ∃ a c, nv = .slice a NM.length c := ⟨_, _, hnv.symm⟩
            obtain ⟨na, nc, hnv⟩ := hnv
            obtain ⟨da, dc, hdv, hdc1, hdc2⟩ := hDV.1
            subst hnv hdv
            refine anyI_take (i := 8) (.agg #[.slice na NM.length nc, .slice da T.1.length dc, .int .i64 0]) rfl (by kernel_rfl) (by kernel_rfl) (by kernel_rfl) (by kernel_rfl) (fun _ _ _ h => h) (hIK G (World.grownBy.refl _ none) (.inl rfl)) (yldI rfl (fun U1 hU => by go_simp)) ?_
            refine anyI_one (i := 9) (by kernel_rfl) ?h6a
            case' h6a =>
              have gA := World.grownBy_alloc U2 (Obj.cells #[.slice none 0 0, .slice none 0 0, .int .i64 0] 45) none
              refine wpOp_val (w' := U2.alloc (Obj.cells #[.slice none 0 0, .slice none 0 0, .int .i64 0] 45)) (v := .pointer (some ⟨U2.heap.size, 0, none⟩)) rfl rfl (by go_simp) ⟨.inr (hIK G gA (.inl rfl)), ?_⟩
              have hFX := Fx.new U2 (.slice none 0 0) (.slice none 0 0) (.int .i64 0)
              have hbl : w.heap.size + 2 ≤ U2.heap.size ∧ w1.heap.size < U2.heap.size ∧ wr.heap.size ≤ U2.heap.size := by have := G.size; omega
              replace hNV := hNV.mono (grown_F gA)
              replace hDV := hDV.mono (grown_F gA)
              replace D := D.keep gA
              replace G := grown_two G (grown_F gA)
              generalize U2.alloc (Obj.cells #[.slice none 0 0, .slice none 0 0, .int .i64 0] 45) = U3 at *
              generalize U2.heap.size = bf at *
              clear gA
          case' h5b =>
            have gA := World.grownBy_alloc U1 (Obj.cells #[.slice none 0 0, .slice none 0 0, .int .i64 0] 45) none
            refine wpOp_val (w' := U1.alloc (Obj.cells #[.slice none 0 0, .slice none 0 0, .int .i64 0] 45)) (v := .pointer (some ⟨U1.heap.size, 0, none⟩)) rfl rfl (by go_simp) ⟨.inr (hIK G gA (.inl rfl)), ?_⟩
            have hFX := Fx.new U1 (.slice none 0 0) (.slice none 0 0) (.int .i64 0)
            have hbl : w.heap.size + 2 ≤ U1.heap.size ∧ w1.heap.size < U1.heap.size ∧ wr.heap.size ≤ U1.heap.size := by have := G.size; omega
            replace hDV := hDV.mono (grown_F gA)
            replace D := D.keep gA
            replace G := grown_two G (grown_F gA)
            generalize U1.alloc (Obj.cells #[.slice none 0 0, .slice none 0 0, .int .i64 0] 45) = U2 at *
            generalize U1.heap.size = bf at *
            clear gA
            refine anyI_one (i := 5) (by kernel_rfl) ?h7a
            case' h7a =>
              obtain ⟨cp, U3, runC, tC, gC, hq1, hq2⟩ := conv_bytes NM hNb.2 (by have := hNb.1; omega) U2
              clear hq1 hq2
              refine wpOp_val (w' := U3) (v := .slice (some ⟨U2.heap.size, 0, none⟩) NM.length cp) rfl rfl (by go_simp) ⟨.inr (hIK G gC (.inl rfl)), ?_⟩
              have hNV := ab_tx tC (show F < U2.heap.size by have := G.size; omega)
              replace hDV := hDV.mono (grown_F gC)
              replace hFX := hFX.keep gC (by simp)
              replace D := D.keep gC
              replace G := grown_two G (grown_F gC)
              clear runC tC gC
              generalize hnv : Value.slice (some ⟨U2.heap.size, 0, none⟩) NM.length cp = nv at *
              replace hnv : ∃ a c, nv = .slice a NM.length c := ⟨_, _, hnv.symm⟩
              obtain ⟨na, nc, hnv⟩ := hnv
              obtain ⟨da, dc, hdv, hdc1, hdc2⟩ := hDV.1
              subst hnv hdv
              refine anyI_take (i := 8) (.agg #[.slice na NM.length nc, .slice da T.1.length dc, .int .i64 0]) rfl (by kernel_rfl) (by kernel_rfl) (by kernel_rfl) (by kernel_rfl) (fun _ _ _ h => h) (hIK G (World.grownBy.refl _ none) (.inl rfl)) (yldI rfl (fun U2 hU => by go_simp)) ?_
        case' h1c =>
          have gA := World.grownBy_alloc U0 (Obj.cells #[.slice none 0 0, .slice none 0 0, .int .i64 0] 45) none
          refine wpOp_val (w' := U0.alloc (Obj.cells #[.slice none 0 0, .slice none 0 0, .int .i64 0] 45)) (v := .pointer (some ⟨U0.heap.size, 0, none⟩)) rfl rfl (by go_simp) ⟨.inr (hIK G gA (.inl rfl)), ?_⟩
          have hFX := Fx.new U0 (.slice none 0 0) (.slice none 0 0) (.int .i64 0)
          have hbl : w.heap.size + 2 ≤ U0.heap.size ∧ w1.heap.size < U0.heap.size ∧ wr.heap.size ≤ U0.heap.size := by have := G.size; omega
          replace D := D.keep gA
          replace G := grown_two G (grown_F gA)
          generalize U0.alloc (Obj.cells #[.slice none 0 0, .slice none 0 0, .int .i64 0] 45) = U1 at *
          generalize U0.heap.size = bf at *
          clear gA
          refine anyI_two (i := 5) (j := 7) (by kernel_rfl) ?h8a ?h8b
          case' h8a =>
            obtain ⟨cp, U2, runC, tC, gC, hq1, hq2⟩ := conv_bytes NM hNb.2 (by have := hNb.1; omega) U1
            clear hq1 hq2
            refine wpOp_val (w' := U2) (v := .slice (some ⟨U1.heap.size, 0, none⟩) NM.length cp) rfl rfl (by go_simp) ⟨.inr (hIK G gC (.inl rfl)), ?_⟩
            have hNV := ab_tx tC (show F < U1.heap.size by have := G.size; omega)
            replace hFX := hFX.keep gC (by simp)
            replace D := D.keep gC
            replace G := grown_two G (grown_F gC)
            clear runC tC gC
            generalize hnv : Value.slice (some ⟨U1.heap.size, 0, none⟩) NM.length cp = nv at *
            replace hnv : ∃ a c, nv = .slice a NM.length c := ⟨_, _, hnv.symm⟩
            refine anyI_one (i := 7) (by kernel_rfl) ?h9a
            case' h9a =>
              refine wpOp_call rfl rfl (by go_simp) (HDT.out U2 _ D.st) ?_
              rintro e U3 ⟨dv, Γ2, rfl, hDV, D'⟩
              refine ⟨_, rfl, .inr (hIK G D'.gr (.inr rfl)), ?_⟩
              replace hNV := hNV.mono D'.gr
              replace hFX := hFX.keep D'.gr (by simp; omega)
              replace D := D.trans D'
              replace G := grown_two G D'.gr
              clear D'
              obtain ⟨na, nc, hnv⟩ := hnv
              obtain ⟨da, dc, hdv, hdc1, hdc2⟩ := hDV.1
              subst hnv hdv
              refine anyI_take (i := 8) (.agg #[.slice na NM.length nc, .slice da T.1.length dc, .int .i64 0]) rfl (by kernel_rfl) (by kernel_rfl) (by kernel_rfl) (by kernel_rfl) (fun _ _ _ h => h) (hIK G (World.grownBy.refl _ none) (.inl rfl)) (yldI rfl (fun U2 hU => by go_simp)) ?_
          case' h8b =>
            refine wpOp_call rfl rfl (by go_simp) (HDT.out U1 _ D.st) ?_
            rintro e U2 ⟨dv, Γ2, rfl, hDV, D'⟩
            refine ⟨_, rfl, .inr (hIK G D'.gr (.inr rfl)), ?_⟩
            replace hFX := hFX.keep D'.gr (by simp; omega)
            replace D := D.trans D'
            replace G := grown_two G D'.gr
            clear D'
            refine anyI_one (i := 5) (by kernel_rfl) ?h10a
            case' h10a =>
              obtain ⟨cp, U3, runC, tC, gC, hq1, hq2⟩ := conv_bytes NM hNb.2 (by have := hNb.1; omega) U2
              clear hq1 hq2
              refine wpOp_val (w' := U3) (v := .slice (some ⟨U2.heap.size, 0, none⟩) NM.length cp) rfl rfl (by go_simp) ⟨.inr (hIK G gC (.inl rfl)), ?_⟩
              have hNV := ab_tx tC (show F < U2.heap.size by have := G.size; omega)
              replace hDV := hDV.mono (grown_F gC)
              replace hFX := hFX.keep gC (by simp)
              replace D := D.keep gC
              replace G := grown_two G (grown_F gC)
              clear runC tC gC
              generalize hnv : Value.slice (some ⟨U2.heap.size, 0, none⟩) NM.length cp = nv at *
              replace hnv : ∃ a c, nv = .slice a NM.length c := ⟨_, _, hnv.symm⟩
              obtain ⟨na, nc, hnv⟩ := hnv
              obtain ⟨da, dc, hdv, hdc1, hdc2⟩ := hDV.1
              subst hnv hdv
              refine anyI_take (i := 8) (.agg #[.slice na NM.length nc, .slice da T.1.length dc, .int .i64 0]) rfl (by kernel_rfl) (by kernel_rfl) (by kernel_rfl) (by kernel_rfl) (fun _ _ _ h => h) (hIK G (World.grownBy.refl _ none) (.inl rfl)) (yldI rfl (fun U2 hU => by go_simp)) ?_
        all_goals
          have hIW : (((U3.setCell ⟨bf, 0, none⟩ (.slice na NM.length nc)).setCell ⟨bf, 1, none⟩ (.slice da T.1.length dc)).setCell ⟨bf, 2, none⟩ (.int .i64 0)).cell? ⟨w1.heap.size, (n2.1 % 6).toNat, none⟩ = some (.string (strOfNums NM)) := (grown_later (grown_later (grown_later G bf (by omega) 0 (.slice na NM.length nc)) bf (by omega) 1 (.slice da T.1.length dc)) bf (by omega) 2 (.int .i64 0)).cell hnmk (by simp; omega)
          have z0 := hFX.c0
          have z1 := hFX.c1
          have z2 := hFX.c2
          have f0 := hFX.fr 0
          have f1 := hFX.fr 1
          have f2 := hFX.fr 2
          refine anyI_one (i := 10) (by kernel_rfl) (wpOp_skip (w' := ((U3.setCell ⟨bf, 0, none⟩ (.slice na NM.length nc)).setCell ⟨bf, 1, none⟩ (.slice da T.1.length dc)).setCell ⟨bf, 2, none⟩ (.int .i64 0)) rfl rfl (by go_simp) ⟨.inr (by rw [hI]; exact hIW), ?_⟩)
          refine anyI_done (by kernel_rfl) ?_ _
          have hN4 := ((hNV.txo.fox hFX 0 (.slice na NM.length nc)).fox (hFX.set0 _) 1 (.slice da T.1.length dc)).fox ((hFX.set0 _).set1 _) 2 (.int .i64 0)
          have hD4 := ((hDV.txo.fox hFX 0 (.slice na NM.length nc)).fox (hFX.set0 _) 1 (.slice da T.1.length dc)).fox ((hFX.set0 _).set1 _) 2 (.int .i64 0)
          have hF4 := ((hFX.set0 (.slice na NM.length nc)).set1 (.slice da T.1.length dc)).set2 (.int .i64 0)
          have D4 := ((D.fox hFX (by omega) 0 (.slice na NM.length nc)).fox (hFX.set0 _) (by omega) 1 (.slice da T.1.length dc)).fox ((hFX.set0 _).set1 _) (by omega) 2 (.int .i64 0)
          have G4 := grown_later (grown_later (grown_later G bf (by omega) 0 (.slice na NM.length nc)) bf (by omega) 1 (.slice da T.1.length dc)) bf (by omega) 2 (.int .i64 0)
          exact KEY na nc da dc bf _ ⟨⟨_, D4⟩, G4, hbl.2.2, hF4, hN4, hD4, hdc1, hdc2⟩
      case key =>
        rintro na nc da dc bf W4 ⟨⟨Γ2, D4⟩, G4, hbl, hF4, hN4, hD4, hdc1, hdc2⟩
        clear hI hIK HI0
        have hbF4 := HB.out.2.keep G4 (by simp; omega)
        have hbR4 := HB.out.1.keep G4 (by simp; omega)
        have hrw4 := HRW.out.keep G4 (.inr rfl)
        have z0 := hF4.c0
        have z1 := hF4.c1
        have z2 := hF4.c2
        have f1 := hF4.fr 1
        have f2 := hF4.fr 2
        have y0 := hbF4.c
        have y1 := hbF4.fr
        have hne : ¬ bf = w.heap.size + 1 := by omega
        have hne' : ¬ w.heap.size + 1 = bf := by omega
        refine if h2 : 2000 < T.1.length then ?k1 else ?k0
        case' k1 =>
          refine if h5 : n2.1 / 6 % 5 = 0 then ?k11 else ?k10
          case' k11 =>
            have r00 := (hF4.set1 (.slice da 20 dc)).c0
            have r01 := (hF4.set1 (.slice da 20 dc)).c1
            have r02 := (hF4.set1 (.slice da 20 dc)).c2
            have s01 := (hF4.set1 (.slice da 20 dc)).fr 1
            have s02 := (hF4.set1 (.slice da 20 dc)).fr 2
            have r10 := ((hF4.set1 (.slice da 20 dc)).set2 (.int .i64 20)).c0
            have r11 := ((hF4.set1 (.slice da 20 dc)).set2 (.int .i64 20)).c1
            have r12 := ((hF4.set1 (.slice da 20 dc)).set2 (.int .i64 20)).c2
            have s11 := ((hF4.set1 (.slice da 20 dc)).set2 (.int .i64 20)).fr 1
            have s12 := ((hF4.set1 (.slice da 20 dc)).set2 (.int .i64 20)).fr 2
            have r20 := (((hF4.set1 (.slice da 20 dc)).set2 (.int .i64 20)).set2 (.int .i64 (n2.1 % 21))).c0
            have r21 := (((hF4.set1 (.slice da 20 dc)).set2 (.int .i64 20)).set2 (.int .i64 (n2.1 % 21))).c1
            have r22 := (((hF4.set1 (.slice da 20 dc)).set2 (.int .i64 20)).set2 (.int .i64 (n2.1 % 21))).c2
            have s21 := (((hF4.set1 (.slice da 20 dc)).set2 (.int .i64 20)).set2 (.int .i64 (n2.1 % 21))).fr 1
            have s22 := (((hF4.set1 (.slice da 20 dc)).set2 (.int .i64 20)).set2 (.int .i64 (n2.1 % 21))).fr 2
            have hbF7 := (((hbF4.off ⟨bf, 1, none⟩ (.slice da 20 dc) (by simp only; omega)).off ⟨bf, 2, none⟩ (.int .i64 20) (by simp only; omega)).off ⟨bf, 2, none⟩ (.int .i64 (n2.1 % 21)) (by simp only; omega))
            have y7 := hbF7.c
            have HBR7 := hide (((hbR4.off ⟨bf, 1, none⟩ (.slice da 20 dc) (by simp only; omega)).off ⟨bf, 2, none⟩ (.int .i64 20) (by simp only; omega)).off ⟨bf, 2, none⟩ (.int .i64 (n2.1 % 21)) (by simp only; omega))
            have HBF7 := hide hbF7
            have hN7 := (((hN4.fox hF4 1 (.slice da 20 dc)).fox (hF4.set1 (.slice da 20 dc)) 2 (.int .i64 20)).fox ((hF4.set1 (.slice da 20 dc)).set2 (.int .i64 20)) 2 (.int .i64 (n2.1 % 21)))
            have hD7 := ((((hD4.cut (m := 20) (by omega)).fox hF4 1 (.slice da 20 dc)).fox (hF4.set1 (.slice da 20 dc)) 2 (.int .i64 20)).fox ((hF4.set1 (.slice da 20 dc)).set2 (.int .i64 20)) 2 (.int .i64 (n2.1 % 21)))
            have D7 := (((D4.fox hF4 (by omega) 1 (.slice da 20 dc)).fox (hF4.set1 (.slice da 20 dc)) (by omega) 2 (.int .i64 20)).fox ((hF4.set1 (.slice da 20 dc)).set2 (.int .i64 20)) (by omega) 2 (.int .i64 (n2.1 % 21)))
            have G7 := (grown_later (grown_later (grown_later G4 bf (by omega) 1 (.slice da 20 dc)) bf (by omega) 2 (.int .i64 20)) bf (by omega) 2 (.int .i64 (n2.1 % 21)))
            have hrw7 := HRW.out.keep G7 (.inr rfl)
            have hcd : cutD T.1 = (T.1.take 20) := if_pos h2
            have hfl : flOf n2.1 T.1 = ⟨NM, (T.1.take 20), (n2.1 % 21)⟩ := by unfold flOf; rw [HNE.out, hcd, if_pos h5]; simp [show (20 : Nat) ≤ T.1.length by omega]
            have HWT := hide (l7with_any _ (.slice na NM.length nc, .slice da 20 dc) FM.1 ⟨NM, (T.1.take 20), (n2.1 % 21)⟩ (((W4.setCell ⟨bf, 1, none⟩ (.slice da 20 dc)).setCell ⟨bf, 2, none⟩ (.int .i64 20)).setCell ⟨bf, 2, none⟩ (.int .i64 (n2.1 % 21))) hrw7.rd ⟨hN7.rd, hN7.sl, hD7.rd, hD7.sl⟩ (HSm.out.fss (by omega)) ⟨by have := hNb.1; simp only; omega, by have := hD7.sl; simp only; rw [List.length_take]; omega⟩ ⟨hNb.2, fun z hz => HTB.out.2 z (List.mem_of_mem_take hz)⟩ (by have := HSm.out.l; omega))
            simp only at HWT
            rw [← hfl] at HWT
            have HRT := hide (And.intro D7 G7)
            clear hF4 hN4 hD4 D4 G4 hbF4 hbR4 hrw4 hN7 hD7 D7 G7 hrw7 hbF7 hcd hfl
            have b2 : decide (2000 < (T.1.length : Int)) = true := by simp; omega
            go_wp2_with fail
            refine HWT.out.mono ?_
            rintro e w8 ⟨v8, rfl, o8, g8⟩
            generalize (((W4.setCell ⟨bf, 1, none⟩ (.slice da 20 dc)).setCell ⟨bf, 2, none⟩ (.int .i64 20)).setCell ⟨bf, 2, none⟩ (.int .i64 (n2.1 % 21))) = W7 at *
          case' k10 =>
            have r00 := (hF4.set1 (.slice da 20 dc)).c0
            have r01 := (hF4.set1 (.slice da 20 dc)).c1
            have r02 := (hF4.set1 (.slice da 20 dc)).c2
            have s01 := (hF4.set1 (.slice da 20 dc)).fr 1
            have s02 := (hF4.set1 (.slice da 20 dc)).fr 2
            have r10 := ((hF4.set1 (.slice da 20 dc)).set2 (.int .i64 20)).c0
            have r11 := ((hF4.set1 (.slice da 20 dc)).set2 (.int .i64 20)).c1
            have r12 := ((hF4.set1 (.slice da 20 dc)).set2 (.int .i64 20)).c2
            have s11 := ((hF4.set1 (.slice da 20 dc)).set2 (.int .i64 20)).fr 1
            have s12 := ((hF4.set1 (.slice da 20 dc)).set2 (.int .i64 20)).fr 2
            have hbF7 := ((hbF4.off ⟨bf, 1, none⟩ (.slice da 20 dc) (by simp only; omega)).off ⟨bf, 2, none⟩ (.int .i64 20) (by simp only; omega))
            have y7 := hbF7.c
            have HBR7 := hide ((hbR4.off ⟨bf, 1, none⟩ (.slice da 20 dc) (by simp only; omega)).off ⟨bf, 2, none⟩ (.int .i64 20) (by simp only; omega))
            have HBF7 := hide hbF7
            have hN7 := ((hN4.fox hF4 1 (.slice da 20 dc)).fox (hF4.set1 (.slice da 20 dc)) 2 (.int .i64 20))
            have hD7 := (((hD4.cut (m := 20) (by omega)).fox hF4 1 (.slice da 20 dc)).fox (hF4.set1 (.slice da 20 dc)) 2 (.int .i64 20))
            have D7 := ((D4.fox hF4 (by omega) 1 (.slice da 20 dc)).fox (hF4.set1 (.slice da 20 dc)) (by omega) 2 (.int .i64 20))
            have G7 := (grown_later (grown_later G4 bf (by omega) 1 (.slice da 20 dc)) bf (by omega) 2 (.int .i64 20))
            have hrw7 := HRW.out.keep G7 (.inr rfl)
            have hcd : cutD T.1 = (T.1.take 20) := if_pos h2
            have hfl : flOf n2.1 T.1 = ⟨NM, (T.1.take 20), 20⟩ := by unfold flOf; rw [HNE.out, hcd, if_neg h5]; simp [show (20 : Nat) ≤ T.1.length by omega]
            have HWT := hide (l7with_any _ (.slice na NM.length nc, .slice da 20 dc) FM.1 ⟨NM, (T.1.take 20), 20⟩ ((W4.setCell ⟨bf, 1, none⟩ (.slice da 20 dc)).setCell ⟨bf, 2, none⟩ (.int .i64 20)) hrw7.rd ⟨hN7.rd, hN7.sl, hD7.rd, hD7.sl⟩ (HSm.out.fss (by omega)) ⟨by have := hNb.1; simp only; omega, by have := hD7.sl; simp only; rw [List.length_take]; omega⟩ ⟨hNb.2, fun z hz => HTB.out.2 z (List.mem_of_mem_take hz)⟩ (by have := HSm.out.l; omega))
            simp only at HWT
            rw [← hfl] at HWT
            have HRT := hide (And.intro D7 G7)
            clear hF4 hN4 hD4 D4 G4 hbF4 hbR4 hrw4 hN7 hD7 D7 G7 hrw7 hbF7 hcd hfl
            have b5 : (n2.1 / 6 % 5 == 0) = false := by simpa using h5
            have b2 : decide (2000 < (T.1.length : Int)) = true := by simp; omega
            go_wp2_with fail
            refine HWT.out.mono ?_
            rintro e w8 ⟨v8, rfl, o8, g8⟩
            generalize ((W4.setCell ⟨bf, 1, none⟩ (.slice da 20 dc)).setCell ⟨bf, 2, none⟩ (.int .i64 20)) = W7 at *
        case' k0 =>
          refine if h5 : n2.1 / 6 % 5 = 0 then ?k01 else ?k00
          case' k01 =>
            have r00 := (hF4.set2 (.int .i64 (T.1.length : Int))).c0
            have r01 := (hF4.set2 (.int .i64 (T.1.length : Int))).c1
            have r02 := (hF4.set2 (.int .i64 (T.1.length : Int))).c2
            have s01 := (hF4.set2 (.int .i64 (T.1.length : Int))).fr 1
            have s02 := (hF4.set2 (.int .i64 (T.1.length : Int))).fr 2
            have r10 := ((hF4.set2 (.int .i64 (T.1.length : Int))).set2 (.int .i64 (n2.1 % ((T.1.length : Int) + 1)))).c0
            have r11 := ((hF4.set2 (.int .i64 (T.1.length : Int))).set2 (.int .i64 (n2.1 % ((T.1.length : Int) + 1)))).c1
            have r12 := ((hF4.set2 (.int .i64 (T.1.length : Int))).set2 (.int .i64 (n2.1 % ((T.1.length : Int) + 1)))).c2
            have s11 := ((hF4.set2 (.int .i64 (T.1.length : Int))).set2 (.int .i64 (n2.1 % ((T.1.length : Int) + 1)))).fr 1
            have s12 := ((hF4.set2 (.int .i64 (T.1.length : Int))).set2 (.int .i64 (n2.1 % ((T.1.length : Int) + 1)))).fr 2
            have hbF7 := ((hbF4.off ⟨bf, 2, none⟩ (.int .i64 (T.1.length : Int)) (by simp only; omega)).off ⟨bf, 2, none⟩ (.int .i64 (n2.1 % ((T.1.length : Int) + 1))) (by simp only; omega))
            have y7 := hbF7.c
            have HBR7 := hide ((hbR4.off ⟨bf, 2, none⟩ (.int .i64 (T.1.length : Int)) (by simp only; omega)).off ⟨bf, 2, none⟩ (.int .i64 (n2.1 % ((T.1.length : Int) + 1))) (by simp only; omega))
            have HBF7 := hide hbF7
            have hN7 := ((hN4.fox hF4 2 (.int .i64 (T.1.length : Int))).fox (hF4.set2 (.int .i64 (T.1.length : Int))) 2 (.int .i64 (n2.1 % ((T.1.length : Int) + 1))))
            have hD7 := ((hD4.fox hF4 2 (.int .i64 (T.1.length : Int))).fox (hF4.set2 (.int .i64 (T.1.length : Int))) 2 (.int .i64 (n2.1 % ((T.1.length : Int) + 1))))
            have D7 := ((D4.fox hF4 (by omega) 2 (.int .i64 (T.1.length : Int))).fox (hF4.set2 (.int .i64 (T.1.length : Int))) (by omega) 2 (.int .i64 (n2.1 % ((T.1.length : Int) + 1))))
            have G7 := (grown_later (grown_later G4 bf (by omega) 2 (.int .i64 (T.1.length : Int))) bf (by omega) 2 (.int .i64 (n2.1 % ((T.1.length : Int) + 1))))
            have hrw7 := HRW.out.keep G7 (.inr rfl)
            have hcd : cutD T.1 = T.1 := if_neg h2
            have hfl : flOf n2.1 T.1 = ⟨NM, T.1, (n2.1 % ((T.1.length : Int) + 1))⟩ := by unfold flOf; rw [HNE.out, hcd, if_pos h5]
            have HWT := hide (l7with_any _ (.slice na NM.length nc, .slice da T.1.length dc) FM.1 ⟨NM, T.1, (n2.1 % ((T.1.length : Int) + 1))⟩ ((W4.setCell ⟨bf, 2, none⟩ (.int .i64 (T.1.length : Int))).setCell ⟨bf, 2, none⟩ (.int .i64 (n2.1 % ((T.1.length : Int) + 1)))) hrw7.rd ⟨hN7.rd, hN7.sl, hD7.rd, hD7.sl⟩ (HSm.out.fss (by omega)) ⟨by have := hNb.1; simp only; omega, by have := hD7.sl; simp only; omega⟩ ⟨hNb.2, HTB.out.2⟩ (by have := HSm.out.l; omega))
            simp only at HWT
            rw [← hfl] at HWT
            have HRT := hide (And.intro D7 G7)
            clear hF4 hN4 hD4 D4 G4 hbF4 hbR4 hrw4 hN7 hD7 D7 G7 hrw7 hbF7 hcd hfl
            have b2 : decide (2000 < (T.1.length : Int)) = false := by simp; omega
            go_wp2_with fail
            refine HWT.out.mono ?_
            rintro e w8 ⟨v8, rfl, o8, g8⟩
            generalize ((W4.setCell ⟨bf, 2, none⟩ (.int .i64 (T.1.length : Int))).setCell ⟨bf, 2, none⟩ (.int .i64 (n2.1 % ((T.1.length : Int) + 1)))) = W7 at *
          case' k00 =>
            have r00 := (hF4.set2 (.int .i64 (T.1.length : Int))).c0
            have r01 := (hF4.set2 (.int .i64 (T.1.length : Int))).c1
            have r02 := (hF4.set2 (.int .i64 (T.1.length : Int))).c2
            have s01 := (hF4.set2 (.int .i64 (T.1.length : Int))).fr 1
            have s02 := (hF4.set2 (.int .i64 (T.1.length : Int))).fr 2
            have hbF7 := (hbF4.off ⟨bf, 2, none⟩ (.int .i64 (T.1.length : Int)) (by simp only; omega))
            have y7 := hbF7.c
            have HBR7 := hide (hbR4.off ⟨bf, 2, none⟩ (.int .i64 (T.1.length : Int)) (by simp only; omega))
            have HBF7 := hide hbF7
            have hN7 := (hN4.fox hF4 2 (.int .i64 (T.1.length : Int)))
            have hD7 := (hD4.fox hF4 2 (.int .i64 (T.1.length : Int)))
            have D7 := (D4.fox hF4 (by omega) 2 (.int .i64 (T.1.length : Int)))
            have G7 := (grown_later G4 bf (by omega) 2 (.int .i64 (T.1.length : Int)))
            have hrw7 := HRW.out.keep G7 (.inr rfl)
            have hcd : cutD T.1 = T.1 := if_neg h2
            have hfl : flOf n2.1 T.1 = ⟨NM, T.1, (T.1.length : Int)⟩ := by unfold flOf; rw [HNE.out, hcd, if_neg h5]
            have HWT := hide (l7with_any _ (.slice na NM.length nc, .slice da T.1.length dc) FM.1 ⟨NM, T.1, (T.1.length : Int)⟩ (W4.setCell ⟨bf, 2, none⟩ (.int .i64 (T.1.length : Int))) hrw7.rd ⟨hN7.rd, hN7.sl, hD7.rd, hD7.sl⟩ (HSm.out.fss (by omega)) ⟨by have := hNb.1; simp only; omega, by have := hD7.sl; simp only; omega⟩ ⟨hNb.2, HTB.out.2⟩ (by have := HSm.out.l; omega))
            simp only at HWT
            rw [← hfl] at HWT
            have HRT := hide (And.intro D7 G7)
            clear hF4 hN4 hD4 D4 G4 hbF4 hbR4 hrw4 hN7 hD7 D7 G7 hrw7 hbF7 hcd hfl
            have b5 : (n2.1 / 6 % 5 == 0) = false := by simpa using h5
            have b2 : decide (2000 < (T.1.length : Int)) = false := by simp; omega
            go_wp2_with fail
            refine HWT.out.mono ?_
            rintro e w8 ⟨v8, rfl, o8, g8⟩
            generalize (W4.setCell ⟨bf, 2, none⟩ (.int .i64 (T.1.length : Int))) = W7 at *
        all_goals
          have hw8 := g8.size
          have D8 := HRT.out.1.keep g8
          have G8 := HRT.out.2
          have hW7 := G8.size
          have bF8 := HBF7.out.keep g8 (by simp)
          have bR8 := HBR7.out.keep g8 (by simp)
          have rw8 := (o8.rw (F := F) (by omega)).base (B' := w.heap.size + 2) (by omega) (by omega)
          have HX8 := hide (rw8.box bF8 (by omega) v8)
          have HD9 := hide (D8.box bF8 (by omega) v8)
          have HB9 := hide (And.intro (bR8.off ⟨w.heap.size + 1, 0, none⟩ v8 (by simp)) (bF8.set v8))
          have HN9 : Hid (∀ n, n < 6 → (w8.setCell ⟨w.heap.size + 1, 0, none⟩ v8).cell? ⟨w1.heap.size, n, none⟩ = some (.string (strOfNums (namW.getD n [])))) := fun n hn => by
            have gS : w8.grownBy (w8.setCell ⟨w.heap.size + 1, 0, none⟩ v8) (some (w.heap.size + 1)) := ⟨rfl, rfl, rfl, by simp, fun i _ hn => heap_setCell_other w8 ⟨w.heap.size + 1, 0, none⟩ i v8 (fun e => hn (by rw [e]))⟩
            exact gS.cell (g8.cell (G8.cell (HNM.out n hn) (by simp; omega)) (by simp)) (by simp; omega)
          have y9 := bF8.c
          have y8 := bF8.fr
          obtain ⟨a8, c8, hv8, _, _⟩ := o8.rd.sl
          generalize (withF FM.1 (flOf n2.1 T.1)).length = L8 at hv8
          subst hv8
          clear D8 bF8 bR8 rw8 o8 HWT HRT HBF7 HBR7
          go_wp2
          go_roundw
          case rel => exact ⟨m + 1, _, _, by omega, by go_num, HB9.out.1, HB9.out.2, HN9.out, by simp; omega, by rw [HFS.out]; exact HX8.out, by rw [HFS.out]; exact HD9.out⟩
          case measure => simp [intOf]; omega
    · obtain rfl : m = C := by omega
      have HN3 := hide (hD.next HZ.out)
      have hb3 := nx_bd HZ.out.by' (fsN zs m n1.2).2
      obtain ⟨hSm, hNm⟩ := HSM.out m
      generalize hFM : fsN zs m n1.2 = FM at *
      generalize hn3 : nx zs FM.2 = n3 at *
      obtain ⟨fa, fc, hfv, _, _⟩ := hrw.rd.sl
      have HB := hide (And.intro hbR hbF)
      have HRW := hide hrw
      have HFL := hide (fill_len hNm)
      have HFS : Hid (∀ q, q ≤ 60 → _) := fun q (hq : q ≤ 60) => fill_sm hSm q hq
      have hm5 : FM.1.length ≤ 4 := by have := hSm.l; omega
      subst hfv
      clear hbR hbF hnm hrw hD hFM hn3 hSm hNm HSM
      go_wp2_with fail
      refine HN3.out.mono ?_
      rintro e w3 ⟨rfl, D3, g3⟩
      have hbF3 := HB.out.2.keep g3 (by simp; omega)
      have hbR3 := HB.out.1.keep g3 (by simp; omega)
      have hrw3 := HRW.out.keep g3 (.inr rfl)
      have hw3 := g3.size
      by_cases h3 : n3.1 = 3
      · have HE := hide (HP.out.trans (by rw [if_pos h3]))
        have HB3 := hide (And.intro hbR3 hbF3)
        have HRW3 := hide hrw3
        have HD3 := hide D3
        clear HP HN3 HB HRW D3 g3 hbF3 hbR3 hrw3
        rw [h3]
        go_wp2
        go_loopw [10] (fun iv W => ∃ (q : Nat) (fv : Value) (Γ' : Gk), q ≤ 49 - FM.1.length ∧ iv = .int .i64 q ∧ Bx W w.heap.size (.slice none 0 0) ∧ Bx W (w.heap.size + 1) fv ∧ RwF F (w.heap.size + 2) W fv (fillN FM.1 q) ∧ KD F v zs Γ w n3.2 Γ' W) (fun iv _ => 60 - (intOf iv).toNat)
        case atStart => exact ⟨0, _, _, Nat.zero_le _, rfl, HB3.out.1, HB3.out.2, HRW3.out, HD3.out⟩
        case round =>
          obtain ⟨q, fv, Γ3, hq, rfl, hbR, hbF, hrw, hD⟩ := hrel
          have hfl := (HFL.out q).1
          obtain ⟨fa', fc', hfv, _, _⟩ := hrw.rd.sl
          rw [hfl] at hfv
          have hsz : w.heap.size + 2 ≤ wr.heap.size := by have := hbF.lt; omega
          by_cases hlt : FM.1.length + q < 49
          · have e1 : ((q / 26 : Nat) : Int) = (q : Int) / 26 := by omega
            have e2 : ((q % 26 : Nat) : Int) = (q : Int) % 26 := by omega
            have HNE : Hid (fName q = [102, 97 + (q : Int) / 26, 97 + (q : Int) % 26]) := by unfold Hid fName; rw [e1, e2]
            have gA := World.grownBy_alloc wr (Obj.cells #[.int .u8 102, .int .u8 (97 + (q : Int) / 26), .int .u8 (97 + (q : Int) % 26)] 5) none
            have hN : Txo F none (wr.alloc (Obj.cells #[.int .u8 102, .int .u8 (97 + (q : Int) / 26), .int .u8 (97 + (q : Int) % 26)] 5)) (.slice (some ⟨wr.heap.size, 0, none⟩) 3 3) (fName q) := by
              rw [HNE.out]
              refine txo_new (t := [102, 97 + (q : Int) / 26, 97 + (q : Int) % 26]) (cap := 3) (fun j hj => ?_) (by simp) (by omega) (by simp) (by simp) (by unfold maxLen; omega)
              rw [cell_of_row _ wr.heap.size j _ _ _ (heap_alloc_new wr _)]
              match j, hj with
              | 0, _ => rfl
              | 1, _ => rfl
              | 2, _ => rfl
              | j + 3, hj => simp at hj; omega
            have hnb := fName_bl (m := q) (by omega)
            have hrwA := hrw.keep gA (.inl rfl)
            have HWT := hide (l7with_any fv (.slice (some ⟨wr.heap.size, 0, none⟩) 3 3, .slice none 0 0) (fillN FM.1 q) ⟨fName q, [], 0⟩ _ hrwA.rd ⟨hN.rd, hN.sl, (Txo.nil F none _).rd, (Txo.nil F none wr).sl⟩ ((HFS.out q (by omega)).fss (by omega)) ⟨by have := hnb.1; simp only; omega, by simp⟩ ⟨hnb.2, fun z hz => by simp at hz⟩ (by omega))
            simp only at HWT
            have HFN : Hid (fillN FM.1 (q + 1) = withF (fillN FM.1 q) ⟨fName q, [], 0⟩) := rfl
            have HDA := hide (hD.keep gA)
            have HBA := hide (And.intro (hbR.keep gA (by simp)) (hbF.keep gA (by simp)))
            have y0 := hbF.c
            have yA := (hbF.keep gA (by simp)).c
            have u1 : IntKind.u8.wrap (97 + (q : Int) / 26) = 97 + (q : Int) / 26 := by rw [IntKind.wrap_u8]; omega
            have u2 : IntKind.u8.wrap (97 + (q : Int) % 26) = 97 + (q : Int) % 26 := by rw [IntKind.wrap_u8]; omega
            have hl' : (FM.1.length : Int) + q < 49 := by omega
            have hgs := gA.size
            subst hfv
            clear hbR hbF hrw hD hN hrwA gA e1 e2 hnb
            go_wp2_with fail
            refine HWT.out.mono ?_
            rintro e w8 ⟨v8, rfl, o8, g8⟩
            have hw8 := g8.size
            have D8 := HDA.out.keep g8
            have bF8 := HBA.out.2.keep g8 (by simp)
            have bR8 := HBA.out.1.keep g8 (by simp)
            have rw8 := (o8.rw (F := F) (by omega)).base (B' := w.heap.size + 2) (by omega) (by omega)
            have HX8 := hide (rw8.box bF8 (by omega) v8)
            have HD9 := hide (D8.box bF8 (by omega) v8)
            have HB9 := hide (And.intro (bR8.off ⟨w.heap.size + 1, 0, none⟩ v8 (by simp)) (bF8.set v8))
            have y9 := bF8.c
            have y8 := bF8.fr
            obtain ⟨a8, c8, hv8, _, _⟩ := o8.rd.sl
            generalize (withF (fillN FM.1 q) ⟨fName q, [], 0⟩).length = L8 at hv8
            subst hv8
            clear D8 bF8 bR8 rw8 o8 HWT HDA HBA
            go_wp2
            go_roundw
            case rel => exact ⟨q + 1, _, _, by omega, by go_num, HB9.out.1, HB9.out.2, by rw [HFN.out]; exact HX8.out, HD9.out⟩
            case measure => simp [intOf]; omega
          · obtain rfl : q = 49 - FM.1.length := by omega
            have HR := hide ((hrw.box hbR (by omega) fv).base (B' := w.heap.size + 1) (by omega) (by omega))
            have HD4 := hide (hD.box hbR (Nat.le_refl _) fv)
            have y0 := hbF.c
            have y1 := hbR.c
            have y2 := hbR.fr
            have y3 := (hbR.set fv).c
            have hl' : ¬ ((FM.1.length : Int) + ((49 - FM.1.length : Nat) : Int)) < 49 := by omega
            subst hfv
            clear hbF hbR hrw hD
            go_wp2
            refine bodyPost_ret (v := .agg #[.slice fa' (FM.1.length + (49 - FM.1.length)) fc']) (by simp [results, Tryz.results41, go_sem, y3]) rfl ?_
            rw [HE.out]
            exact ⟨_, rfl, HR.out, _, HD4.out⟩
      · have HE := hide (HP.out.trans (by rw [if_neg h3]))
        have b3 : (n3.1 == 3) = false := by simpa using h3
        have HR := hide ((hrw3.box hbR3 (by omega) (.slice fa FM.1.length fc)).base (B' := w.heap.size + 1) (by omega) (by omega))
        have HD4 := hide (D3.box hbR3 (Nat.le_refl _) (.slice fa FM.1.length fc))
        have y0 := hbF3.c
        have y1 := hbR3.c
        have y2 := hbR3.fr
        have y3 := (hbR3.set (.slice fa FM.1.length fc)).c
        clear HP HN3 HB HRW D3 g3 hbF3 hbR3 hrw3
        go_wp2
        refine bodyPost_ret (v := .agg #[.slice fa FM.1.length fc]) (by simp [results, Tryz.results41, go_sem, y3]) rfl ?_
        rw [HE.out]
        exact ⟨_, rfl, HR.out, _, HD4.out⟩
end Go.Proofs.YtakkdniikhgpdaaGreatDoor

