import Derived.Test.YtgmjpdejfdldlaaDoorMBE
namespace Go.Proofs.YtgmjpdejfdldlaaDoor
open Go.RowKit

theorem dDoc_mes (zs : List Int) (d i : Nat) (hd : d ≤ 6) (hi : i ≤ zs.length) : mes (dDoc zs d i).1 ≤ 511 := by
  have h := (dDoc_ok zs d i hi).ms
  have : 2 ^ d ≤ 2 ^ 6 := Nat.pow_le_pow_right (by omega) hd
  omega

set_option maxHeartbeats 2000000 in
set_option maxRecDepth 100000 in
theorem dd_lt3 (F : Nat) (v : Value) (zs : List Int) (hby : Bys zs) (hm : zs.length ≤ 4194304) (d i : Nat) (hd : d ≤ 6) (ih : ∀ (i : Nat) (w : World), Rdr F w v i → RdB F w v zs → i ≤ zs.length → Calls Tryd.prog 54 #[.pointer (some ⟨F, 0, none⟩), .int .i64 d] w fun e w' => Drawn F v w (dDoc zs d i) e w')
    (w : World) (hF : Rdr F w v i) (hv : RdB F w v zs) (hi : i ≤ zs.length) (h3 : (nx zs i).1 % 20 < 3) :
    Calls Tryd.prog 54 #[.pointer (some ⟨F, 0, none⟩), .int .i64 ((d : Int) + 1)] w fun e w' => Drawn F v w (dDoc zs (d + 1) i) e w' := by
  have hkb := nx_bd hby i
  have hdU := hd
  have h3U := h3
  have hl := nx_le hi
  have hFlt := hF.lt
  have HP : Hid (dDoc zs (d + 1) i = dTxt zs (nx zs i).2) := by unfold Hid; rw [dDoc]; rw [if_pos (.inl h3)]
  have hnx := hide (next_any F v zs i _ hF hv hby hm hi)
  have HV := hide hv
  have IH := hide ih
  clear hv hF ih
  generalize (nx zs i).1 = k at *
  generalize (nx zs i).2 = j at *
  obtain ⟨hk0, hk1⟩ := hkb
  go_enter Tryd.func54, Tryd.ntmps54
  go_wp2_with fail
  refine hnx.out.mono ?_
  rintro e w1 ⟨rfl, f1, g1⟩
  have HV1 := hide (HV.out.beside g1 (fun k e => by cases e; omega))
  clear hnx
  have HTw := hide (l2drawText_any F v zs j w1 f1 HV1.out hby hm hl)
  clear IH
  go_wp2_with fail
  refine HTw.out.mono ?_
  rintro e w2 ⟨v', rfl, o2, f2, g2⟩
  have HO := hide (o2.base g1.size)
  have HF := hide f2
  have HG := hide (grown_trans g1 g2)
  obtain ⟨oa, oc, hov, _⟩ := o2.sl
  subst hov
  clear o2 g2 f1 g1 f2 HTw
  go_wp2
  go_ret
  rw [HP.out]
  exact ⟨_, rfl, HO.out, HF.out, HG.out⟩

set_option maxHeartbeats 2000000 in
set_option maxRecDepth 100000 in
theorem dd_end (F : Nat) (v : Value) (zs : List Int) (hby : Bys zs) (hm : zs.length ≤ 4194304) (d i : Nat) (hd : d ≤ 6) (ih : ∀ (i : Nat) (w : World), Rdr F w v i → RdB F w v zs → i ≤ zs.length → Calls Tryd.prog 54 #[.pointer (some ⟨F, 0, none⟩), .int .i64 d] w fun e w' => Drawn F v w (dDoc zs d i) e w')
    (w : World) (hF : Rdr F w v i) (hv : RdB F w v zs) (hi : i ≤ zs.length) (h3 : ¬ (nx zs i).1 % 20 < 3) (hq : (nx zs i).2 = zs.length) :
    Calls Tryd.prog 54 #[.pointer (some ⟨F, 0, none⟩), .int .i64 ((d : Int) + 1)] w fun e w' => Drawn F v w (dDoc zs (d + 1) i) e w' := by
  have hkb := nx_bd hby i
  have hdU := hd
  have h3U := h3
  have hl := nx_le hi
  have hFlt := hF.lt
  have HP : Hid (dDoc zs (d + 1) i = dTxt zs (nx zs i).2) := by unfold Hid; rw [dDoc]; rw [if_pos (.inr hq)]
  have hnx := hide (next_any F v zs i _ hF hv hby hm hi)
  have HV := hide hv
  have IH := hide ih
  clear hv hF ih
  generalize (nx zs i).1 = k at *
  generalize (nx zs i).2 = j at *
  obtain ⟨hk0, hk1⟩ := hkb
  go_enter Tryd.func54, Tryd.ntmps54
  go_wp2_with fail
  refine hnx.out.mono ?_
  rintro e w1 ⟨rfl, f1, g1⟩
  have HV1 := hide (HV.out.beside g1 (fun k e => by cases e; omega))
  clear hnx
  have HL := hide (left_any F v zs j w1 f1 HV1.out hm hl)
  have hne : (((zs.length - j : Nat) : Int) == 0) = true := by simp; omega
  go_wp2_with fail
  refine HL.out.mono ?_
  rintro e w1' ⟨n, rfl, rfl⟩
  have gd : w1.grownBy (w1.drewN n) none := grown_drewN (World.grownBy.refl _ _) n
  have f1' := f1.kept gd (by simp)
  have HV2 := hide (HV1.out.keep gd)
  have g1' := grown_trans g1 (grown_rowD gd (some F))
  clear HL f1 g1 HV1 gd
  rename Rdr F (w1.drewN n) v _ => f1
  rename w.grownBy (w1.drewN n) _ => g1
  rename Hid (RdB F (w1.drewN n) v zs) => HV1
  generalize w1.drewN n = w1 at *
  have HTw := hide (l2drawText_any F v zs j w1 f1 HV1.out hby hm hl)
  clear IH
  go_wp2_with fail
  refine HTw.out.mono ?_
  rintro e w2 ⟨v', rfl, o2, f2, g2⟩
  have HO := hide (o2.base g1.size)
  have HF := hide f2
  have HG := hide (grown_trans g1 g2)
  obtain ⟨oa, oc, hov, _⟩ := o2.sl
  subst hov
  clear o2 g2 f1 g1 f2 HTw
  go_wp2
  go_ret
  rw [HP.out]
  exact ⟨_, rfl, HO.out, HF.out, HG.out⟩

set_option maxHeartbeats 2000000 in
set_option maxRecDepth 100000 in
theorem dd_line (F : Nat) (v : Value) (zs : List Int) (hby : Bys zs) (hm : zs.length ≤ 4194304) (d i : Nat) (hd : d ≤ 6) (ih : ∀ (i : Nat) (w : World), Rdr F w v i → RdB F w v zs → i ≤ zs.length → Calls Tryd.prog 54 #[.pointer (some ⟨F, 0, none⟩), .int .i64 d] w fun e w' => Drawn F v w (dDoc zs d i) e w')
    (w : World) (hF : Rdr F w v i) (hv : RdB F w v zs) (hi : i ≤ zs.length) (h3 : ¬ (nx zs i).1 % 20 < 3) (hq : ¬ (nx zs i).2 = zs.length) (h6 : (nx zs i).1 % 20 < 6) :
    Calls Tryd.prog 54 #[.pointer (some ⟨F, 0, none⟩), .int .i64 ((d : Int) + 1)] w fun e w' => Drawn F v w (dDoc zs (d + 1) i) e w' := by
  have hkb := nx_bd hby i
  have hdU := hd
  have h3U := h3
  have hl := nx_le hi
  have hFlt := hF.lt
  have HP : Hid (dDoc zs (d + 1) i = (leafP 2, (nx zs i).2)) := by unfold Hid; rw [dDoc]; rw [if_neg (by omega), if_pos (by omega)]
  have hnx := hide (next_any F v zs i _ hF hv hby hm hi)
  have HV := hide hv
  have IH := hide ih
  clear hv hF ih
  generalize (nx zs i).1 = k at *
  generalize (nx zs i).2 = j at *
  obtain ⟨hk0, hk1⟩ := hkb
  go_enter Tryd.func54, Tryd.ntmps54
  go_wp2_with fail
  refine hnx.out.mono ?_
  rintro e w1 ⟨rfl, f1, g1⟩
  have HV1 := hide (HV.out.beside g1 (fun k e => by cases e; omega))
  clear hnx
  have HL := hide (left_any F v zs j w1 f1 HV1.out hm hl)
  have hne : (((zs.length - j : Nat) : Int) == 0) = false := by simp; omega
  go_wp2_with fail
  refine HL.out.mono ?_
  rintro e w1' ⟨n, rfl, rfl⟩
  have gd : w1.grownBy (w1.drewN n) none := grown_drewN (World.grownBy.refl _ _) n
  have f1' := f1.kept gd (by simp)
  have HV2 := hide (HV1.out.keep gd)
  have g1' := grown_trans g1 (grown_rowD gd (some F))
  clear HL f1 g1 HV1 gd
  rename Rdr F (w1.drewN n) v _ => f1
  rename w.grownBy (w1.drewN n) _ => g1
  rename Hid (RdB F (w1.drewN n) v zs) => HV1
  generalize w1.drewN n = w1 at *
  have HLf := hide (l2leaf_any 2 w1)
  clear IH
  go_wp2_with fail
  refine HLf.out.mono ?_
  rintro e w2 ⟨v', rfl, o2, g2⟩
  have HO := hide (o2.base g1.size)
  have HF := hide (f1.kept g2 (by simp))
  have HG := hide (grown_trans g1 (grown_rowD g2 (some F)))
  obtain ⟨oa, oc, hov, _⟩ := o2.sl
  subst hov
  clear o2 g2 f1 g1 HLf
  go_wp2
  go_ret
  rw [HP.out]
  exact ⟨_, rfl, HO.out, HF.out, HG.out⟩

set_option maxHeartbeats 2000000 in
set_option maxRecDepth 100000 in
theorem dd_soft (F : Nat) (v : Value) (zs : List Int) (hby : Bys zs) (hm : zs.length ≤ 4194304) (d i : Nat) (hd : d ≤ 6) (ih : ∀ (i : Nat) (w : World), Rdr F w v i → RdB F w v zs → i ≤ zs.length → Calls Tryd.prog 54 #[.pointer (some ⟨F, 0, none⟩), .int .i64 d] w fun e w' => Drawn F v w (dDoc zs d i) e w')
    (w : World) (hF : Rdr F w v i) (hv : RdB F w v zs) (hi : i ≤ zs.length) (h3 : ¬ (nx zs i).1 % 20 < 3) (hq : ¬ (nx zs i).2 = zs.length) (h6 : ¬ (nx zs i).1 % 20 < 6) (h7 : (nx zs i).1 % 20 = 6) :
    Calls Tryd.prog 54 #[.pointer (some ⟨F, 0, none⟩), .int .i64 ((d : Int) + 1)] w fun e w' => Drawn F v w (dDoc zs (d + 1) i) e w' := by
  have hkb := nx_bd hby i
  have hdU := hd
  have h3U := h3
  have hl := nx_le hi
  have hFlt := hF.lt
  have HP : Hid (dDoc zs (d + 1) i = (leafP 3, (nx zs i).2)) := by unfold Hid; rw [dDoc]; rw [if_neg (by omega), if_neg (by omega), if_pos (by omega)]
  have hnx := hide (next_any F v zs i _ hF hv hby hm hi)
  have HV := hide hv
  have IH := hide ih
  have h7b : ((nx zs i).1 % 20 == 6) = true := by simpa using h7
  clear hv hF ih
  generalize (nx zs i).1 = k at *
  generalize (nx zs i).2 = j at *
  obtain ⟨hk0, hk1⟩ := hkb
  go_enter Tryd.func54, Tryd.ntmps54
  go_wp2_with fail
  refine hnx.out.mono ?_
  rintro e w1 ⟨rfl, f1, g1⟩
  have HV1 := hide (HV.out.beside g1 (fun k e => by cases e; omega))
  clear hnx
  have HL := hide (left_any F v zs j w1 f1 HV1.out hm hl)
  have hne : (((zs.length - j : Nat) : Int) == 0) = false := by simp; omega
  go_wp2_with fail
  refine HL.out.mono ?_
  rintro e w1' ⟨n, rfl, rfl⟩
  have gd : w1.grownBy (w1.drewN n) none := grown_drewN (World.grownBy.refl _ _) n
  have f1' := f1.kept gd (by simp)
  have HV2 := hide (HV1.out.keep gd)
  have g1' := grown_trans g1 (grown_rowD gd (some F))
  clear HL f1 g1 HV1 gd
  rename Rdr F (w1.drewN n) v _ => f1
  rename w.grownBy (w1.drewN n) _ => g1
  rename Hid (RdB F (w1.drewN n) v zs) => HV1
  generalize w1.drewN n = w1 at *
  have HLf := hide (l2leaf_any 3 w1)
  clear IH
  go_wp2_with fail
  refine HLf.out.mono ?_
  rintro e w2 ⟨v', rfl, o2, g2⟩
  have HO := hide (o2.base g1.size)
  have HF := hide (f1.kept g2 (by simp))
  have HG := hide (grown_trans g1 (grown_rowD g2 (some F)))
  obtain ⟨oa, oc, hov, _⟩ := o2.sl
  subst hov
  clear o2 g2 f1 g1 HLf
  go_wp2
  go_ret
  rw [HP.out]
  exact ⟨_, rfl, HO.out, HF.out, HG.out⟩

set_option maxHeartbeats 2000000 in
set_option maxRecDepth 100000 in
theorem dd_odd0 (F : Nat) (v : Value) (zs : List Int) (hby : Bys zs) (hm : zs.length ≤ 4194304) (d i : Nat) (hd : d ≤ 6) (ih : ∀ (i : Nat) (w : World), Rdr F w v i → RdB F w v zs → i ≤ zs.length → Calls Tryd.prog 54 #[.pointer (some ⟨F, 0, none⟩), .int .i64 d] w fun e w' => Drawn F v w (dDoc zs d i) e w')
    (w : World) (hF : Rdr F w v i) (hv : RdB F w v zs) (hi : i ≤ zs.length) (h3 : ¬ (nx zs i).1 % 20 < 3) (hq : ¬ (nx zs i).2 = zs.length) (h6 : ¬ (nx zs i).1 % 20 < 6) (h7 : (nx zs i).1 % 20 = 7) (hc : (nx zs (nx zs i).2).1 % 5 = 0) :
    Calls Tryd.prog 54 #[.pointer (some ⟨F, 0, none⟩), .int .i64 ((d : Int) + 1)] w fun e w' => Drawn F v w (dDoc zs (d + 1) i) e w' := by
  have hkb := nx_bd hby i
  have hdU := hd
  have h3U := h3
  have hl := nx_le hi
  have hFlt := hF.lt
  have HP : Hid (dDoc zs (d + 1) i = (leafP 4, (nx zs (nx zs i).2).2)) := by unfold Hid; rw [dDoc]; rw [if_neg (by omega), if_neg (by omega), if_neg (by omega), if_pos (by omega)]; unfold lf7; rw [if_pos hc]
  have hnx := hide (next_any F v zs i _ hF hv hby hm hi)
  have HV := hide hv
  have IH := hide ih
  have h6b : ((nx zs i).1 % 20 == 6) = false := by simp; omega
  have h7b : ((nx zs i).1 % 20 == 7) = true := by simpa using h7
  have c0 : ((nx zs (nx zs i).2).1 % 5 == 0) = true := by simpa using hc
  clear hv hF ih
  generalize (nx zs i).1 = k at *
  generalize (nx zs i).2 = j at *
  obtain ⟨hk0, hk1⟩ := hkb
  go_enter Tryd.func54, Tryd.ntmps54
  go_wp2_with fail
  refine hnx.out.mono ?_
  rintro e w1 ⟨rfl, f1, g1⟩
  have HV1 := hide (HV.out.beside g1 (fun k e => by cases e; omega))
  clear hnx
  have HL := hide (left_any F v zs j w1 f1 HV1.out hm hl)
  have hne : (((zs.length - j : Nat) : Int) == 0) = false := by simp; omega
  go_wp2_with fail
  refine HL.out.mono ?_
  rintro e w1' ⟨n, rfl, rfl⟩
  have gd : w1.grownBy (w1.drewN n) none := grown_drewN (World.grownBy.refl _ _) n
  have f1' := f1.kept gd (by simp)
  have HV2 := hide (HV1.out.keep gd)
  have g1' := grown_trans g1 (grown_rowD gd (some F))
  clear HL f1 g1 HV1 gd
  rename Rdr F (w1.drewN n) v _ => f1
  rename w.grownBy (w1.drewN n) _ => g1
  rename Hid (RdB F (w1.drewN n) v zs) => HV1
  generalize w1.drewN n = w1 at *
  have hcb := nx_bd hby j
  have hl2 := nx_le hl
  have hnx2 := hide (next_any F v zs j w1 f1 HV1.out hby hm hl)
  generalize (nx zs j).1 = c at *
  generalize (nx zs j).2 = j2 at *
  obtain ⟨hc0, hc1⟩ := hcb
  go_wp2_with fail
  refine hnx2.out.mono ?_
  rintro e w2 ⟨rfl, f2, g2⟩
  have HV2 := hide (HV1.out.beside g2 (fun k e => by cases e; omega))
  have g2' := grown_trans g1 g2
  clear hnx2 f1 g1 g2 HV1
  rename w.grownBy w2 _ => g1
  rename Hid (RdB F w2 v zs) => HV1
  have HLf := hide (l2leaf_any 4 w2)
  clear IH
  go_wp2_with fail
  refine HLf.out.mono ?_
  rintro e w3 ⟨v', rfl, o2, g2⟩
  have HO := hide (o2.base g1.size)
  have HF := hide (f2.kept g2 (by simp))
  have HG := hide (grown_trans g1 (grown_rowD g2 (some F)))
  obtain ⟨oa, oc, hov, _⟩ := o2.sl
  subst hov
  clear o2 g2 f2 g1 HLf
  go_wp2
  go_ret
  rw [HP.out]
  exact ⟨_, rfl, HO.out, HF.out, HG.out⟩

set_option maxHeartbeats 2000000 in
set_option maxRecDepth 100000 in
theorem dd_odd1 (F : Nat) (v : Value) (zs : List Int) (hby : Bys zs) (hm : zs.length ≤ 4194304) (d i : Nat) (hd : d ≤ 6) (ih : ∀ (i : Nat) (w : World), Rdr F w v i → RdB F w v zs → i ≤ zs.length → Calls Tryd.prog 54 #[.pointer (some ⟨F, 0, none⟩), .int .i64 d] w fun e w' => Drawn F v w (dDoc zs d i) e w')
    (w : World) (hF : Rdr F w v i) (hv : RdB F w v zs) (hi : i ≤ zs.length) (h3 : ¬ (nx zs i).1 % 20 < 3) (hq : ¬ (nx zs i).2 = zs.length) (h6 : ¬ (nx zs i).1 % 20 < 6) (h7 : (nx zs i).1 % 20 = 7) (hc : (nx zs (nx zs i).2).1 % 5 = 1) :
    Calls Tryd.prog 54 #[.pointer (some ⟨F, 0, none⟩), .int .i64 ((d : Int) + 1)] w fun e w' => Drawn F v w (dDoc zs (d + 1) i) e w' := by
  have hkb := nx_bd hby i
  have hdU := hd
  have h3U := h3
  have hl := nx_le hi
  have hFlt := hF.lt
  have HP : Hid (dDoc zs (d + 1) i = (leafP 5, (nx zs (nx zs i).2).2)) := by unfold Hid; rw [dDoc]; rw [if_neg (by omega), if_neg (by omega), if_neg (by omega), if_pos (by omega)]; unfold lf7; rw [if_neg (by omega), if_pos hc]
  have hnx := hide (next_any F v zs i _ hF hv hby hm hi)
  have HV := hide hv
  have IH := hide ih
  have h6b : ((nx zs i).1 % 20 == 6) = false := by simp; omega
  have h7b : ((nx zs i).1 % 20 == 7) = true := by simpa using h7
  have c0 : ((nx zs (nx zs i).2).1 % 5 == 0) = false := by simp; omega
  have c1 : ((nx zs (nx zs i).2).1 % 5 == 1) = true := by simpa using hc
  clear hv hF ih
  generalize (nx zs i).1 = k at *
  generalize (nx zs i).2 = j at *
  obtain ⟨hk0, hk1⟩ := hkb
  go_enter Tryd.func54, Tryd.ntmps54
  go_wp2_with fail
  refine hnx.out.mono ?_
  rintro e w1 ⟨rfl, f1, g1⟩
  have HV1 := hide (HV.out.beside g1 (fun k e => by cases e; omega))
  clear hnx
  have HL := hide (left_any F v zs j w1 f1 HV1.out hm hl)
  have hne : (((zs.length - j : Nat) : Int) == 0) = false := by simp; omega
  go_wp2_with fail
  refine HL.out.mono ?_
  rintro e w1' ⟨n, rfl, rfl⟩
  have gd : w1.grownBy (w1.drewN n) none := grown_drewN (World.grownBy.refl _ _) n
  have f1' := f1.kept gd (by simp)
  have HV2 := hide (HV1.out.keep gd)
  have g1' := grown_trans g1 (grown_rowD gd (some F))
  clear HL f1 g1 HV1 gd
  rename Rdr F (w1.drewN n) v _ => f1
  rename w.grownBy (w1.drewN n) _ => g1
  rename Hid (RdB F (w1.drewN n) v zs) => HV1
  generalize w1.drewN n = w1 at *
  have hcb := nx_bd hby j
  have hl2 := nx_le hl
  have hnx2 := hide (next_any F v zs j w1 f1 HV1.out hby hm hl)
  generalize (nx zs j).1 = c at *
  generalize (nx zs j).2 = j2 at *
  obtain ⟨hc0, hc1⟩ := hcb
  go_wp2_with fail
  refine hnx2.out.mono ?_
  rintro e w2 ⟨rfl, f2, g2⟩
  have HV2 := hide (HV1.out.beside g2 (fun k e => by cases e; omega))
  have g2' := grown_trans g1 g2
  clear hnx2 f1 g1 g2 HV1
  rename w.grownBy w2 _ => g1
  rename Hid (RdB F w2 v zs) => HV1
  have HLf := hide (l2leaf_any 5 w2)
  clear IH
  go_wp2_with fail
  refine HLf.out.mono ?_
  rintro e w3 ⟨v', rfl, o2, g2⟩
  have HO := hide (o2.base g1.size)
  have HF := hide (f2.kept g2 (by simp))
  have HG := hide (grown_trans g1 (grown_rowD g2 (some F)))
  obtain ⟨oa, oc, hov, _⟩ := o2.sl
  subst hov
  clear o2 g2 f2 g1 HLf
  go_wp2
  go_ret
  rw [HP.out]
  exact ⟨_, rfl, HO.out, HF.out, HG.out⟩

set_option maxHeartbeats 2000000 in
set_option maxRecDepth 100000 in
theorem dd_odd2 (F : Nat) (v : Value) (zs : List Int) (hby : Bys zs) (hm : zs.length ≤ 4194304) (d i : Nat) (hd : d ≤ 6) (ih : ∀ (i : Nat) (w : World), Rdr F w v i → RdB F w v zs → i ≤ zs.length → Calls Tryd.prog 54 #[.pointer (some ⟨F, 0, none⟩), .int .i64 d] w fun e w' => Drawn F v w (dDoc zs d i) e w')
    (w : World) (hF : Rdr F w v i) (hv : RdB F w v zs) (hi : i ≤ zs.length) (h3 : ¬ (nx zs i).1 % 20 < 3) (hq : ¬ (nx zs i).2 = zs.length) (h6 : ¬ (nx zs i).1 % 20 < 6) (h7 : (nx zs i).1 % 20 = 7) (hc : (nx zs (nx zs i).2).1 % 5 = 2) :
    Calls Tryd.prog 54 #[.pointer (some ⟨F, 0, none⟩), .int .i64 ((d : Int) + 1)] w fun e w' => Drawn F v w (dDoc zs (d + 1) i) e w' := by
  have hkb := nx_bd hby i
  have hdU := hd
  have h3U := h3
  have hl := nx_le hi
  have hFlt := hF.lt
  have HP : Hid (dDoc zs (d + 1) i = (leafP 0, (nx zs (nx zs i).2).2)) := by unfold Hid; rw [dDoc]; rw [if_neg (by omega), if_neg (by omega), if_neg (by omega), if_pos (by omega)]; unfold lf7; rw [if_neg (by omega), if_neg (by omega), if_pos hc]
  have hnx := hide (next_any F v zs i _ hF hv hby hm hi)
  have HV := hide hv
  have IH := hide ih
  have h6b : ((nx zs i).1 % 20 == 6) = false := by simp; omega
  have h7b : ((nx zs i).1 % 20 == 7) = true := by simpa using h7
  have c0 : ((nx zs (nx zs i).2).1 % 5 == 0) = false := by simp; omega
  have c1 : ((nx zs (nx zs i).2).1 % 5 == 1) = false := by simp; omega
  have c2 : ((nx zs (nx zs i).2).1 % 5 == 2) = true := by simpa using hc
  clear hv hF ih
  generalize (nx zs i).1 = k at *
  generalize (nx zs i).2 = j at *
  obtain ⟨hk0, hk1⟩ := hkb
  go_enter Tryd.func54, Tryd.ntmps54
  go_wp2_with fail
  refine hnx.out.mono ?_
  rintro e w1 ⟨rfl, f1, g1⟩
  have HV1 := hide (HV.out.beside g1 (fun k e => by cases e; omega))
  clear hnx
  have HL := hide (left_any F v zs j w1 f1 HV1.out hm hl)
  have hne : (((zs.length - j : Nat) : Int) == 0) = false := by simp; omega
  go_wp2_with fail
  refine HL.out.mono ?_
  rintro e w1' ⟨n, rfl, rfl⟩
  have gd : w1.grownBy (w1.drewN n) none := grown_drewN (World.grownBy.refl _ _) n
  have f1' := f1.kept gd (by simp)
  have HV2 := hide (HV1.out.keep gd)
  have g1' := grown_trans g1 (grown_rowD gd (some F))
  clear HL f1 g1 HV1 gd
  rename Rdr F (w1.drewN n) v _ => f1
  rename w.grownBy (w1.drewN n) _ => g1
  rename Hid (RdB F (w1.drewN n) v zs) => HV1
  generalize w1.drewN n = w1 at *
  have hcb := nx_bd hby j
  have hl2 := nx_le hl
  have hnx2 := hide (next_any F v zs j w1 f1 HV1.out hby hm hl)
  generalize (nx zs j).1 = c at *
  generalize (nx zs j).2 = j2 at *
  obtain ⟨hc0, hc1⟩ := hcb
  go_wp2_with fail
  refine hnx2.out.mono ?_
  rintro e w2 ⟨rfl, f2, g2⟩
  have HV2 := hide (HV1.out.beside g2 (fun k e => by cases e; omega))
  have g2' := grown_trans g1 g2
  clear hnx2 f1 g1 g2 HV1
  rename w.grownBy w2 _ => g1
  rename Hid (RdB F w2 v zs) => HV1
  have HLf := hide (l2leaf_any 0 w2)
  clear IH
  go_wp2_with fail
  refine HLf.out.mono ?_
  rintro e w3 ⟨v', rfl, o2, g2⟩
  have HO := hide (o2.base g1.size)
  have HF := hide (f2.kept g2 (by simp))
  have HG := hide (grown_trans g1 (grown_rowD g2 (some F)))
  obtain ⟨oa, oc, hov, _⟩ := o2.sl
  subst hov
  clear o2 g2 f2 g1 HLf
  go_wp2
  go_ret
  rw [HP.out]
  exact ⟨_, rfl, HO.out, HF.out, HG.out⟩

set_option maxHeartbeats 2000000 in
set_option maxRecDepth 100000 in
theorem dd_odd3 (F : Nat) (v : Value) (zs : List Int) (hby : Bys zs) (hm : zs.length ≤ 4194304) (d i : Nat) (hd : d ≤ 6) (ih : ∀ (i : Nat) (w : World), Rdr F w v i → RdB F w v zs → i ≤ zs.length → Calls Tryd.prog 54 #[.pointer (some ⟨F, 0, none⟩), .int .i64 d] w fun e w' => Drawn F v w (dDoc zs d i) e w')
    (w : World) (hF : Rdr F w v i) (hv : RdB F w v zs) (hi : i ≤ zs.length) (h3 : ¬ (nx zs i).1 % 20 < 3) (hq : ¬ (nx zs i).2 = zs.length) (h6 : ¬ (nx zs i).1 % 20 < 6) (h7 : (nx zs i).1 % 20 = 7) (hc : (nx zs (nx zs i).2).1 % 5 > 2) :
    Calls Tryd.prog 54 #[.pointer (some ⟨F, 0, none⟩), .int .i64 ((d : Int) + 1)] w fun e w' => Drawn F v w (dDoc zs (d + 1) i) e w' := by
  have hkb := nx_bd hby i
  have hdU := hd
  have h3U := h3
  have hl := nx_le hi
  have hFlt := hF.lt
  have HP : Hid (dDoc zs (d + 1) i = (leafP 3, (nx zs (nx zs i).2).2)) := by unfold Hid; rw [dDoc]; rw [if_neg (by omega), if_neg (by omega), if_neg (by omega), if_pos (by omega)]; unfold lf7; rw [if_neg (by omega), if_neg (by omega), if_neg (by omega)]
  have hnx := hide (next_any F v zs i _ hF hv hby hm hi)
  have HV := hide hv
  have IH := hide ih
  have h6b : ((nx zs i).1 % 20 == 6) = false := by simp; omega
  have h7b : ((nx zs i).1 % 20 == 7) = true := by simpa using h7
  have c0 : ((nx zs (nx zs i).2).1 % 5 == 0) = false := by simp; omega
  have c1 : ((nx zs (nx zs i).2).1 % 5 == 1) = false := by simp; omega
  have c2 : ((nx zs (nx zs i).2).1 % 5 == 2) = false := by simp; omega
  clear hv hF ih
  generalize (nx zs i).1 = k at *
  generalize (nx zs i).2 = j at *
  obtain ⟨hk0, hk1⟩ := hkb
  go_enter Tryd.func54, Tryd.ntmps54
  go_wp2_with fail
  refine hnx.out.mono ?_
  rintro e w1 ⟨rfl, f1, g1⟩
  have HV1 := hide (HV.out.beside g1 (fun k e => by cases e; omega))
  clear hnx
  have HL := hide (left_any F v zs j w1 f1 HV1.out hm hl)
  have hne : (((zs.length - j : Nat) : Int) == 0) = false := by simp; omega
  go_wp2_with fail
  refine HL.out.mono ?_
  rintro e w1' ⟨n, rfl, rfl⟩
  have gd : w1.grownBy (w1.drewN n) none := grown_drewN (World.grownBy.refl _ _) n
  have f1' := f1.kept gd (by simp)
  have HV2 := hide (HV1.out.keep gd)
  have g1' := grown_trans g1 (grown_rowD gd (some F))
  clear HL f1 g1 HV1 gd
  rename Rdr F (w1.drewN n) v _ => f1
  rename w.grownBy (w1.drewN n) _ => g1
  rename Hid (RdB F (w1.drewN n) v zs) => HV1
  generalize w1.drewN n = w1 at *
  have hcb := nx_bd hby j
  have hl2 := nx_le hl
  have hnx2 := hide (next_any F v zs j w1 f1 HV1.out hby hm hl)
  generalize (nx zs j).1 = c at *
  generalize (nx zs j).2 = j2 at *
  obtain ⟨hc0, hc1⟩ := hcb
  go_wp2_with fail
  refine hnx2.out.mono ?_
  rintro e w2 ⟨rfl, f2, g2⟩
  have HV2 := hide (HV1.out.beside g2 (fun k e => by cases e; omega))
  have g2' := grown_trans g1 g2
  clear hnx2 f1 g1 g2 HV1
  rename w.grownBy w2 _ => g1
  rename Hid (RdB F w2 v zs) => HV1
  have HLf := hide (l2leaf_any 3 w2)
  clear IH
  go_wp2_with fail
  refine HLf.out.mono ?_
  rintro e w3 ⟨v', rfl, o2, g2⟩
  have HO := hide (o2.base g1.size)
  have HF := hide (f2.kept g2 (by simp))
  have HG := hide (grown_trans g1 (grown_rowD g2 (some F)))
  obtain ⟨oa, oc, hov, _⟩ := o2.sl
  subst hov
  clear o2 g2 f2 g1 HLf
  go_wp2
  go_ret
  rw [HP.out]
  exact ⟨_, rfl, HO.out, HF.out, HG.out⟩

set_option maxHeartbeats 2000000 in
set_option maxRecDepth 100000 in
theorem dd_cat (F : Nat) (v : Value) (zs : List Int) (hby : Bys zs) (hm : zs.length ≤ 4194304) (d i : Nat) (hd : d ≤ 6) (ih : ∀ (i : Nat) (w : World), Rdr F w v i → RdB F w v zs → i ≤ zs.length → Calls Tryd.prog 54 #[.pointer (some ⟨F, 0, none⟩), .int .i64 d] w fun e w' => Drawn F v w (dDoc zs d i) e w')
    (w : World) (hF : Rdr F w v i) (hv : RdB F w v zs) (hi : i ≤ zs.length) (h3 : ¬ (nx zs i).1 % 20 < 3) (hq : ¬ (nx zs i).2 = zs.length) (h6 : ¬ (nx zs i).1 % 20 < 6) (h7 : ¬ (nx zs i).1 % 20 < 8) (h13 : (nx zs i).1 % 20 < 13) :
    Calls Tryd.prog 54 #[.pointer (some ⟨F, 0, none⟩), .int .i64 ((d : Int) + 1)] w fun e w' => Drawn F v w (dDoc zs (d + 1) i) e w' := by
  have hkb := nx_bd hby i
  have hdU := hd
  have h3U := h3
  have hl := nx_le hi
  have hFlt := hF.lt
  have HP : Hid (dDoc zs (d + 1) i = ((dDoc zs d (nx zs i).2).1 ++ (dDoc zs d (dDoc zs d (nx zs i).2).2).1 ++ [⟨6, [], 0⟩], (dDoc zs d (dDoc zs d (nx zs i).2).2).2)) := by unfold Hid; rw [dDoc]; rw [if_neg (by omega), if_neg (by omega), if_neg (by omega), if_neg (by omega), if_pos (by omega)]
  have hnx := hide (next_any F v zs i _ hF hv hby hm hi)
  have HV := hide hv
  have IH := hide ih
  have h6b : ((nx zs i).1 % 20 == 6) = false := by simp; omega
  have h7b : ((nx zs i).1 % 20 == 7) = false := by simp; omega
  clear hv hF ih
  generalize (nx zs i).1 = k at *
  generalize (nx zs i).2 = j at *
  obtain ⟨hk0, hk1⟩ := hkb
  go_enter Tryd.func54, Tryd.ntmps54
  go_wp2_with fail
  refine hnx.out.mono ?_
  rintro e w1 ⟨rfl, f1, g1⟩
  have HV1 := hide (HV.out.beside g1 (fun k e => by cases e; omega))
  clear hnx
  have HL := hide (left_any F v zs j w1 f1 HV1.out hm hl)
  have hne : (((zs.length - j : Nat) : Int) == 0) = false := by simp; omega
  go_wp2_with fail
  refine HL.out.mono ?_
  rintro e w1' ⟨n, rfl, rfl⟩
  have gd : w1.grownBy (w1.drewN n) none := grown_drewN (World.grownBy.refl _ _) n
  have f1' := f1.kept gd (by simp)
  have HV2 := hide (HV1.out.keep gd)
  have g1' := grown_trans g1 (grown_rowD gd (some F))
  clear HL f1 g1 HV1 gd
  rename Rdr F (w1.drewN n) v _ => f1
  rename w.grownBy (w1.drewN n) _ => g1
  rename Hid (RdB F (w1.drewN n) v zs) => HV1
  generalize w1.drewN n = w1 at *
  have HX := hide (IH.out j w1 f1 HV1.out hl)
  have hms := dDoc_mes zs d j (by omega) hl
  have hpl := (dDoc_ok zs d j hl).pl
  generalize dDoc zs d j = x at *
  have hms2 := dDoc_mes zs d x.2 (by omega) hpl
  have hqn := (dDoc_ok zs d x.2 hpl).ne
  have s1 := g1.size
  go_wp2_with fail
  refine HX.out.mono ?_
  rintro e w3 ⟨v3, rfl, o3, f3, g3⟩
  have HY := hide (IH.out x.2 w3 f3 (HV1.out.beside g3 (fun k e => by cases e; omega)) hpl)
  generalize dDoc zs d x.2 = y at *
  have s3 := g3.size
  have HO3 := hide o3
  obtain ⟨oa, oc, hov, _⟩ := o3.sl
  subst hov
  clear o3 HX IH
  go_wp2_with fail
  refine HY.out.mono ?_
  rintro e w4 ⟨v4, rfl, o4, f4, g4⟩
  have s4 := g4.size
  have HB := hide (l2bin_any 6 _ v4 x.1 y.1 w1.heap.size w4 (HO3.out.beside g4 (fun k e => by cases e; omega)).pi (o4.base s3).pi (by omega) (by omega) hqn)
  obtain ⟨oa4, oc4, hov, _⟩ := o4.sl
  subst hov
  clear o4 HY HO3
  go_wp2_with fail
  refine HB.out.mono ?_
  rintro e w5 ⟨v5, rfl, o5, g5⟩
  have HO := hide (o5.base (Nat.le_trans s1 (Nat.le_trans s3 s4)))
  have HF := hide (f4.kept g5 (by simp))
  have HG := hide (grown_trans (grown_trans (grown_trans g1 g3) g4) (grown_rowD g5 (some F)))
  obtain ⟨oa5, oc5, hov, _⟩ := o5.sl
  generalize List.length _ = LL at hov
  subst hov
  clear o5 g5 g4 g3 f4 f3 f1 g1 HB
  go_wp2
  go_ret
  rw [HP.out]
  exact ⟨_, rfl, HO.out, HF.out, HG.out⟩

set_option maxHeartbeats 2000000 in
set_option maxRecDepth 100000 in
theorem dd_grp (F : Nat) (v : Value) (zs : List Int) (hby : Bys zs) (hm : zs.length ≤ 4194304) (d i : Nat) (hd : d ≤ 6) (ih : ∀ (i : Nat) (w : World), Rdr F w v i → RdB F w v zs → i ≤ zs.length → Calls Tryd.prog 54 #[.pointer (some ⟨F, 0, none⟩), .int .i64 d] w fun e w' => Drawn F v w (dDoc zs d i) e w')
    (w : World) (hF : Rdr F w v i) (hv : RdB F w v zs) (hi : i ≤ zs.length) (h3 : ¬ (nx zs i).1 % 20 < 3) (hq : ¬ (nx zs i).2 = zs.length) (h6 : ¬ (nx zs i).1 % 20 < 6) (h7 : ¬ (nx zs i).1 % 20 < 8) (h13 : ¬ (nx zs i).1 % 20 < 13) (h17 : (nx zs i).1 % 20 < 17) :
    Calls Tryd.prog 54 #[.pointer (some ⟨F, 0, none⟩), .int .i64 ((d : Int) + 1)] w fun e w' => Drawn F v w (dDoc zs (d + 1) i) e w' := by
  have hkb := nx_bd hby i
  have hdU := hd
  have h3U := h3
  have hl := nx_le hi
  have hFlt := hF.lt
  have HP : Hid (dDoc zs (d + 1) i = ((dDoc zs d (nx zs i).2).1 ++ [⟨8, [], 0⟩], (dDoc zs d (nx zs i).2).2)) := by unfold Hid; rw [dDoc]; rw [if_neg (by omega), if_neg (by omega), if_neg (by omega), if_neg (by omega), if_neg (by omega), if_pos (by omega)]
  have hnx := hide (next_any F v zs i _ hF hv hby hm hi)
  have HV := hide hv
  have IH := hide ih
  have h6b : ((nx zs i).1 % 20 == 6) = false := by simp; omega
  have h7b : ((nx zs i).1 % 20 == 7) = false := by simp; omega
  clear hv hF ih
  generalize (nx zs i).1 = k at *
  generalize (nx zs i).2 = j at *
  obtain ⟨hk0, hk1⟩ := hkb
  go_enter Tryd.func54, Tryd.ntmps54
  go_wp2_with fail
  refine hnx.out.mono ?_
  rintro e w1 ⟨rfl, f1, g1⟩
  have HV1 := hide (HV.out.beside g1 (fun k e => by cases e; omega))
  clear hnx
  have HL := hide (left_any F v zs j w1 f1 HV1.out hm hl)
  have hne : (((zs.length - j : Nat) : Int) == 0) = false := by simp; omega
  go_wp2_with fail
  refine HL.out.mono ?_
  rintro e w1' ⟨n, rfl, rfl⟩
  have gd : w1.grownBy (w1.drewN n) none := grown_drewN (World.grownBy.refl _ _) n
  have f1' := f1.kept gd (by simp)
  have HV2 := hide (HV1.out.keep gd)
  have g1' := grown_trans g1 (grown_rowD gd (some F))
  clear HL f1 g1 HV1 gd
  rename Rdr F (w1.drewN n) v _ => f1
  rename w.grownBy (w1.drewN n) _ => g1
  rename Hid (RdB F (w1.drewN n) v zs) => HV1
  generalize w1.drewN n = w1 at *
  have HX := hide (IH.out j w1 f1 HV1.out hl)
  have hms := dDoc_mes zs d j (by omega) hl
  generalize dDoc zs d j = x at *
  have s1 := g1.size
  go_wp2_with fail
  refine HX.out.mono ?_
  rintro e w3 ⟨v3, rfl, o3, f3, g3⟩
  have HU := hide (l2un_any 8 (0) v3 x.1 _ w3 o3.pi (by omega))
  obtain ⟨oa, oc, hov, _⟩ := o3.sl
  subst hov
  clear o3 HX IH
  go_wp2_with fail
  refine HU.out.mono ?_
  rintro e w4 ⟨v4, rfl, o4, g4⟩
  have s3 := g3.size
  have HO := hide (o4.base (Nat.le_trans s1 s3))
  have HF := hide (f3.kept g4 (by simp))
  have HG := hide (grown_trans (grown_trans g1 g3) (grown_rowD g4 (some F)))
  obtain ⟨oa, oc, hov, _⟩ := o4.sl
  generalize List.length _ = LL at hov
  subst hov
  clear o4 g4 g3 f3 f1 g1 HU
  go_wp2
  go_ret
  rw [HP.out]
  exact ⟨_, rfl, HO.out, HF.out, HG.out⟩

set_option maxHeartbeats 2000000 in
set_option maxRecDepth 100000 in
theorem dd_nest (F : Nat) (v : Value) (zs : List Int) (hby : Bys zs) (hm : zs.length ≤ 4194304) (d i : Nat) (hd : d ≤ 6) (ih : ∀ (i : Nat) (w : World), Rdr F w v i → RdB F w v zs → i ≤ zs.length → Calls Tryd.prog 54 #[.pointer (some ⟨F, 0, none⟩), .int .i64 d] w fun e w' => Drawn F v w (dDoc zs d i) e w')
    (w : World) (hF : Rdr F w v i) (hv : RdB F w v zs) (hi : i ≤ zs.length) (h3 : ¬ (nx zs i).1 % 20 < 3) (hq : ¬ (nx zs i).2 = zs.length) (h6 : ¬ (nx zs i).1 % 20 < 6) (h7 : ¬ (nx zs i).1 % 20 < 8) (h13 : ¬ (nx zs i).1 % 20 < 13) (h17 : ¬ (nx zs i).1 % 20 < 17) (h19 : (nx zs i).1 % 20 < 19) :
    Calls Tryd.prog 54 #[.pointer (some ⟨F, 0, none⟩), .int .i64 ((d : Int) + 1)] w fun e w' => Drawn F v w (dDoc zs (d + 1) i) e w' := by
  have hkb := nx_bd hby i
  have hdU := hd
  have h3U := h3
  have hl := nx_le hi
  have hFlt := hF.lt
  have HP : Hid (dDoc zs (d + 1) i = ((dDoc zs d (nx zs (nx zs i).2).2).1 ++ [⟨7, [], (nx zs (nx zs i).2).1 % 5⟩], (dDoc zs d (nx zs (nx zs i).2).2).2)) := by unfold Hid; rw [dDoc]; rw [if_neg (by omega), if_neg (by omega), if_neg (by omega), if_neg (by omega), if_neg (by omega), if_neg (by omega), if_pos (by omega)]
  have hnx := hide (next_any F v zs i _ hF hv hby hm hi)
  have HV := hide hv
  have IH := hide ih
  have h6b : ((nx zs i).1 % 20 == 6) = false := by simp; omega
  have h7b : ((nx zs i).1 % 20 == 7) = false := by simp; omega
  clear hv hF ih
  generalize (nx zs i).1 = k at *
  generalize (nx zs i).2 = j at *
  obtain ⟨hk0, hk1⟩ := hkb
  go_enter Tryd.func54, Tryd.ntmps54
  go_wp2_with fail
  refine hnx.out.mono ?_
  rintro e w1 ⟨rfl, f1, g1⟩
  have HV1 := hide (HV.out.beside g1 (fun k e => by cases e; omega))
  clear hnx
  have HL := hide (left_any F v zs j w1 f1 HV1.out hm hl)
  have hne : (((zs.length - j : Nat) : Int) == 0) = false := by simp; omega
  go_wp2_with fail
  refine HL.out.mono ?_
  rintro e w1' ⟨n, rfl, rfl⟩
  have gd : w1.grownBy (w1.drewN n) none := grown_drewN (World.grownBy.refl _ _) n
  have f1' := f1.kept gd (by simp)
  have HV2 := hide (HV1.out.keep gd)
  have g1' := grown_trans g1 (grown_rowD gd (some F))
  clear HL f1 g1 HV1 gd
  rename Rdr F (w1.drewN n) v _ => f1
  rename w.grownBy (w1.drewN n) _ => g1
  rename Hid (RdB F (w1.drewN n) v zs) => HV1
  generalize w1.drewN n = w1 at *
  have hcb := nx_bd hby j
  have hl2 := nx_le hl
  have hnx2 := hide (next_any F v zs j w1 f1 HV1.out hby hm hl)
  generalize (nx zs j).1 = c at *
  generalize (nx zs j).2 = j2 at *
  obtain ⟨hc0, hc1⟩ := hcb
  go_wp2_with fail
  refine hnx2.out.mono ?_
  rintro e w2 ⟨rfl, f2, g2⟩
  have HV2 := hide (HV1.out.beside g2 (fun k e => by cases e; omega))
  have g2' := grown_trans g1 g2
  clear hnx2 f1 g1 g2 HV1
  rename w.grownBy w2 _ => g1
  rename Hid (RdB F w2 v zs) => HV1
  have HX := hide (IH.out j2 w2 f2 HV1.out hl2)
  have hms := dDoc_mes zs d j2 (by omega) hl2
  generalize dDoc zs d j2 = x at *
  have s1 := g1.size
  go_wp2_with fail
  refine HX.out.mono ?_
  rintro e w3 ⟨v3, rfl, o3, f3, g3⟩
  have HU := hide (l2un_any 7 (c % 5) v3 x.1 _ w3 o3.pi (by omega))
  obtain ⟨oa, oc, hov, _⟩ := o3.sl
  subst hov
  clear o3 HX IH
  go_wp2_with fail
  refine HU.out.mono ?_
  rintro e w4 ⟨v4, rfl, o4, g4⟩
  have s3 := g3.size
  have HO := hide (o4.base (Nat.le_trans s1 s3))
  have HF := hide (f3.kept g4 (by simp))
  have HG := hide (grown_trans (grown_trans g1 g3) (grown_rowD g4 (some F)))
  obtain ⟨oa, oc, hov, _⟩ := o4.sl
  generalize List.length _ = LL at hov
  subst hov
  clear o4 g4 g3 f3 f2 g1 HU
  go_wp2
  go_ret
  rw [HP.out]
  exact ⟨_, rfl, HO.out, HF.out, HG.out⟩

set_option maxHeartbeats 2000000 in
set_option maxRecDepth 100000 in
theorem dd_alt (F : Nat) (v : Value) (zs : List Int) (hby : Bys zs) (hm : zs.length ≤ 4194304) (d i : Nat) (hd : d ≤ 6) (ih : ∀ (i : Nat) (w : World), Rdr F w v i → RdB F w v zs → i ≤ zs.length → Calls Tryd.prog 54 #[.pointer (some ⟨F, 0, none⟩), .int .i64 d] w fun e w' => Drawn F v w (dDoc zs d i) e w')
    (w : World) (hF : Rdr F w v i) (hv : RdB F w v zs) (hi : i ≤ zs.length) (h3 : ¬ (nx zs i).1 % 20 < 3) (hq : ¬ (nx zs i).2 = zs.length) (h6 : ¬ (nx zs i).1 % 20 < 6) (h7 : ¬ (nx zs i).1 % 20 < 8) (h13 : ¬ (nx zs i).1 % 20 < 13) (h17 : ¬ (nx zs i).1 % 20 < 17) (h19 : ¬ (nx zs i).1 % 20 < 19) :
    Calls Tryd.prog 54 #[.pointer (some ⟨F, 0, none⟩), .int .i64 ((d : Int) + 1)] w fun e w' => Drawn F v w (dDoc zs (d + 1) i) e w' := by
  have hkb := nx_bd hby i
  have hdU := hd
  have h3U := h3
  have hl := nx_le hi
  have hFlt := hF.lt
  have HP : Hid (dDoc zs (d + 1) i = ((dDoc zs d (nx zs i).2).1 ++ (dDoc zs d (dDoc zs d (nx zs i).2).2).1 ++ [⟨9, [], 0⟩], (dDoc zs d (dDoc zs d (nx zs i).2).2).2)) := by unfold Hid; rw [dDoc]; rw [if_neg (by omega), if_neg (by omega), if_neg (by omega), if_neg (by omega), if_neg (by omega), if_neg (by omega), if_neg (by omega)]
  have hnx := hide (next_any F v zs i _ hF hv hby hm hi)
  have HV := hide hv
  have IH := hide ih
  have h6b : ((nx zs i).1 % 20 == 6) = false := by simp; omega
  have h7b : ((nx zs i).1 % 20 == 7) = false := by simp; omega
  clear hv hF ih
  generalize (nx zs i).1 = k at *
  generalize (nx zs i).2 = j at *
  obtain ⟨hk0, hk1⟩ := hkb
  go_enter Tryd.func54, Tryd.ntmps54
  go_wp2_with fail
  refine hnx.out.mono ?_
  rintro e w1 ⟨rfl, f1, g1⟩
  have HV1 := hide (HV.out.beside g1 (fun k e => by cases e; omega))
  clear hnx
  have HL := hide (left_any F v zs j w1 f1 HV1.out hm hl)
  have hne : (((zs.length - j : Nat) : Int) == 0) = false := by simp; omega
  go_wp2_with fail
  refine HL.out.mono ?_
  rintro e w1' ⟨n, rfl, rfl⟩
  have gd : w1.grownBy (w1.drewN n) none := grown_drewN (World.grownBy.refl _ _) n
  have f1' := f1.kept gd (by simp)
  have HV2 := hide (HV1.out.keep gd)
  have g1' := grown_trans g1 (grown_rowD gd (some F))
  clear HL f1 g1 HV1 gd
  rename Rdr F (w1.drewN n) v _ => f1
  rename w.grownBy (w1.drewN n) _ => g1
  rename Hid (RdB F (w1.drewN n) v zs) => HV1
  generalize w1.drewN n = w1 at *
  have HX := hide (IH.out j w1 f1 HV1.out hl)
  have hms := dDoc_mes zs d j (by omega) hl
  have hpl := (dDoc_ok zs d j hl).pl
  generalize dDoc zs d j = x at *
  have hms2 := dDoc_mes zs d x.2 (by omega) hpl
  have hqn := (dDoc_ok zs d x.2 hpl).ne
  have s1 := g1.size
  go_wp2_with fail
  refine HX.out.mono ?_
  rintro e w3 ⟨v3, rfl, o3, f3, g3⟩
  have HY := hide (IH.out x.2 w3 f3 (HV1.out.beside g3 (fun k e => by cases e; omega)) hpl)
  generalize dDoc zs d x.2 = y at *
  have s3 := g3.size
  have HO3 := hide o3
  obtain ⟨oa, oc, hov, _⟩ := o3.sl
  subst hov
  clear o3 HX IH
  go_wp2_with fail
  refine HY.out.mono ?_
  rintro e w4 ⟨v4, rfl, o4, f4, g4⟩
  have s4 := g4.size
  have HB := hide (l2bin_any 9 _ v4 x.1 y.1 w1.heap.size w4 (HO3.out.beside g4 (fun k e => by cases e; omega)).pi (o4.base s3).pi (by omega) (by omega) hqn)
  obtain ⟨oa4, oc4, hov, _⟩ := o4.sl
  subst hov
  clear o4 HY HO3
  go_wp2_with fail
  refine HB.out.mono ?_
  rintro e w5 ⟨v5, rfl, o5, g5⟩
  have HO := hide (o5.base (Nat.le_trans s1 (Nat.le_trans s3 s4)))
  have HF := hide (f4.kept g5 (by simp))
  have HG := hide (grown_trans (grown_trans (grown_trans g1 g3) g4) (grown_rowD g5 (some F)))
  obtain ⟨oa5, oc5, hov, _⟩ := o5.sl
  generalize List.length _ = LL at hov
  subst hov
  clear o5 g5 g4 g3 f4 f3 f1 g1 HB
  go_wp2
  go_ret
  rw [HP.out]
  exact ⟨_, rfl, HO.out, HF.out, HG.out⟩

theorem l2drawDoc_any (F : Nat) (v : Value) (zs : List Int) (hby : Bys zs) (hm : zs.length ≤ 4194304) : ∀ (d : Nat) (_ : d ≤ 7) (i : Nat) (w : World), Rdr F w v i → RdB F w v zs → i ≤ zs.length →
    Calls Tryd.prog 54 #[.pointer (some ⟨F, 0, none⟩), .int .i64 d] w fun e w' => Drawn F v w (dDoc zs d i) e w'
  | 0, _, i, w, hF, hv, hi => drawDoc0_any F v zs hby hm i w hF hv hi
  | d + 1, hd, i, w, hF, hv, hi => by
    have ih := l2drawDoc_any F v zs hby hm d (by omega)
    rw [show ((d + 1 : Nat) : Int) = (d : Int) + 1 by omega]
    by_cases h3 : (nx zs i).1 % 20 < 3
    · exact dd_lt3 F v zs hby hm d i (by omega) ih w hF hv hi h3
    by_cases hq : (nx zs i).2 = zs.length
    · exact dd_end F v zs hby hm d i (by omega) ih w hF hv hi h3 hq
    by_cases h6 : (nx zs i).1 % 20 < 6
    · exact dd_line F v zs hby hm d i (by omega) ih w hF hv hi h3 hq h6
    by_cases h66 : (nx zs i).1 % 20 = 6
    · exact dd_soft F v zs hby hm d i (by omega) ih w hF hv hi h3 hq h6 h66
    by_cases h7 : (nx zs i).1 % 20 = 7
    · have hc := (nx_bd hby (nx zs i).2)
      by_cases c0 : (nx zs (nx zs i).2).1 % 5 = 0
      · exact dd_odd0 F v zs hby hm d i (by omega) ih w hF hv hi h3 hq h6 h7 c0
      by_cases c1 : (nx zs (nx zs i).2).1 % 5 = 1
      · exact dd_odd1 F v zs hby hm d i (by omega) ih w hF hv hi h3 hq h6 h7 c1
      by_cases c2 : (nx zs (nx zs i).2).1 % 5 = 2
      · exact dd_odd2 F v zs hby hm d i (by omega) ih w hF hv hi h3 hq h6 h7 c2
      exact dd_odd3 F v zs hby hm d i (by omega) ih w hF hv hi h3 hq h6 h7 (by omega)
    have h8 : ¬ (nx zs i).1 % 20 < 8 := by omega
    by_cases h13 : (nx zs i).1 % 20 < 13
    · exact dd_cat F v zs hby hm d i (by omega) ih w hF hv hi h3 hq h6 h8 h13
    by_cases h17 : (nx zs i).1 % 20 < 17
    · exact dd_grp F v zs hby hm d i (by omega) ih w hF hv hi h3 hq h6 h8 h13 h17
    by_cases h19 : (nx zs i).1 % 20 < 19
    · exact dd_nest F v zs hby hm d i (by omega) ih w hF hv hi h3 hq h6 h8 h13 h17 h19
    exact dd_alt F v zs hby hm d i (by omega) ih w hF hv hi h3 hq h6 h8 h13 h17 h19
end Go.Proofs.YtgmjpdejfdldlaaDoor

