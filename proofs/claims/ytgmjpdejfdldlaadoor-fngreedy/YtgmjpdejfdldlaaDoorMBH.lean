import Derived.Test.YtgmjpdejfdldlaaDoorMBG
namespace Go.Proofs.YtgmjpdejfdldlaaDoor
open Go.RowKit

/-- What a spoilt document leaves. -/
def Spoilt (F : Nat) (w : World) (ps : List Pc) (e : Ending) (w' : World) : Prop := ∃ v', e = .returned v' ∧ RdP w'.heap.size w' v' ps ∧ Below F w w'
theorem rdP_nil (B : Nat) (w : World) : RdP B w (.slice none 0 0) [] := ⟨none, 0, rfl, Nat.le_refl _, by unfold maxLen; omega, fun h => absurd rfl h⟩
theorem setP_at {ps : List Pc} {j : Nat} {p : Pc} (h : ps[j]? = some p) (f : Pc → Pc) : setP ps j f = ps.set j (f p) := by unfold setP; rw [h]
theorem RdP.init {B : Nat} {w : World} {a : Option Addr} {n cap : Nat} {ps : List Pc} (h : RdP B w (.slice a n cap) ps) (hn : n = ps.length) : RdP B w (.slice a (n - 1) cap) (ps.take (n - 1)) := by
  obtain ⟨a', cap', e, h1, h2, h3⟩ := h
  cases e
  refine ⟨a, cap, by rw [List.length_take]; congr 1; omega, by rw [List.length_take]; omega, h2, fun h0 => ?_⟩
  obtain ⟨b, off, ha, hb, hc⟩ := h3 (fun e => h0 (by rw [e]; simp))
  refine ⟨b, off, ha, hb, fun j p hp => hc j p ?_⟩
  rw [List.getElem?_take] at hp
  split at hp
  · exact hp
  · cases hp

set_option maxHeartbeats 2000000 in
set_option maxRecDepth 100000 in
theorem sp_0 (F : Nat) (v : Value) (zs : List Int) (hby : Bys zs) (hm : zs.length ≤ 4194304) (i : Nat) (w : World) (u : Value) (ps : List Pc) (hF : Rdr F w v i) (hv : RdB F w v zs) (hi : i ≤ zs.length) (hu : PoT (F + 1) w u ps) (hne : ps ≠ []) (hms : mes ps ≤ 3600 ∧ ∀ p ∈ ps, 0 ≤ p.n ∧ p.n ≤ 4) (hk : (nx zs i).1 % 12 = 0) :
    Calls Tryd.prog 33 #[u, .pointer (some ⟨F, 0, none⟩)] w fun e w' => Spoilt F w (spoilD zs ps i) e w' := by
  have hkb := nx_bd hby i
  have hl := nx_le hi
  have hFlt := hF.lt
  have hjb := nx_bd hby (nx zs i).2
  have hl2 := nx_le hl
  have hlen := mes_len ps
  have hpos : 0 < ps.length := by rcases ps with _ | ⟨a, b⟩ <;> simp_all
  have HN1 := hide (next_any F v zs i w hF hv hby hm hi)
  have HN2 : Hid (∀ W : World, Rdr F W v ((nx zs i).2 : Int) → RdB F W v zs → _) := fun W a b => next_any F v zs (nx zs i).2 W a b hby hm hl
  have HV := hide hv
  have HP : Hid (spoilD zs ps i = spoilK ps ((nx zs i).1 % 12) ((nx zs (nx zs i).2).1 % ps.length).toNat (nx zs (nx zs (nx zs i).2).2).1) := rfl
  generalize (nx zs (nx zs i).2).1 = J at *
  generalize (nx zs (nx zs i).2).2 = i2 at *
  generalize hkk : (nx zs i).1 = K at *
  generalize (nx zs i).2 = i1 at *
  obtain ⟨hk0, hk1⟩ := hkb
  obtain ⟨hj0, hj1⟩ := hjb
  obtain ⟨g, cap, hu0⟩ : ∃ g cap, u = .slice (some ⟨g, 0, none⟩) ps.length cap := by
    obtain ⟨tvs, ho, _⟩ := id hu
    rcases ho.2 with ⟨_, h0⟩ | ⟨g, cap, cur, h, _⟩
    · omega
    · exact ⟨g, cap, h⟩
  subst hu0
  have HU := hide hu
  have hgF : F + 1 ≤ g := (hu.lt g rfl).1
  have hlenZ : (0 : Int) < (ps.length : Int) := by omega
  have hjlt : (J % (ps.length : Int)).toNat < ps.length := by have := Int.emod_nonneg J (show (ps.length : Int) ≠ 0 by omega); have := Int.emod_lt_of_pos J hlenZ; omega
  have hjz0 : 0 ≤ J % (ps.length : Int) := Int.emod_nonneg J (by omega)
  have hjz1 : J % (ps.length : Int) < ps.length := Int.emod_lt_of_pos J hlenZ
  have hz0 : ((ps.length : Int) == 0) = false := by simp; omega
  obtain ⟨p, hp⟩ : ∃ p, ps[(J % (ps.length : Int)).toNat]? = some p := ⟨_, List.getElem?_eq_getElem hjlt⟩
  have hpn := hms.2 p (List.mem_of_getElem? hp)
  clear hv hF hu hkk
  go_enter Tryd.func33, Tryd.ntmps33
  go_wp2_with fail
  refine HN1.out.mono ?_
  rintro e w1 ⟨rfl, f1, g1⟩
  have HV1 := hide (HV.out.beside g1 (fun k e => by cases e; omega))
  have HN3 := hide (HN2.out w1 f1 HV1.out)
  clear HN1 HN2 f1
  go_wp2_with fail
  refine HN3.out.mono ?_
  rintro e w2 ⟨rfl, f2, g2⟩
  have HU2 := hide ((HU.out.beside g1 (fun k e => by cases e; omega)).beside g2 (fun k e => by cases e; omega))
  have HV2 := hide (HV1.out.beside g2 (fun k e => by cases e; omega))
  have hs1 := g1.size
  have hs2 := g2.size
  have HB2 := hide (((Below.refl F w).grown g1 (by omega) (fun k e => by cases e; omega)).grown g2 (by omega) (fun k e => by cases e; omega))
  clear HN3 HU HV HV1 g1 g2
  have n0 : (K % 12 == 0) = true := by simp; omega
  obtain ⟨tv, c0, c1, c2, cf, hT, _, _⟩ := HU2.out.cellsAt _ p hp
  have cf0 := cf ((J % (ps.length : Int)).toNat * 3)
  have cf2 := cf ((J % (ps.length : Int)).toNat * 3 + 2)
  clear hT
  have HO := hide (by have h := HU2.out.setK _ p hp (10); rwa [List.length_set] at h)
  have HB := hide (HB2.out.setCell (p := ⟨g, (J % (ps.length : Int)).toNat * 3, none⟩) (by simp; omega) (.int .i64 (10)))
  clear HU2 HB2
  go_wp2
  go_ret
  rw [HP.out, spoilK, if_pos hk]; rw [setP_at hp]
  exact ⟨_, rfl, HO.out.pi.rdP, HB.out⟩

set_option maxHeartbeats 2000000 in
set_option maxRecDepth 100000 in
theorem sp_1 (F : Nat) (v : Value) (zs : List Int) (hby : Bys zs) (hm : zs.length ≤ 4194304) (i : Nat) (w : World) (u : Value) (ps : List Pc) (hF : Rdr F w v i) (hv : RdB F w v zs) (hi : i ≤ zs.length) (hu : PoT (F + 1) w u ps) (hne : ps ≠ []) (hms : mes ps ≤ 3600 ∧ ∀ p ∈ ps, 0 ≤ p.n ∧ p.n ≤ 4) (hk : (nx zs i).1 % 12 = 1) :
    Calls Tryd.prog 33 #[u, .pointer (some ⟨F, 0, none⟩)] w fun e w' => Spoilt F w (spoilD zs ps i) e w' := by
  have hkb := nx_bd hby i
  have hl := nx_le hi
  have hFlt := hF.lt
  have hjb := nx_bd hby (nx zs i).2
  have hl2 := nx_le hl
  have hlen := mes_len ps
  have hpos : 0 < ps.length := by rcases ps with _ | ⟨a, b⟩ <;> simp_all
  have HN1 := hide (next_any F v zs i w hF hv hby hm hi)
  have HN2 : Hid (∀ W : World, Rdr F W v ((nx zs i).2 : Int) → RdB F W v zs → _) := fun W a b => next_any F v zs (nx zs i).2 W a b hby hm hl
  have HV := hide hv
  have HP : Hid (spoilD zs ps i = spoilK ps ((nx zs i).1 % 12) ((nx zs (nx zs i).2).1 % ps.length).toNat (nx zs (nx zs (nx zs i).2).2).1) := rfl
  generalize (nx zs (nx zs i).2).1 = J at *
  generalize (nx zs (nx zs i).2).2 = i2 at *
  generalize hkk : (nx zs i).1 = K at *
  generalize (nx zs i).2 = i1 at *
  obtain ⟨hk0, hk1⟩ := hkb
  obtain ⟨hj0, hj1⟩ := hjb
  obtain ⟨g, cap, hu0⟩ : ∃ g cap, u = .slice (some ⟨g, 0, none⟩) ps.length cap := by
    obtain ⟨tvs, ho, _⟩ := id hu
    rcases ho.2 with ⟨_, h0⟩ | ⟨g, cap, cur, h, _⟩
    · omega
    · exact ⟨g, cap, h⟩
  subst hu0
  have HU := hide hu
  have hgF : F + 1 ≤ g := (hu.lt g rfl).1
  have hlenZ : (0 : Int) < (ps.length : Int) := by omega
  have hjlt : (J % (ps.length : Int)).toNat < ps.length := by have := Int.emod_nonneg J (show (ps.length : Int) ≠ 0 by omega); have := Int.emod_lt_of_pos J hlenZ; omega
  have hjz0 : 0 ≤ J % (ps.length : Int) := Int.emod_nonneg J (by omega)
  have hjz1 : J % (ps.length : Int) < ps.length := Int.emod_lt_of_pos J hlenZ
  have hz0 : ((ps.length : Int) == 0) = false := by simp; omega
  obtain ⟨p, hp⟩ : ∃ p, ps[(J % (ps.length : Int)).toNat]? = some p := ⟨_, List.getElem?_eq_getElem hjlt⟩
  have hpn := hms.2 p (List.mem_of_getElem? hp)
  clear hv hF hu hkk
  go_enter Tryd.func33, Tryd.ntmps33
  go_wp2_with fail
  refine HN1.out.mono ?_
  rintro e w1 ⟨rfl, f1, g1⟩
  have HV1 := hide (HV.out.beside g1 (fun k e => by cases e; omega))
  have HN3 := hide (HN2.out w1 f1 HV1.out)
  clear HN1 HN2 f1
  go_wp2_with fail
  refine HN3.out.mono ?_
  rintro e w2 ⟨rfl, f2, g2⟩
  have HU2 := hide ((HU.out.beside g1 (fun k e => by cases e; omega)).beside g2 (fun k e => by cases e; omega))
  have HV2 := hide (HV1.out.beside g2 (fun k e => by cases e; omega))
  have hs1 := g1.size
  have hs2 := g2.size
  have HB2 := hide (((Below.refl F w).grown g1 (by omega) (fun k e => by cases e; omega)).grown g2 (by omega) (fun k e => by cases e; omega))
  clear HN3 HU HV HV1 g1 g2
  have n0 : (K % 12 == 0) = false := by simp; omega
  have n1 : (K % 12 == 1) = true := by simp; omega
  obtain ⟨tv, c0, c1, c2, cf, hT, _, _⟩ := HU2.out.cellsAt _ p hp
  have cf0 := cf ((J % (ps.length : Int)).toNat * 3)
  have cf2 := cf ((J % (ps.length : Int)).toNat * 3 + 2)
  clear hT
  have HO := hide (by have h := HU2.out.setK _ p hp (-1); rwa [List.length_set] at h)
  have HB := hide (HB2.out.setCell (p := ⟨g, (J % (ps.length : Int)).toNat * 3, none⟩) (by simp; omega) (.int .i64 (-1)))
  clear HU2 HB2
  go_wp2
  go_ret
  rw [HP.out, spoilK, if_neg (by omega), if_pos hk]; rw [setP_at hp]
  exact ⟨_, rfl, HO.out.pi.rdP, HB.out⟩

set_option maxHeartbeats 2000000 in
set_option maxRecDepth 100000 in
theorem sp_2 (F : Nat) (v : Value) (zs : List Int) (hby : Bys zs) (hm : zs.length ≤ 4194304) (i : Nat) (w : World) (u : Value) (ps : List Pc) (hF : Rdr F w v i) (hv : RdB F w v zs) (hi : i ≤ zs.length) (hu : PoT (F + 1) w u ps) (hne : ps ≠ []) (hms : mes ps ≤ 3600 ∧ ∀ p ∈ ps, 0 ≤ p.n ∧ p.n ≤ 4) (hk : (nx zs i).1 % 12 = 2) :
    Calls Tryd.prog 33 #[u, .pointer (some ⟨F, 0, none⟩)] w fun e w' => Spoilt F w (spoilD zs ps i) e w' := by
  have hkb := nx_bd hby i
  have hl := nx_le hi
  have hFlt := hF.lt
  have hjb := nx_bd hby (nx zs i).2
  have hl2 := nx_le hl
  have hlen := mes_len ps
  have hpos : 0 < ps.length := by rcases ps with _ | ⟨a, b⟩ <;> simp_all
  have HN1 := hide (next_any F v zs i w hF hv hby hm hi)
  have HN2 : Hid (∀ W : World, Rdr F W v ((nx zs i).2 : Int) → RdB F W v zs → _) := fun W a b => next_any F v zs (nx zs i).2 W a b hby hm hl
  have hcb := nx_bd hby (nx zs (nx zs i).2).2
  have HV := hide hv
  have HP : Hid (spoilD zs ps i = spoilK ps ((nx zs i).1 % 12) ((nx zs (nx zs i).2).1 % ps.length).toNat (nx zs (nx zs (nx zs i).2).2).1) := rfl
  generalize (nx zs (nx zs i).2).1 = J at *
  generalize (nx zs (nx zs i).2).2 = i2 at *
  generalize hkk : (nx zs i).1 = K at *
  generalize (nx zs i).2 = i1 at *
  obtain ⟨hk0, hk1⟩ := hkb
  obtain ⟨hj0, hj1⟩ := hjb
  obtain ⟨g, cap, hu0⟩ : ∃ g cap, u = .slice (some ⟨g, 0, none⟩) ps.length cap := by
    obtain ⟨tvs, ho, _⟩ := id hu
    rcases ho.2 with ⟨_, h0⟩ | ⟨g, cap, cur, h, _⟩
    · omega
    · exact ⟨g, cap, h⟩
  subst hu0
  have HU := hide hu
  have hgF : F + 1 ≤ g := (hu.lt g rfl).1
  have hlenZ : (0 : Int) < (ps.length : Int) := by omega
  have hjlt : (J % (ps.length : Int)).toNat < ps.length := by have := Int.emod_nonneg J (show (ps.length : Int) ≠ 0 by omega); have := Int.emod_lt_of_pos J hlenZ; omega
  have hjz0 : 0 ≤ J % (ps.length : Int) := Int.emod_nonneg J (by omega)
  have hjz1 : J % (ps.length : Int) < ps.length := Int.emod_lt_of_pos J hlenZ
  have hz0 : ((ps.length : Int) == 0) = false := by simp; omega
  obtain ⟨p, hp⟩ : ∃ p, ps[(J % (ps.length : Int)).toNat]? = some p := ⟨_, List.getElem?_eq_getElem hjlt⟩
  have hpn := hms.2 p (List.mem_of_getElem? hp)
  clear hv hF hu hkk
  go_enter Tryd.func33, Tryd.ntmps33
  go_wp2_with fail
  refine HN1.out.mono ?_
  rintro e w1 ⟨rfl, f1, g1⟩
  have HV1 := hide (HV.out.beside g1 (fun k e => by cases e; omega))
  have HN3 := hide (HN2.out w1 f1 HV1.out)
  clear HN1 HN2 f1
  go_wp2_with fail
  refine HN3.out.mono ?_
  rintro e w2 ⟨rfl, f2, g2⟩
  have HU2 := hide ((HU.out.beside g1 (fun k e => by cases e; omega)).beside g2 (fun k e => by cases e; omega))
  have HV2 := hide (HV1.out.beside g2 (fun k e => by cases e; omega))
  have hs1 := g1.size
  have hs2 := g2.size
  have HB2 := hide (((Below.refl F w).grown g1 (by omega) (fun k e => by cases e; omega)).grown g2 (by omega) (fun k e => by cases e; omega))
  clear HN3 HU HV HV1 g1 g2
  have n0 : (K % 12 == 0) = false := by simp; omega
  have n1 : (K % 12 == 1) = false := by simp; omega
  have n2 : (K % 12 == 2) = true := by simp; omega
  have HN4 := hide (next_any F v zs i2 w2 f2 HV2.out hby hm hl2)
  generalize (nx zs i2).1 = c at *
  generalize (nx zs i2).2 = i3 at *
  obtain ⟨hc0, hc1⟩ := hcb
  clear f2 HV2
  go_wp2_with fail
  refine HN4.out.mono ?_
  rintro e w3 ⟨rfl, f3, g3⟩
  have HU3 := hide (HU2.out.beside g3 (fun k e => by cases e; omega))
  have HB3 := hide (HB2.out.grown g3 (by omega) (fun k e => by cases e; omega))
  clear HN4 HU2 HB2 f3 g3
  obtain ⟨tv, c0, c1, c2, cf, hT, _, _⟩ := HU3.out.cellsAt _ p hp
  have cf0 := cf ((J % (ps.length : Int)).toNat * 3)
  have cf2 := cf ((J % (ps.length : Int)).toNat * 3 + 2)
  clear hT
  have HO := hide (by have h := HU3.out.setK _ p hp (c % 10); rwa [List.length_set] at h)
  have HB := hide (HB3.out.setCell (p := ⟨g, (J % (ps.length : Int)).toNat * 3, none⟩) (by simp; omega) (.int .i64 (c % 10)))
  clear HU3 HB3
  go_wp2
  go_ret
  rw [HP.out, spoilK, if_neg (by omega), if_neg (by omega), if_pos hk]; rw [setP_at hp]
  exact ⟨_, rfl, HO.out.pi.rdP, HB.out⟩

set_option maxHeartbeats 2000000 in
set_option maxRecDepth 100000 in
theorem sp_3 (F : Nat) (v : Value) (zs : List Int) (hby : Bys zs) (hm : zs.length ≤ 4194304) (i : Nat) (w : World) (u : Value) (ps : List Pc) (hF : Rdr F w v i) (hv : RdB F w v zs) (hi : i ≤ zs.length) (hu : PoT (F + 1) w u ps) (hne : ps ≠ []) (hms : mes ps ≤ 3600 ∧ ∀ p ∈ ps, 0 ≤ p.n ∧ p.n ≤ 4) (hk : (nx zs i).1 % 12 = 3) :
    Calls Tryd.prog 33 #[u, .pointer (some ⟨F, 0, none⟩)] w fun e w' => Spoilt F w (spoilD zs ps i) e w' := by
  have hkb := nx_bd hby i
  have hl := nx_le hi
  have hFlt := hF.lt
  have hjb := nx_bd hby (nx zs i).2
  have hl2 := nx_le hl
  have hlen := mes_len ps
  have hpos : 0 < ps.length := by rcases ps with _ | ⟨a, b⟩ <;> simp_all
  have HN1 := hide (next_any F v zs i w hF hv hby hm hi)
  have HN2 : Hid (∀ W : World, Rdr F W v ((nx zs i).2 : Int) → RdB F W v zs → _) := fun W a b => next_any F v zs (nx zs i).2 W a b hby hm hl
  have HV := hide hv
  have HP : Hid (spoilD zs ps i = spoilK ps ((nx zs i).1 % 12) ((nx zs (nx zs i).2).1 % ps.length).toNat (nx zs (nx zs (nx zs i).2).2).1) := rfl
  generalize (nx zs (nx zs i).2).1 = J at *
  generalize (nx zs (nx zs i).2).2 = i2 at *
  generalize hkk : (nx zs i).1 = K at *
  generalize (nx zs i).2 = i1 at *
  obtain ⟨hk0, hk1⟩ := hkb
  obtain ⟨hj0, hj1⟩ := hjb
  obtain ⟨g, cap, hu0⟩ : ∃ g cap, u = .slice (some ⟨g, 0, none⟩) ps.length cap := by
    obtain ⟨tvs, ho, _⟩ := id hu
    rcases ho.2 with ⟨_, h0⟩ | ⟨g, cap, cur, h, _⟩
    · omega
    · exact ⟨g, cap, h⟩
  subst hu0
  have HU := hide hu
  have hgF : F + 1 ≤ g := (hu.lt g rfl).1
  have hlenZ : (0 : Int) < (ps.length : Int) := by omega
  have hjlt : (J % (ps.length : Int)).toNat < ps.length := by have := Int.emod_nonneg J (show (ps.length : Int) ≠ 0 by omega); have := Int.emod_lt_of_pos J hlenZ; omega
  have hjz0 : 0 ≤ J % (ps.length : Int) := Int.emod_nonneg J (by omega)
  have hjz1 : J % (ps.length : Int) < ps.length := Int.emod_lt_of_pos J hlenZ
  have hz0 : ((ps.length : Int) == 0) = false := by simp; omega
  obtain ⟨p, hp⟩ : ∃ p, ps[(J % (ps.length : Int)).toNat]? = some p := ⟨_, List.getElem?_eq_getElem hjlt⟩
  have hpn := hms.2 p (List.mem_of_getElem? hp)
  clear hv hF hu hkk
  go_enter Tryd.func33, Tryd.ntmps33
  go_wp2_with fail
  refine HN1.out.mono ?_
  rintro e w1 ⟨rfl, f1, g1⟩
  have HV1 := hide (HV.out.beside g1 (fun k e => by cases e; omega))
  have HN3 := hide (HN2.out w1 f1 HV1.out)
  clear HN1 HN2 f1
  go_wp2_with fail
  refine HN3.out.mono ?_
  rintro e w2 ⟨rfl, f2, g2⟩
  have HU2 := hide ((HU.out.beside g1 (fun k e => by cases e; omega)).beside g2 (fun k e => by cases e; omega))
  have HV2 := hide (HV1.out.beside g2 (fun k e => by cases e; omega))
  have hs1 := g1.size
  have hs2 := g2.size
  have HB2 := hide (((Below.refl F w).grown g1 (by omega) (fun k e => by cases e; omega)).grown g2 (by omega) (fun k e => by cases e; omega))
  clear HN3 HU HV HV1 g1 g2
  have n0 : (K % 12 == 0) = false := by simp; omega
  have n1 : (K % 12 == 1) = false := by simp; omega
  have n2 : (K % 12 == 2) = false := by simp; omega
  have n3 : (K % 12 == 3) = true := by simp; omega
  obtain ⟨tv, c0, c1, c2, cf, hT, _, _⟩ := HU2.out.cellsAt _ p hp
  have cf0 := cf ((J % (ps.length : Int)).toNat * 3)
  have cf2 := cf ((J % (ps.length : Int)).toNat * 3 + 2)
  clear hT
  have HO := hide (by have h := HU2.out.setN _ p hp (p.n + 1); rwa [List.length_set] at h)
  have HB := hide (HB2.out.setCell (p := ⟨g, (J % (ps.length : Int)).toNat * 3 + 2, none⟩) (by simp; omega) (.int .i64 (p.n + 1)))
  clear HU2 HB2
  go_wp2
  go_ret
  rw [HP.out, spoilK, if_neg (by omega), if_neg (by omega), if_neg (by omega), if_pos hk]; rw [setP_at hp]
  exact ⟨_, rfl, HO.out.pi.rdP, HB.out⟩

set_option maxHeartbeats 2000000 in
set_option maxRecDepth 100000 in
theorem sp_4 (F : Nat) (v : Value) (zs : List Int) (hby : Bys zs) (hm : zs.length ≤ 4194304) (i : Nat) (w : World) (u : Value) (ps : List Pc) (hF : Rdr F w v i) (hv : RdB F w v zs) (hi : i ≤ zs.length) (hu : PoT (F + 1) w u ps) (hne : ps ≠ []) (hms : mes ps ≤ 3600 ∧ ∀ p ∈ ps, 0 ≤ p.n ∧ p.n ≤ 4) (hk : (nx zs i).1 % 12 = 4) :
    Calls Tryd.prog 33 #[u, .pointer (some ⟨F, 0, none⟩)] w fun e w' => Spoilt F w (spoilD zs ps i) e w' := by
  have hkb := nx_bd hby i
  have hl := nx_le hi
  have hFlt := hF.lt
  have hjb := nx_bd hby (nx zs i).2
  have hl2 := nx_le hl
  have hlen := mes_len ps
  have hpos : 0 < ps.length := by rcases ps with _ | ⟨a, b⟩ <;> simp_all
  have HN1 := hide (next_any F v zs i w hF hv hby hm hi)
  have HN2 : Hid (∀ W : World, Rdr F W v ((nx zs i).2 : Int) → RdB F W v zs → _) := fun W a b => next_any F v zs (nx zs i).2 W a b hby hm hl
  have hcb := nx_bd hby (nx zs (nx zs i).2).2
  have HV := hide hv
  have HP : Hid (spoilD zs ps i = spoilK ps ((nx zs i).1 % 12) ((nx zs (nx zs i).2).1 % ps.length).toNat (nx zs (nx zs (nx zs i).2).2).1) := rfl
  generalize (nx zs (nx zs i).2).1 = J at *
  generalize (nx zs (nx zs i).2).2 = i2 at *
  generalize hkk : (nx zs i).1 = K at *
  generalize (nx zs i).2 = i1 at *
  obtain ⟨hk0, hk1⟩ := hkb
  obtain ⟨hj0, hj1⟩ := hjb
  obtain ⟨g, cap, hu0⟩ : ∃ g cap, u = .slice (some ⟨g, 0, none⟩) ps.length cap := by
    obtain ⟨tvs, ho, _⟩ := id hu
    rcases ho.2 with ⟨_, h0⟩ | ⟨g, cap, cur, h, _⟩
    · omega
    · exact ⟨g, cap, h⟩
  subst hu0
  have HU := hide hu
  have hgF : F + 1 ≤ g := (hu.lt g rfl).1
  have hlenZ : (0 : Int) < (ps.length : Int) := by omega
  have hjlt : (J % (ps.length : Int)).toNat < ps.length := by have := Int.emod_nonneg J (show (ps.length : Int) ≠ 0 by omega); have := Int.emod_lt_of_pos J hlenZ; omega
  have hjz0 : 0 ≤ J % (ps.length : Int) := Int.emod_nonneg J (by omega)
  have hjz1 : J % (ps.length : Int) < ps.length := Int.emod_lt_of_pos J hlenZ
  have hz0 : ((ps.length : Int) == 0) = false := by simp; omega
  obtain ⟨p, hp⟩ : ∃ p, ps[(J % (ps.length : Int)).toNat]? = some p := ⟨_, List.getElem?_eq_getElem hjlt⟩
  have hpn := hms.2 p (List.mem_of_getElem? hp)
  clear hv hF hu hkk
  go_enter Tryd.func33, Tryd.ntmps33
  go_wp2_with fail
  refine HN1.out.mono ?_
  rintro e w1 ⟨rfl, f1, g1⟩
  have HV1 := hide (HV.out.beside g1 (fun k e => by cases e; omega))
  have HN3 := hide (HN2.out w1 f1 HV1.out)
  clear HN1 HN2 f1
  go_wp2_with fail
  refine HN3.out.mono ?_
  rintro e w2 ⟨rfl, f2, g2⟩
  have HU2 := hide ((HU.out.beside g1 (fun k e => by cases e; omega)).beside g2 (fun k e => by cases e; omega))
  have HV2 := hide (HV1.out.beside g2 (fun k e => by cases e; omega))
  have hs1 := g1.size
  have hs2 := g2.size
  have HB2 := hide (((Below.refl F w).grown g1 (by omega) (fun k e => by cases e; omega)).grown g2 (by omega) (fun k e => by cases e; omega))
  clear HN3 HU HV HV1 g1 g2
  have n0 : (K % 12 == 0) = false := by simp; omega
  have n1 : (K % 12 == 1) = false := by simp; omega
  have n2 : (K % 12 == 2) = false := by simp; omega
  have n3 : (K % 12 == 3) = false := by simp; omega
  have n4 : (K % 12 == 4) = true := by simp; omega
  have HN4 := hide (next_any F v zs i2 w2 f2 HV2.out hby hm hl2)
  generalize (nx zs i2).1 = c at *
  generalize (nx zs i2).2 = i3 at *
  obtain ⟨hc0, hc1⟩ := hcb
  clear f2 HV2
  go_wp2_with fail
  refine HN4.out.mono ?_
  rintro e w3 ⟨rfl, f3, g3⟩
  have HU3 := hide (HU2.out.beside g3 (fun k e => by cases e; omega))
  have HB3 := hide (HB2.out.grown g3 (by omega) (fun k e => by cases e; omega))
  clear HN4 HU2 HB2 f3 g3
  obtain ⟨tv, c0, c1, c2, cf, hT, _, _⟩ := HU3.out.cellsAt _ p hp
  have cf0 := cf ((J % (ps.length : Int)).toNat * 3)
  have cf2 := cf ((J % (ps.length : Int)).toNat * 3 + 2)
  clear hT
  have HO1 := hide (by have h := HU3.out.setN _ p hp (3999 + c % 3); rwa [List.length_set] at h)
  have hp2 : (ps.set (J % (ps.length : Int)).toNat ⟨p.k, p.t, 3999 + c % 3⟩)[(J % (ps.length : Int)).toNat]? = some ⟨p.k, p.t, 3999 + c % 3⟩ := List.getElem?_set_self hjlt
  have HO := hide (by have h := PoT.setK (ps := ps.set (J % (ps.length : Int)).toNat ⟨p.k, p.t, 3999 + c % 3⟩) (by rw [List.length_set]; exact HO1.out) _ _ hp2 7; rwa [List.length_set, List.set_set, List.length_set] at h)
  have HB := hide ((HB3.out.setCell (p := ⟨g, (J % (ps.length : Int)).toNat * 3 + 2, none⟩) (by simp; omega) (.int .i64 (3999 + c % 3))).setCell (p := ⟨g, (J % (ps.length : Int)).toNat * 3, none⟩) (by simp; omega) (.int .i64 7))
  clear HU3 HB3 HO1
  go_wp2
  go_ret
  rw [HP.out, spoilK, if_neg (by omega), if_neg (by omega), if_neg (by omega), if_neg (by omega), if_pos hk]; rw [setP_at hp]
  exact ⟨_, rfl, HO.out.pi.rdP, HB.out⟩

section
attribute [-go_sem] Builtin.append_
set_option maxHeartbeats 2000000 in
set_option maxRecDepth 100000 in
theorem sp_5 (F : Nat) (v : Value) (zs : List Int) (hby : Bys zs) (hm : zs.length ≤ 4194304) (i : Nat) (w : World) (u : Value) (ps : List Pc) (hF : Rdr F w v i) (hv : RdB F w v zs) (hi : i ≤ zs.length) (hu : PoT (F + 1) w u ps) (hne : ps ≠ []) (hms : mes ps ≤ 3600 ∧ ∀ p ∈ ps, 0 ≤ p.n ∧ p.n ≤ 4) (hk : (nx zs i).1 % 12 = 5) :
    Calls Tryd.prog 33 #[u, .pointer (some ⟨F, 0, none⟩)] w fun e w' => Spoilt F w (spoilD zs ps i) e w' := by
  have hkb := nx_bd hby i
  have hl := nx_le hi
  have hFlt := hF.lt
  have hjb := nx_bd hby (nx zs i).2
  have hl2 := nx_le hl
  have hlen := mes_len ps
  have hpos : 0 < ps.length := by rcases ps with _ | ⟨a, b⟩ <;> simp_all
  have HN1 := hide (next_any F v zs i w hF hv hby hm hi)
  have HN2 : Hid (∀ W : World, Rdr F W v ((nx zs i).2 : Int) → RdB F W v zs → _) := fun W a b => next_any F v zs (nx zs i).2 W a b hby hm hl
  have HV := hide hv
  have HP : Hid (spoilD zs ps i = spoilK ps ((nx zs i).1 % 12) ((nx zs (nx zs i).2).1 % ps.length).toNat (nx zs (nx zs (nx zs i).2).2).1) := rfl
  generalize (nx zs (nx zs i).2).1 = J at *
  generalize (nx zs (nx zs i).2).2 = i2 at *
  generalize hkk : (nx zs i).1 = K at *
  generalize (nx zs i).2 = i1 at *
  obtain ⟨hk0, hk1⟩ := hkb
  obtain ⟨hj0, hj1⟩ := hjb
  obtain ⟨g, cap, hu0⟩ : ∃ g cap, u = .slice (some ⟨g, 0, none⟩) ps.length cap := by
    obtain ⟨tvs, ho, _⟩ := id hu
    rcases ho.2 with ⟨_, h0⟩ | ⟨g, cap, cur, h, _⟩
    · omega
    · exact ⟨g, cap, h⟩
  subst hu0
  have HU := hide hu
  have hgF : F + 1 ≤ g := (hu.lt g rfl).1
  have hlenZ : (0 : Int) < (ps.length : Int) := by omega
  have hjlt : (J % (ps.length : Int)).toNat < ps.length := by have := Int.emod_nonneg J (show (ps.length : Int) ≠ 0 by omega); have := Int.emod_lt_of_pos J hlenZ; omega
  have hjz0 : 0 ≤ J % (ps.length : Int) := Int.emod_nonneg J (by omega)
  have hjz1 : J % (ps.length : Int) < ps.length := Int.emod_lt_of_pos J hlenZ
  have hz0 : ((ps.length : Int) == 0) = false := by simp; omega
  obtain ⟨p, hp⟩ : ∃ p, ps[(J % (ps.length : Int)).toNat]? = some p := ⟨_, List.getElem?_eq_getElem hjlt⟩
  have hpn := hms.2 p (List.mem_of_getElem? hp)
  clear hv hF hu hkk
  go_enter Tryd.func33, Tryd.ntmps33
  go_wp2_with fail
  refine HN1.out.mono ?_
  rintro e w1 ⟨rfl, f1, g1⟩
  have HV1 := hide (HV.out.beside g1 (fun k e => by cases e; omega))
  have HN3 := hide (HN2.out w1 f1 HV1.out)
  clear HN1 HN2 f1
  go_wp2_with fail
  refine HN3.out.mono ?_
  rintro e w2 ⟨rfl, f2, g2⟩
  have HU2 := hide ((HU.out.beside g1 (fun k e => by cases e; omega)).beside g2 (fun k e => by cases e; omega))
  have HV2 := hide (HV1.out.beside g2 (fun k e => by cases e; omega))
  have hs1 := g1.size
  have hs2 := g2.size
  have HB2 := hide (((Below.refl F w).grown g1 (by omega) (fun k e => by cases e; omega)).grown g2 (by omega) (fun k e => by cases e; omega))
  clear HN3 HU HV HV1 g1 g2
  have n0 : (K % 12 == 0) = false := by simp; omega
  have n1 : (K % 12 == 1) = false := by simp; omega
  have n2 : (K % 12 == 2) = false := by simp; omega
  have n3 : (K % 12 == 3) = false := by simp; omega
  have n4 : (K % 12 == 4) = false := by simp; omega
  have n5 : (K % 12 == 5) = true := by simp; omega
  have gA := World.grownBy_alloc w2 (Obj.cells #[Value.int .u8 10] 5) none
  obtain ⟨tv, c0, c1, c2, cf, hT, hset, hgne⟩ := (HU2.out.keep gA).cellsAt _ p hp
  have hmp := mes_mem ps p (List.mem_of_getElem? hp)
  have hsA : (w2.alloc (Obj.cells #[Value.int .u8 10] 5)).heap.size = w2.heap.size + 1 := by simp
  obtain ⟨v', w3, hrun, hT3, g3, hb3, a3, cp3, hv3⟩ := appG (c := w2.heap.size) (z := 10) hT (by omega) (by simp [go_sem]) (by omega) (by omega)
  have HO := hide (by have h := hset w3 v' (p.t ++ [10]) g3 hT3 hb3; rwa [List.length_set] at h)
  have hgn : some g ≠ tv.ownBlock := fun e => hgne g e.symm rfl
  have d1 := g3.cell c1 hgn
  have hgl : g < (w2.alloc (Obj.cells #[Value.int .u8 10] 5)).heap.size := by have := (HU2.out.lt g rfl).2; omega
  have df1 : w3.frozen? ⟨g, (J % (ps.length : Int)).toNat * 3 + 1, none⟩ = false := by rw [World.frozen?_of_block (g3.block g hgl hgn)]; exact cf _
  obtain ⟨tva, tvc, htv, _, _⟩ := hT.sl
  have HB := hide ((((HB2.out.alloc (by omega) (Obj.cells #[Value.int .u8 10] 5)).grown g3 (by omega) (fun k e => by have := (hT.lt k e).1; omega))).setCell (p := ⟨g, (J % (ps.length : Int)).toNat * 3 + 1, none⟩) (by simp; omega) v')
  obtain ⟨tv2, b0, b1, b2, bf, _⟩ := HU2.out.cellsAt _ p hp
  have htt : tv2 = tv := by have h := gA.cell b1 (by simp); rw [c1] at h; cases h; rfl
  subst htt
  clear hT hT3 hset hgne hb3 g3 HU2 HB2 gA
  subst htv hv3
  go_wp2
  go_ret
  rw [HP.out, spoilK, if_neg (by omega), if_neg (by omega), if_neg (by omega), if_neg (by omega), if_neg (by omega), if_pos hk]; rw [setP_at hp]
  exact ⟨_, rfl, HO.out.pi.rdP, HB.out⟩

end

section
attribute [-go_sem] Builtin.append_
set_option maxHeartbeats 2000000 in
set_option maxRecDepth 100000 in
theorem sp_6 (F : Nat) (v : Value) (zs : List Int) (hby : Bys zs) (hm : zs.length ≤ 4194304) (i : Nat) (w : World) (u : Value) (ps : List Pc) (hF : Rdr F w v i) (hv : RdB F w v zs) (hi : i ≤ zs.length) (hu : PoT (F + 1) w u ps) (hne : ps ≠ []) (hms : mes ps ≤ 3600 ∧ ∀ p ∈ ps, 0 ≤ p.n ∧ p.n ≤ 4) (hk : (nx zs i).1 % 12 = 6) :
    Calls Tryd.prog 33 #[u, .pointer (some ⟨F, 0, none⟩)] w fun e w' => Spoilt F w (spoilD zs ps i) e w' := by
  have hkb := nx_bd hby i
  have hl := nx_le hi
  have hFlt := hF.lt
  have hjb := nx_bd hby (nx zs i).2
  have hl2 := nx_le hl
  have hlen := mes_len ps
  have hpos : 0 < ps.length := by rcases ps with _ | ⟨a, b⟩ <;> simp_all
  have HN1 := hide (next_any F v zs i w hF hv hby hm hi)
  have HN2 : Hid (∀ W : World, Rdr F W v ((nx zs i).2 : Int) → RdB F W v zs → _) := fun W a b => next_any F v zs (nx zs i).2 W a b hby hm hl
  have HV := hide hv
  have HP : Hid (spoilD zs ps i = spoilK ps ((nx zs i).1 % 12) ((nx zs (nx zs i).2).1 % ps.length).toNat (nx zs (nx zs (nx zs i).2).2).1) := rfl
  generalize (nx zs (nx zs i).2).1 = J at *
  generalize (nx zs (nx zs i).2).2 = i2 at *
  generalize hkk : (nx zs i).1 = K at *
  generalize (nx zs i).2 = i1 at *
  obtain ⟨hk0, hk1⟩ := hkb
  obtain ⟨hj0, hj1⟩ := hjb
  obtain ⟨g, cap, hu0⟩ : ∃ g cap, u = .slice (some ⟨g, 0, none⟩) ps.length cap := by
    obtain ⟨tvs, ho, _⟩ := id hu
    rcases ho.2 with ⟨_, h0⟩ | ⟨g, cap, cur, h, _⟩
    · omega
    · exact ⟨g, cap, h⟩
  subst hu0
  have HU := hide hu
  have hgF : F + 1 ≤ g := (hu.lt g rfl).1
  have hlenZ : (0 : Int) < (ps.length : Int) := by omega
  have hjlt : (J % (ps.length : Int)).toNat < ps.length := by have := Int.emod_nonneg J (show (ps.length : Int) ≠ 0 by omega); have := Int.emod_lt_of_pos J hlenZ; omega
  have hjz0 : 0 ≤ J % (ps.length : Int) := Int.emod_nonneg J (by omega)
  have hjz1 : J % (ps.length : Int) < ps.length := Int.emod_lt_of_pos J hlenZ
  have hz0 : ((ps.length : Int) == 0) = false := by simp; omega
  obtain ⟨p, hp⟩ : ∃ p, ps[(J % (ps.length : Int)).toNat]? = some p := ⟨_, List.getElem?_eq_getElem hjlt⟩
  have hpn := hms.2 p (List.mem_of_getElem? hp)
  clear hv hF hu hkk
  go_enter Tryd.func33, Tryd.ntmps33
  go_wp2_with fail
  refine HN1.out.mono ?_
  rintro e w1 ⟨rfl, f1, g1⟩
  have HV1 := hide (HV.out.beside g1 (fun k e => by cases e; omega))
  have HN3 := hide (HN2.out w1 f1 HV1.out)
  clear HN1 HN2 f1
  go_wp2_with fail
  refine HN3.out.mono ?_
  rintro e w2 ⟨rfl, f2, g2⟩
  have HU2 := hide ((HU.out.beside g1 (fun k e => by cases e; omega)).beside g2 (fun k e => by cases e; omega))
  have HV2 := hide (HV1.out.beside g2 (fun k e => by cases e; omega))
  have hs1 := g1.size
  have hs2 := g2.size
  have HB2 := hide (((Below.refl F w).grown g1 (by omega) (fun k e => by cases e; omega)).grown g2 (by omega) (fun k e => by cases e; omega))
  clear HN3 HU HV HV1 g1 g2
  have n0 : (K % 12 == 0) = false := by simp; omega
  have n1 : (K % 12 == 1) = false := by simp; omega
  have n2 : (K % 12 == 2) = false := by simp; omega
  have n3 : (K % 12 == 3) = false := by simp; omega
  have n4 : (K % 12 == 4) = false := by simp; omega
  have n5 : (K % 12 == 5) = false := by simp; omega
  have n6 : (K % 12 == 6) = true := by simp; omega
  have gA := World.grownBy_alloc w2 (Obj.cells #[Value.int .u8 195] 5) none
  obtain ⟨tv, c0, c1, c2, cf, hT, hset, hgne⟩ := (HU2.out.keep gA).cellsAt _ p hp
  have hmp := mes_mem ps p (List.mem_of_getElem? hp)
  have hsA : (w2.alloc (Obj.cells #[Value.int .u8 195] 5)).heap.size = w2.heap.size + 1 := by simp
  obtain ⟨v', w3, hrun, hT3, g3, hb3, a3, cp3, hv3⟩ := appG (c := w2.heap.size) (z := 195) hT (by omega) (by simp [go_sem]) (by omega) (by omega)
  have HO := hide (by have h := hset w3 v' (p.t ++ [195]) g3 hT3 hb3; rwa [List.length_set] at h)
  have hgn : some g ≠ tv.ownBlock := fun e => hgne g e.symm rfl
  have d1 := g3.cell c1 hgn
  have hgl : g < (w2.alloc (Obj.cells #[Value.int .u8 195] 5)).heap.size := by have := (HU2.out.lt g rfl).2; omega
  have df1 : w3.frozen? ⟨g, (J % (ps.length : Int)).toNat * 3 + 1, none⟩ = false := by rw [World.frozen?_of_block (g3.block g hgl hgn)]; exact cf _
  obtain ⟨tva, tvc, htv, _, _⟩ := hT.sl
  have HB := hide ((((HB2.out.alloc (by omega) (Obj.cells #[Value.int .u8 195] 5)).grown g3 (by omega) (fun k e => by have := (hT.lt k e).1; omega))).setCell (p := ⟨g, (J % (ps.length : Int)).toNat * 3 + 1, none⟩) (by simp; omega) v')
  obtain ⟨tv2, b0, b1, b2, bf, _⟩ := HU2.out.cellsAt _ p hp
  have htt : tv2 = tv := by have h := gA.cell b1 (by simp); rw [c1] at h; cases h; rfl
  subst htt
  clear hT hT3 hset hgne hb3 g3 HU2 HB2 gA
  subst htv hv3
  go_wp2
  go_ret
  rw [HP.out, spoilK, if_neg (by omega), if_neg (by omega), if_neg (by omega), if_neg (by omega), if_neg (by omega), if_neg (by omega), if_pos hk]; rw [setP_at hp]
  exact ⟨_, rfl, HO.out.pi.rdP, HB.out⟩

end

set_option maxHeartbeats 2000000 in
set_option maxRecDepth 100000 in
theorem sp_7 (F : Nat) (v : Value) (zs : List Int) (hby : Bys zs) (hm : zs.length ≤ 4194304) (i : Nat) (w : World) (u : Value) (ps : List Pc) (hF : Rdr F w v i) (hv : RdB F w v zs) (hi : i ≤ zs.length) (hu : PoT (F + 1) w u ps) (hne : ps ≠ []) (hms : mes ps ≤ 3600 ∧ ∀ p ∈ ps, 0 ≤ p.n ∧ p.n ≤ 4) (hk : (nx zs i).1 % 12 = 7) :
    Calls Tryd.prog 33 #[u, .pointer (some ⟨F, 0, none⟩)] w fun e w' => Spoilt F w (spoilD zs ps i) e w' := by
  have hkb := nx_bd hby i
  have hl := nx_le hi
  have hFlt := hF.lt
  have hjb := nx_bd hby (nx zs i).2
  have hl2 := nx_le hl
  have hlen := mes_len ps
  have hpos : 0 < ps.length := by rcases ps with _ | ⟨a, b⟩ <;> simp_all
  have HN1 := hide (next_any F v zs i w hF hv hby hm hi)
  have HN2 : Hid (∀ W : World, Rdr F W v ((nx zs i).2 : Int) → RdB F W v zs → _) := fun W a b => next_any F v zs (nx zs i).2 W a b hby hm hl
  have HV := hide hv
  have HP : Hid (spoilD zs ps i = spoilK ps ((nx zs i).1 % 12) ((nx zs (nx zs i).2).1 % ps.length).toNat (nx zs (nx zs (nx zs i).2).2).1) := rfl
  generalize (nx zs (nx zs i).2).1 = J at *
  generalize (nx zs (nx zs i).2).2 = i2 at *
  generalize hkk : (nx zs i).1 = K at *
  generalize (nx zs i).2 = i1 at *
  obtain ⟨hk0, hk1⟩ := hkb
  obtain ⟨hj0, hj1⟩ := hjb
  obtain ⟨g, cap, hu0⟩ : ∃ g cap, u = .slice (some ⟨g, 0, none⟩) ps.length cap := by
    obtain ⟨tvs, ho, _⟩ := id hu
    rcases ho.2 with ⟨_, h0⟩ | ⟨g, cap, cur, h, _⟩
    · omega
    · exact ⟨g, cap, h⟩
  subst hu0
  have HU := hide hu
  have hgF : F + 1 ≤ g := (hu.lt g rfl).1
  have hlenZ : (0 : Int) < (ps.length : Int) := by omega
  have hjlt : (J % (ps.length : Int)).toNat < ps.length := by have := Int.emod_nonneg J (show (ps.length : Int) ≠ 0 by omega); have := Int.emod_lt_of_pos J hlenZ; omega
  have hjz0 : 0 ≤ J % (ps.length : Int) := Int.emod_nonneg J (by omega)
  have hjz1 : J % (ps.length : Int) < ps.length := Int.emod_lt_of_pos J hlenZ
  have hz0 : ((ps.length : Int) == 0) = false := by simp; omega
  obtain ⟨p, hp⟩ : ∃ p, ps[(J % (ps.length : Int)).toNat]? = some p := ⟨_, List.getElem?_eq_getElem hjlt⟩
  have hpn := hms.2 p (List.mem_of_getElem? hp)
  clear hv hF hu hkk
  go_enter Tryd.func33, Tryd.ntmps33
  go_wp2_with fail
  refine HN1.out.mono ?_
  rintro e w1 ⟨rfl, f1, g1⟩
  have HV1 := hide (HV.out.beside g1 (fun k e => by cases e; omega))
  have HN3 := hide (HN2.out w1 f1 HV1.out)
  clear HN1 HN2 f1
  go_wp2_with fail
  refine HN3.out.mono ?_
  rintro e w2 ⟨rfl, f2, g2⟩
  have HU2 := hide ((HU.out.beside g1 (fun k e => by cases e; omega)).beside g2 (fun k e => by cases e; omega))
  have HV2 := hide (HV1.out.beside g2 (fun k e => by cases e; omega))
  have hs1 := g1.size
  have hs2 := g2.size
  have HB2 := hide (((Below.refl F w).grown g1 (by omega) (fun k e => by cases e; omega)).grown g2 (by omega) (fun k e => by cases e; omega))
  clear HN3 HU HV HV1 g1 g2
  have n0 : (K % 12 == 0) = false := by simp; omega
  have n1 : (K % 12 == 1) = false := by simp; omega
  have n2 : (K % 12 == 2) = false := by simp; omega
  have n3 : (K % 12 == 3) = false := by simp; omega
  have n4 : (K % 12 == 4) = false := by simp; omega
  have n5 : (K % 12 == 5) = false := by simp; omega
  have n6 : (K % 12 == 6) = false := by simp; omega
  have n7 : (K % 12 == 7) = true := by simp; omega
  have HO := hide (HU2.out.pi.rdP.init rfl)
  obtain ⟨qa, qc, hqe, hcap, hcm⟩ := HU2.out.sl
  cases hqe
  have HB := HB2
  clear HU2 HB2
  go_wp2
  go_ret
  rw [HP.out, spoilK, if_neg (by omega), if_neg (by omega), if_neg (by omega), if_neg (by omega), if_neg (by omega), if_neg (by omega), if_neg (by omega), if_pos hk]
  exact ⟨_, rfl, by simpa using HO.out, HB.out⟩

section
attribute [-go_sem] Builtin.append_
set_option maxHeartbeats 2000000 in
set_option maxRecDepth 100000 in
theorem sp_8 (F : Nat) (v : Value) (zs : List Int) (hby : Bys zs) (hm : zs.length ≤ 4194304) (i : Nat) (w : World) (u : Value) (ps : List Pc) (hF : Rdr F w v i) (hv : RdB F w v zs) (hi : i ≤ zs.length) (hu : PoT (F + 1) w u ps) (hne : ps ≠ []) (hms : mes ps ≤ 3600 ∧ ∀ p ∈ ps, 0 ≤ p.n ∧ p.n ≤ 4) (hk : (nx zs i).1 % 12 = 8) :
    Calls Tryd.prog 33 #[u, .pointer (some ⟨F, 0, none⟩)] w fun e w' => Spoilt F w (spoilD zs ps i) e w' := by
  have hkb := nx_bd hby i
  have hl := nx_le hi
  have hFlt := hF.lt
  have hjb := nx_bd hby (nx zs i).2
  have hl2 := nx_le hl
  have hlen := mes_len ps
  have hpos : 0 < ps.length := by rcases ps with _ | ⟨a, b⟩ <;> simp_all
  have HN1 := hide (next_any F v zs i w hF hv hby hm hi)
  have HN2 : Hid (∀ W : World, Rdr F W v ((nx zs i).2 : Int) → RdB F W v zs → _) := fun W a b => next_any F v zs (nx zs i).2 W a b hby hm hl
  have HV := hide hv
  have HP : Hid (spoilD zs ps i = spoilK ps ((nx zs i).1 % 12) ((nx zs (nx zs i).2).1 % ps.length).toNat (nx zs (nx zs (nx zs i).2).2).1) := rfl
  generalize (nx zs (nx zs i).2).1 = J at *
  generalize (nx zs (nx zs i).2).2 = i2 at *
  generalize hkk : (nx zs i).1 = K at *
  generalize (nx zs i).2 = i1 at *
  obtain ⟨hk0, hk1⟩ := hkb
  obtain ⟨hj0, hj1⟩ := hjb
  obtain ⟨g, cap, hu0⟩ : ∃ g cap, u = .slice (some ⟨g, 0, none⟩) ps.length cap := by
    obtain ⟨tvs, ho, _⟩ := id hu
    rcases ho.2 with ⟨_, h0⟩ | ⟨g, cap, cur, h, _⟩
    · omega
    · exact ⟨g, cap, h⟩
  subst hu0
  have HU := hide hu
  have hgF : F + 1 ≤ g := (hu.lt g rfl).1
  have hlenZ : (0 : Int) < (ps.length : Int) := by omega
  have hjlt : (J % (ps.length : Int)).toNat < ps.length := by have := Int.emod_nonneg J (show (ps.length : Int) ≠ 0 by omega); have := Int.emod_lt_of_pos J hlenZ; omega
  have hjz0 : 0 ≤ J % (ps.length : Int) := Int.emod_nonneg J (by omega)
  have hjz1 : J % (ps.length : Int) < ps.length := Int.emod_lt_of_pos J hlenZ
  have hz0 : ((ps.length : Int) == 0) = false := by simp; omega
  obtain ⟨p, hp⟩ : ∃ p, ps[(J % (ps.length : Int)).toNat]? = some p := ⟨_, List.getElem?_eq_getElem hjlt⟩
  have hpn := hms.2 p (List.mem_of_getElem? hp)
  clear hv hF hu hkk
  go_enter Tryd.func33, Tryd.ntmps33
  go_wp2_with fail
  refine HN1.out.mono ?_
  rintro e w1 ⟨rfl, f1, g1⟩
  have HV1 := hide (HV.out.beside g1 (fun k e => by cases e; omega))
  have HN3 := hide (HN2.out w1 f1 HV1.out)
  clear HN1 HN2 f1
  go_wp2_with fail
  refine HN3.out.mono ?_
  rintro e w2 ⟨rfl, f2, g2⟩
  have HU2 := hide ((HU.out.beside g1 (fun k e => by cases e; omega)).beside g2 (fun k e => by cases e; omega))
  have HV2 := hide (HV1.out.beside g2 (fun k e => by cases e; omega))
  have hs1 := g1.size
  have hs2 := g2.size
  have HB2 := hide (((Below.refl F w).grown g1 (by omega) (fun k e => by cases e; omega)).grown g2 (by omega) (fun k e => by cases e; omega))
  clear HN3 HU HV HV1 g1 g2
  have n0 : (K % 12 == 0) = false := by simp; omega
  have n1 : (K % 12 == 1) = false := by simp; omega
  have n2 : (K % 12 == 2) = false := by simp; omega
  have n3 : (K % 12 == 3) = false := by simp; omega
  have n4 : (K % 12 == 4) = false := by simp; omega
  have n5 : (K % 12 == 5) = false := by simp; omega
  have n6 : (K % 12 == 6) = false := by simp; omega
  have n7 : (K % 12 == 7) = false := by simp; omega
  have n8 : (K % 12 == 8) = true := by simp; omega
  obtain ⟨v', w3, hrun, hP3, g3, a3, cp3, hv3⟩ := HU2.out.push 6 0 (.slice none 0 0) [] (World.grownBy.refl w2 none) (by omega) (TxG.nil _ _) (by omega)
  have HO := hide hP3
  have HB := hide (HB2.out.grown g3 (by omega) (fun k e => by have : g = k := (by simpa [Value.ownBlock] using e); omega))
  clear HU2 HB2 hP3 g3
  subst hv3
  go_wp2
  go_ret
  rw [HP.out, spoilK, if_neg (by omega), if_neg (by omega), if_neg (by omega), if_neg (by omega), if_neg (by omega), if_neg (by omega), if_neg (by omega), if_neg (by omega), if_pos hk]
  exact ⟨_, rfl, HO.out.pi.rdP, HB.out⟩

end

section
attribute [-go_sem] Builtin.append_
set_option maxHeartbeats 2000000 in
set_option maxRecDepth 100000 in
theorem sp_9 (F : Nat) (v : Value) (zs : List Int) (hby : Bys zs) (hm : zs.length ≤ 4194304) (i : Nat) (w : World) (u : Value) (ps : List Pc) (hF : Rdr F w v i) (hv : RdB F w v zs) (hi : i ≤ zs.length) (hu : PoT (F + 1) w u ps) (hne : ps ≠ []) (hms : mes ps ≤ 3600 ∧ ∀ p ∈ ps, 0 ≤ p.n ∧ p.n ≤ 4) (hk : (nx zs i).1 % 12 = 9) :
    Calls Tryd.prog 33 #[u, .pointer (some ⟨F, 0, none⟩)] w fun e w' => Spoilt F w (spoilD zs ps i) e w' := by
  have hkb := nx_bd hby i
  have hl := nx_le hi
  have hFlt := hF.lt
  have hjb := nx_bd hby (nx zs i).2
  have hl2 := nx_le hl
  have hlen := mes_len ps
  have hpos : 0 < ps.length := by rcases ps with _ | ⟨a, b⟩ <;> simp_all
  have HN1 := hide (next_any F v zs i w hF hv hby hm hi)
  have HN2 : Hid (∀ W : World, Rdr F W v ((nx zs i).2 : Int) → RdB F W v zs → _) := fun W a b => next_any F v zs (nx zs i).2 W a b hby hm hl
  have HV := hide hv
  have HP : Hid (spoilD zs ps i = spoilK ps ((nx zs i).1 % 12) ((nx zs (nx zs i).2).1 % ps.length).toNat (nx zs (nx zs (nx zs i).2).2).1) := rfl
  generalize (nx zs (nx zs i).2).1 = J at *
  generalize (nx zs (nx zs i).2).2 = i2 at *
  generalize hkk : (nx zs i).1 = K at *
  generalize (nx zs i).2 = i1 at *
  obtain ⟨hk0, hk1⟩ := hkb
  obtain ⟨hj0, hj1⟩ := hjb
  obtain ⟨g, cap, hu0⟩ : ∃ g cap, u = .slice (some ⟨g, 0, none⟩) ps.length cap := by
    obtain ⟨tvs, ho, _⟩ := id hu
    rcases ho.2 with ⟨_, h0⟩ | ⟨g, cap, cur, h, _⟩
    · omega
    · exact ⟨g, cap, h⟩
  subst hu0
  have HU := hide hu
  have hgF : F + 1 ≤ g := (hu.lt g rfl).1
  have hlenZ : (0 : Int) < (ps.length : Int) := by omega
  have hjlt : (J % (ps.length : Int)).toNat < ps.length := by have := Int.emod_nonneg J (show (ps.length : Int) ≠ 0 by omega); have := Int.emod_lt_of_pos J hlenZ; omega
  have hjz0 : 0 ≤ J % (ps.length : Int) := Int.emod_nonneg J (by omega)
  have hjz1 : J % (ps.length : Int) < ps.length := Int.emod_lt_of_pos J hlenZ
  have hz0 : ((ps.length : Int) == 0) = false := by simp; omega
  obtain ⟨p, hp⟩ : ∃ p, ps[(J % (ps.length : Int)).toNat]? = some p := ⟨_, List.getElem?_eq_getElem hjlt⟩
  have hpn := hms.2 p (List.mem_of_getElem? hp)
  clear hv hF hu hkk
  go_enter Tryd.func33, Tryd.ntmps33
  go_wp2_with fail
  refine HN1.out.mono ?_
  rintro e w1 ⟨rfl, f1, g1⟩
  have HV1 := hide (HV.out.beside g1 (fun k e => by cases e; omega))
  have HN3 := hide (HN2.out w1 f1 HV1.out)
  clear HN1 HN2 f1
  go_wp2_with fail
  refine HN3.out.mono ?_
  rintro e w2 ⟨rfl, f2, g2⟩
  have HU2 := hide ((HU.out.beside g1 (fun k e => by cases e; omega)).beside g2 (fun k e => by cases e; omega))
  have HV2 := hide (HV1.out.beside g2 (fun k e => by cases e; omega))
  have hs1 := g1.size
  have hs2 := g2.size
  have HB2 := hide (((Below.refl F w).grown g1 (by omega) (fun k e => by cases e; omega)).grown g2 (by omega) (fun k e => by cases e; omega))
  clear HN3 HU HV HV1 g1 g2
  have n0 : (K % 12 == 0) = false := by simp; omega
  have n1 : (K % 12 == 1) = false := by simp; omega
  have n2 : (K % 12 == 2) = false := by simp; omega
  have n3 : (K % 12 == 3) = false := by simp; omega
  have n4 : (K % 12 == 4) = false := by simp; omega
  have n5 : (K % 12 == 5) = false := by simp; omega
  have n6 : (K % 12 == 6) = false := by simp; omega
  have n7 : (K % 12 == 7) = false := by simp; omega
  have n8 : (K % 12 == 8) = false := by simp; omega
  have n9 : (K % 12 == 9) = true := by simp; omega
  obtain ⟨v', w3, hrun, hP3, g3, a3, cp3, hv3⟩ := HU2.out.push 0 0 (.slice none 0 0) [] (World.grownBy.refl w2 none) (by omega) (TxG.nil _ _) (by omega)
  have HO := hide hP3
  have HB := hide (HB2.out.grown g3 (by omega) (fun k e => by have : g = k := (by simpa [Value.ownBlock] using e); omega))
  clear HU2 HB2 hP3 g3
  subst hv3
  go_wp2
  go_ret
  rw [HP.out, spoilK, if_neg (by omega), if_neg (by omega), if_neg (by omega), if_neg (by omega), if_neg (by omega), if_neg (by omega), if_neg (by omega), if_neg (by omega), if_neg (by omega), if_pos hk]
  exact ⟨_, rfl, HO.out.pi.rdP, HB.out⟩

end

set_option maxHeartbeats 2000000 in
set_option maxRecDepth 100000 in
theorem sp_10 (F : Nat) (v : Value) (zs : List Int) (hby : Bys zs) (hm : zs.length ≤ 4194304) (i : Nat) (w : World) (u : Value) (ps : List Pc) (hF : Rdr F w v i) (hv : RdB F w v zs) (hi : i ≤ zs.length) (hu : PoT (F + 1) w u ps) (hne : ps ≠ []) (hms : mes ps ≤ 3600 ∧ ∀ p ∈ ps, 0 ≤ p.n ∧ p.n ≤ 4) (hk : (nx zs i).1 % 12 = 10) :
    Calls Tryd.prog 33 #[u, .pointer (some ⟨F, 0, none⟩)] w fun e w' => Spoilt F w (spoilD zs ps i) e w' := by
  have hkb := nx_bd hby i
  have hl := nx_le hi
  have hFlt := hF.lt
  have hjb := nx_bd hby (nx zs i).2
  have hl2 := nx_le hl
  have hlen := mes_len ps
  have hpos : 0 < ps.length := by rcases ps with _ | ⟨a, b⟩ <;> simp_all
  have HN1 := hide (next_any F v zs i w hF hv hby hm hi)
  have HN2 : Hid (∀ W : World, Rdr F W v ((nx zs i).2 : Int) → RdB F W v zs → _) := fun W a b => next_any F v zs (nx zs i).2 W a b hby hm hl
  have HV := hide hv
  have HP : Hid (spoilD zs ps i = spoilK ps ((nx zs i).1 % 12) ((nx zs (nx zs i).2).1 % ps.length).toNat (nx zs (nx zs (nx zs i).2).2).1) := rfl
  generalize (nx zs (nx zs i).2).1 = J at *
  generalize (nx zs (nx zs i).2).2 = i2 at *
  generalize hkk : (nx zs i).1 = K at *
  generalize (nx zs i).2 = i1 at *
  obtain ⟨hk0, hk1⟩ := hkb
  obtain ⟨hj0, hj1⟩ := hjb
  obtain ⟨g, cap, hu0⟩ : ∃ g cap, u = .slice (some ⟨g, 0, none⟩) ps.length cap := by
    obtain ⟨tvs, ho, _⟩ := id hu
    rcases ho.2 with ⟨_, h0⟩ | ⟨g, cap, cur, h, _⟩
    · omega
    · exact ⟨g, cap, h⟩
  subst hu0
  have HU := hide hu
  have hgF : F + 1 ≤ g := (hu.lt g rfl).1
  have hlenZ : (0 : Int) < (ps.length : Int) := by omega
  have hjlt : (J % (ps.length : Int)).toNat < ps.length := by have := Int.emod_nonneg J (show (ps.length : Int) ≠ 0 by omega); have := Int.emod_lt_of_pos J hlenZ; omega
  have hjz0 : 0 ≤ J % (ps.length : Int) := Int.emod_nonneg J (by omega)
  have hjz1 : J % (ps.length : Int) < ps.length := Int.emod_lt_of_pos J hlenZ
  have hz0 : ((ps.length : Int) == 0) = false := by simp; omega
  obtain ⟨p, hp⟩ : ∃ p, ps[(J % (ps.length : Int)).toNat]? = some p := ⟨_, List.getElem?_eq_getElem hjlt⟩
  have hpn := hms.2 p (List.mem_of_getElem? hp)
  clear hv hF hu hkk
  go_enter Tryd.func33, Tryd.ntmps33
  go_wp2_with fail
  refine HN1.out.mono ?_
  rintro e w1 ⟨rfl, f1, g1⟩
  have HV1 := hide (HV.out.beside g1 (fun k e => by cases e; omega))
  have HN3 := hide (HN2.out w1 f1 HV1.out)
  clear HN1 HN2 f1
  go_wp2_with fail
  refine HN3.out.mono ?_
  rintro e w2 ⟨rfl, f2, g2⟩
  have HU2 := hide ((HU.out.beside g1 (fun k e => by cases e; omega)).beside g2 (fun k e => by cases e; omega))
  have HV2 := hide (HV1.out.beside g2 (fun k e => by cases e; omega))
  have hs1 := g1.size
  have hs2 := g2.size
  have HB2 := hide (((Below.refl F w).grown g1 (by omega) (fun k e => by cases e; omega)).grown g2 (by omega) (fun k e => by cases e; omega))
  clear HN3 HU HV HV1 g1 g2
  have n0 : (K % 12 == 0) = false := by simp; omega
  have n1 : (K % 12 == 1) = false := by simp; omega
  have n2 : (K % 12 == 2) = false := by simp; omega
  have n3 : (K % 12 == 3) = false := by simp; omega
  have n4 : (K % 12 == 4) = false := by simp; omega
  have n5 : (K % 12 == 5) = false := by simp; omega
  have n6 : (K % 12 == 6) = false := by simp; omega
  have n7 : (K % 12 == 7) = false := by simp; omega
  have n8 : (K % 12 == 8) = false := by simp; omega
  have n9 : (K % 12 == 9) = false := by simp; omega
  have n10 : (K % 12 == 10) = true := by simp; omega
  obtain ⟨tv, c0, c1, c2, cf, hT, _, _⟩ := HU2.out.cellsAt _ p hp
  have cf0 := cf ((J % (ps.length : Int)).toNat * 3)
  have cf2 := cf ((J % (ps.length : Int)).toNat * 3 + 2)
  clear hT
  have HO := hide (by have h := HU2.out.setN _ p hp (-1); rwa [List.length_set] at h)
  have HB := hide (HB2.out.setCell (p := ⟨g, (J % (ps.length : Int)).toNat * 3 + 2, none⟩) (by simp; omega) (.int .i64 (-1)))
  clear HU2 HB2
  go_wp2
  go_ret
  rw [HP.out, spoilK, if_neg (by omega), if_neg (by omega), if_neg (by omega), if_neg (by omega), if_neg (by omega), if_neg (by omega), if_neg (by omega), if_neg (by omega), if_neg (by omega), if_neg (by omega), if_pos hk]; rw [setP_at hp]
  exact ⟨_, rfl, HO.out.pi.rdP, HB.out⟩

set_option maxHeartbeats 2000000 in
set_option maxRecDepth 100000 in
theorem sp_rest (F : Nat) (v : Value) (zs : List Int) (hby : Bys zs) (hm : zs.length ≤ 4194304) (i : Nat) (w : World) (u : Value) (ps : List Pc) (hF : Rdr F w v i) (hv : RdB F w v zs) (hi : i ≤ zs.length) (hu : PoT (F + 1) w u ps) (hne : ps ≠ []) (hms : mes ps ≤ 3600 ∧ ∀ p ∈ ps, 0 ≤ p.n ∧ p.n ≤ 4) (hk : (nx zs i).1 % 12 = 11) :
    Calls Tryd.prog 33 #[u, .pointer (some ⟨F, 0, none⟩)] w fun e w' => Spoilt F w (spoilD zs ps i) e w' := by
  have hkb := nx_bd hby i
  have hl := nx_le hi
  have hFlt := hF.lt
  have hjb := nx_bd hby (nx zs i).2
  have hl2 := nx_le hl
  have hlen := mes_len ps
  have hpos : 0 < ps.length := by rcases ps with _ | ⟨a, b⟩ <;> simp_all
  have HN1 := hide (next_any F v zs i w hF hv hby hm hi)
  have HN2 : Hid (∀ W : World, Rdr F W v ((nx zs i).2 : Int) → RdB F W v zs → _) := fun W a b => next_any F v zs (nx zs i).2 W a b hby hm hl
  have HV := hide hv
  have HP : Hid (spoilD zs ps i = spoilK ps ((nx zs i).1 % 12) ((nx zs (nx zs i).2).1 % ps.length).toNat (nx zs (nx zs (nx zs i).2).2).1) := rfl
  generalize (nx zs (nx zs i).2).1 = J at *
  generalize (nx zs (nx zs i).2).2 = i2 at *
  generalize hkk : (nx zs i).1 = K at *
  generalize (nx zs i).2 = i1 at *
  obtain ⟨hk0, hk1⟩ := hkb
  obtain ⟨hj0, hj1⟩ := hjb
  obtain ⟨g, cap, hu0⟩ : ∃ g cap, u = .slice (some ⟨g, 0, none⟩) ps.length cap := by
    obtain ⟨tvs, ho, _⟩ := id hu
    rcases ho.2 with ⟨_, h0⟩ | ⟨g, cap, cur, h, _⟩
    · omega
    · exact ⟨g, cap, h⟩
  subst hu0
  have HU := hide hu
  have hgF : F + 1 ≤ g := (hu.lt g rfl).1
  have hlenZ : (0 : Int) < (ps.length : Int) := by omega
  have hjlt : (J % (ps.length : Int)).toNat < ps.length := by have := Int.emod_nonneg J (show (ps.length : Int) ≠ 0 by omega); have := Int.emod_lt_of_pos J hlenZ; omega
  have hjz0 : 0 ≤ J % (ps.length : Int) := Int.emod_nonneg J (by omega)
  have hjz1 : J % (ps.length : Int) < ps.length := Int.emod_lt_of_pos J hlenZ
  have hz0 : ((ps.length : Int) == 0) = false := by simp; omega
  obtain ⟨p, hp⟩ : ∃ p, ps[(J % (ps.length : Int)).toNat]? = some p := ⟨_, List.getElem?_eq_getElem hjlt⟩
  have hpn := hms.2 p (List.mem_of_getElem? hp)
  clear hv hF hu hkk
  go_enter Tryd.func33, Tryd.ntmps33
  go_wp2_with fail
  refine HN1.out.mono ?_
  rintro e w1 ⟨rfl, f1, g1⟩
  have HV1 := hide (HV.out.beside g1 (fun k e => by cases e; omega))
  have HN3 := hide (HN2.out w1 f1 HV1.out)
  clear HN1 HN2 f1
  go_wp2_with fail
  refine HN3.out.mono ?_
  rintro e w2 ⟨rfl, f2, g2⟩
  have HU2 := hide ((HU.out.beside g1 (fun k e => by cases e; omega)).beside g2 (fun k e => by cases e; omega))
  have HV2 := hide (HV1.out.beside g2 (fun k e => by cases e; omega))
  have hs1 := g1.size
  have hs2 := g2.size
  have HB2 := hide (((Below.refl F w).grown g1 (by omega) (fun k e => by cases e; omega)).grown g2 (by omega) (fun k e => by cases e; omega))
  clear HN3 HU HV HV1 g1 g2
  have n0 : (K % 12 == 0) = false := by simp; omega
  have n1 : (K % 12 == 1) = false := by simp; omega
  have n2 : (K % 12 == 2) = false := by simp; omega
  have n3 : (K % 12 == 3) = false := by simp; omega
  have n4 : (K % 12 == 4) = false := by simp; omega
  have n5 : (K % 12 == 5) = false := by simp; omega
  have n6 : (K % 12 == 6) = false := by simp; omega
  have n7 : (K % 12 == 7) = false := by simp; omega
  have n8 : (K % 12 == 8) = false := by simp; omega
  have n9 : (K % 12 == 9) = false := by simp; omega
  have n10 : (K % 12 == 10) = false := by simp; omega
  have HB := HB2
  clear HU2 HB2
  go_wp2
  go_ret
  rw [HP.out, spoilK, if_neg (by omega), if_neg (by omega), if_neg (by omega), if_neg (by omega), if_neg (by omega), if_neg (by omega), if_neg (by omega), if_neg (by omega), if_neg (by omega), if_neg (by omega), if_neg (by omega)]
  exact ⟨_, rfl, rdP_nil _ _, HB.out⟩

theorem l2spoil_any (F : Nat) (v : Value) (zs : List Int) (hby : Bys zs) (hm : zs.length ≤ 4194304) (i : Nat) (w : World) (u : Value) (ps : List Pc) (hF : Rdr F w v i) (hv : RdB F w v zs) (hi : i ≤ zs.length) (hu : PoT (F + 1) w u ps) (hne : ps ≠ []) (hms : mes ps ≤ 3600 ∧ ∀ p ∈ ps, 0 ≤ p.n ∧ p.n ≤ 4) :
    Calls Tryd.prog 33 #[u, .pointer (some ⟨F, 0, none⟩)] w fun e w' => Spoilt F w (spoilD zs ps i) e w' := by
  have hkb := nx_bd hby i
  have h : (nx zs i).1 % 12 = 0 ∨ (nx zs i).1 % 12 = 1 ∨ (nx zs i).1 % 12 = 2 ∨ (nx zs i).1 % 12 = 3 ∨ (nx zs i).1 % 12 = 4 ∨ (nx zs i).1 % 12 = 5 ∨ (nx zs i).1 % 12 = 6 ∨ (nx zs i).1 % 12 = 7 ∨ (nx zs i).1 % 12 = 8 ∨ (nx zs i).1 % 12 = 9 ∨ (nx zs i).1 % 12 = 10 ∨ (nx zs i).1 % 12 = 11 := by omega
  rcases h with h | h | h | h | h | h | h | h | h | h | h | h
  · exact sp_0 F v zs hby hm i w u ps hF hv hi hu hne hms h
  · exact sp_1 F v zs hby hm i w u ps hF hv hi hu hne hms h
  · exact sp_2 F v zs hby hm i w u ps hF hv hi hu hne hms h
  · exact sp_3 F v zs hby hm i w u ps hF hv hi hu hne hms h
  · exact sp_4 F v zs hby hm i w u ps hF hv hi hu hne hms h
  · exact sp_5 F v zs hby hm i w u ps hF hv hi hu hne hms h
  · exact sp_6 F v zs hby hm i w u ps hF hv hi hu hne hms h
  · exact sp_7 F v zs hby hm i w u ps hF hv hi hu hne hms h
  · exact sp_8 F v zs hby hm i w u ps hF hv hi hu hne hms h
  · exact sp_9 F v zs hby hm i w u ps hF hv hi hu hne hms h
  · exact sp_10 F v zs hby hm i w u ps hF hv hi hu hne hms h
  · exact sp_rest F v zs hby hm i w u ps hF hv hi hu hne hms h

end Go.Proofs.YtgmjpdejfdldlaaDoor

