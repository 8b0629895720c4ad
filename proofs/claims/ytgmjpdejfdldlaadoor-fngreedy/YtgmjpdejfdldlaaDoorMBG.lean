import Derived.Test.YtgmjpdejfdldlaaDoorMBF
namespace Go.Proofs.YtgmjpdejfdldlaaDoor
open Go.RowKit

/-- n rounds. -/
def gdN (zs : List Int) (s : List Pc × Nat) : Nat → List Pc × Nat
  | 0 => s
  | n + 1 => gdStep zs (gdN zs s n)
theorem gdMore_stop {zs : List Int} {s : List Pc × Nat} (h : ¬ s.2 + 2 < zs.length) : ∀ m, gdMore zs m s = s
  | 0 => rfl
  | m + 1 => by rw [gdMore, if_neg h]
theorem gdMore_step {zs : List Int} {s : List Pc × Nat} (m : Nat) (h : s.2 + 2 < zs.length) : gdMore zs (m + 1) s = gdMore zs m (gdStep zs s) := by rw [gdMore, if_pos h]

set_option maxHeartbeats 4000000 in
set_option maxRecDepth 100000 in
theorem l2drawGood_any (F : Nat) (v : Value) (zs : List Int) (hby : Bys zs) (hm : zs.length ≤ 4194304) (i : Nat) (w : World) (hF : Rdr F w v i) (hv : RdB F w v zs) (hi : i ≤ zs.length) :
    Calls Tryd.prog 32 #[.pointer (some ⟨F, 0, none⟩)] w fun e w' => Drawn F v w (gdGood zs i) e w' := by
  have hFlt := hF.lt
  have HV := hide hv
  have HD := hide (l2drawDoc_any F v zs hby hm 6 (by omega) i w hF hv hi)
  have hok := dDoc_ok zs 6 i hi
  have HP : Hid (gdGood zs i = gdMore zs 12 (dDoc zs 6 i)) := rfl
  generalize dDoc zs 6 i = s0 at *
  clear hv hF
  go_enter Tryd.func32, Tryd.ntmps32
  go_wp2_with fail
  refine HD.out.mono ?_
  rintro e w1 ⟨v1, rfl, o1, f1, g1⟩
  obtain ⟨oa, oc, hov, _⟩ := o1.sl
  subst hov
  clear HD
  go_wp2
  go_loopw [3, 4] (fun o t W => ∃ (n : Nat) (s : List Pc × Nat), n ≤ 12 ∧ t = .int .i64 n ∧ gdMore zs 12 s0 = gdMore zs (12 - n) s ∧ DOk zs (511 + 257 * n) s ∧ PoT w.heap.size W o s.1 ∧ Rdr F W v (s.2 : Int) ∧ w.grownBy W (some F))
    (fun _ t _ => 12 - (intOf t).toNat)
  case atStart => exact ⟨0, s0, by omega, rfl, rfl, by simpa using hok, o1, f1, g1⟩
  case round =>
    obtain ⟨n, s, hn, rfl, he, hk, ho, hf, hg⟩ := hrel
    by_cases h12 : n < 12
    · have hlt : (n : Int) < 12 := by omega
      have hl := hk.pl
      have HVr := hide (HV.out.beside hg (fun k e => by cases e; omega))
      have HL := hide (left_any F v zs s.2 wr hf HVr.out hm hl)
      by_cases h2 : s.2 + 2 < zs.length
      · have hgt : (2 : Int) < ((zs.length - s.2 : Nat) : Int) := by omega
        have HE := hide (show gdMore zs 12 s0 = gdMore zs (12 - (n + 1)) (gdStep zs s) by rw [he, show 12 - n = (12 - (n + 1)) + 1 by omega, gdMore_step _ h2])
        have HK := hide (gdStep_ok hk)
        have hms := hk.ms
        have HS : Hid (gdStep zs s = (gdPut ((nx zs (dDoc zs 5 s.2).2).1 % 8) (s.1 ++ (dDoc zs 5 s.2).1 ++ [⟨6, [], 0⟩]), (nx zs (dDoc zs 5 s.2).2).2)) := rfl
        have hmy := dDoc_mes zs 5 s.2 (by omega) hl
        have hok5 := dDoc_ok zs 5 s.2 hl
        have hnx := nx_le hok5.pl
        have hkb := nx_bd hby (dDoc zs 5 s.2).2
        have HO := hide ho
        obtain ⟨ba, bc, hbv, _⟩ := ho.sl
        subst hbv
        clear ho he hk
        go_wp2_with fail
        refine HL.out.mono ?_
        rintro e w2' ⟨nd, rfl, rfl⟩
        have gd : wr.grownBy (wr.drewN nd) none := grown_drewN (World.grownBy.refl _ _) nd
        have HO2 := hide (HO.out.keep gd)
        have HV2 := hide (HVr.out.keep gd)
        have f2 := hf.kept gd (by simp)
        have g2 := grown_trans hg (grown_rowD gd (some F))
        clear HL hf hg HO HVr gd
        generalize wr.drewN nd = w2 at *
        have HY := hide (l2drawDoc_any F v zs hby hm 5 (by omega) s.2 w2 f2 HV2.out hl)
        clear f2
        go_wp2_with fail
        refine HY.out.mono ?_
        rintro e w3 ⟨v3, rfl, o3, f3, g3⟩
        have s2 := g2.size
        have HB := hide (l2bin_any 6 _ v3 s.1 (dDoc zs 5 s.2).1 w.heap.size w3 (HO2.out.beside g3 (fun k e => by cases e; omega)).pi (o3.base s2).pi (by omega) (by omega) hok5.ne)
        have HV3 := hide (HV2.out.beside g3 (fun k e => by cases e; omega))
        obtain ⟨ca, cc, hcv, _⟩ := o3.sl
        subst hcv
        clear o3 HY HO2 HV2
        go_wp2_with fail
        refine HB.out.mono ?_
        rintro e w4 ⟨v4, rfl, o4, g4⟩
        have f4 := f3.kept g4 (by simp)
        have s3 := g3.size
        have HN := hide (next_any F v zs _ w4 f4 (HV3.out.keep g4) hby hm hok5.pl)
        have g5 := grown_trans (grown_trans g2 g3) (grown_rowD g4 (some F))
        have HO4 := hide (o4.base (Nat.le_trans s2 s3))
        obtain ⟨da, dc, hdv, _⟩ := o4.sl
        have hmb : mes (s.1 ++ (dDoc zs 5 s.2).1 ++ [⟨6, [], 0⟩]) ≤ 10000 := by simp only [mes_app, mes, List.length_nil]; omega
        generalize s.1 ++ (dDoc zs 5 s.2).1 ++ [⟨6, [], 0⟩] = D at *
        generalize (nx zs (dDoc zs 5 s.2).2).1 = k at *
        generalize (nx zs (dDoc zs 5 s.2).2).2 = j at *
        obtain ⟨hk0, hk1⟩ := hkb
        subst hdv
        clear o4 HB f3 f4 g4 g3 g2 HV3
        go_wp2_with fail
        refine HN.out.mono ?_
        rintro e w6 ⟨rfl, f6, g6⟩
        have HO6 := hide (HO4.out.beside g6 (fun k e => by cases e; omega))
        have G6 := hide (grown_trans g5 g6)
        have s6 := G6.out.size
        clear HN HO4
        by_cases hk8 : k % 8 = 0
        · have b0 : (k % 8 == 0) = true := by simpa using hk8
          have b1 : (k % 8 == 1) = false := by simp; omega
          have HU := hide (l2un_any 8 0 _ D _ w6 HO6.out.pi (by omega))
          have HS' : Hid (gdStep zs s = (D ++ [⟨8, [], 0⟩], j)) := by unfold Hid; rw [HS.out, gdPut, if_pos hk8]
          clear g5 g6 HO6
          go_wp2_with fail
          refine HU.out.mono ?_
          rintro e w7 ⟨v7, rfl, o7, g7⟩
          have HF7 := hide (f6.kept g7 (by simp))
          have G7 := hide (grown_trans G6.out (grown_rowD g7 (some F)))
          have HO7 := hide (o7.base s6)
          obtain ⟨ea, ec, hev, _⟩ := o7.sl
          generalize List.length _ = LL at hev
          subst hev
          clear o7 g7 HU f6
          go_wp2
          go_roundw
          case rel => exact ⟨n + 1, gdStep zs s, by omega, by go_num, HE.out, HK.out, by rw [HS'.out]; exact HO7.out, by rw [HS'.out]; exact HF7.out, G7.out⟩
          case measure => simp [intOf]; omega
        · have b0 : (k % 8 == 0) = false := by simp; omega
          by_cases hk81 : k % 8 = 1
          · have b1 : (k % 8 == 1) = true := by simpa using hk81
            have HU := hide (l2un_any 7 2 _ D _ w6 HO6.out.pi (by omega))
            have HS' : Hid (gdStep zs s = (D ++ [⟨7, [], 2⟩], j)) := by unfold Hid; rw [HS.out, gdPut, if_neg hk8, if_pos hk81]
            clear g5 g6 HO6
            go_wp2_with fail
            refine HU.out.mono ?_
            rintro e w7 ⟨v7, rfl, o7, g7⟩
            have HF7 := hide (f6.kept g7 (by simp))
            have G7 := hide (grown_trans G6.out (grown_rowD g7 (some F)))
            have HO7 := hide (o7.base s6)
            obtain ⟨ea, ec, hev, _⟩ := o7.sl
            generalize List.length _ = LL at hev
            subst hev
            clear o7 g7 HU f6
            go_wp2
            go_roundw
            case rel => exact ⟨n + 1, gdStep zs s, by omega, by go_num, HE.out, HK.out, by rw [HS'.out]; exact HO7.out, by rw [HS'.out]; exact HF7.out, G7.out⟩
            case measure => simp [intOf]; omega
          · have b1 : (k % 8 == 1) = false := by simp; omega
            have HS' : Hid (gdStep zs s = (D, j)) := by unfold Hid; rw [HS.out, gdPut, if_neg hk8, if_neg hk81]
            have HF6 := hide f6
            clear g5 g6 f6
            go_wp2
            go_roundw
            case rel => exact ⟨n + 1, gdStep zs s, by omega, by go_num, HE.out, HK.out, by rw [HS'.out]; exact HO6.out, by rw [HS'.out]; exact HF6.out, G6.out⟩
            case measure => simp [intOf]; omega
      · have hgt : ¬ (2 : Int) < ((zs.length - s.2 : Nat) : Int) := by omega
        have HE : Hid (gdGood zs i = s) := by unfold Hid; rw [HP.out, he, gdMore_stop h2]
        have HO := hide ho
        obtain ⟨ba, bc, hbv, _⟩ := ho.sl
        subst hbv
        clear ho he hk
        go_wp2_with fail
        refine HL.out.mono ?_
        rintro e w2' ⟨nd, rfl, rfl⟩
        have gd : wr.grownBy (wr.drewN nd) none := grown_drewN (World.grownBy.refl _ _) nd
        have HO2 := hide (HO.out.keep gd)
        have f2 := hide (hf.kept gd (by simp))
        have g2 := hide (grown_trans hg (grown_rowD gd (some F)))
        clear HL hf hg HO HVr gd
        go_wp2
        go_ret
        rw [HE.out]
        exact ⟨_, rfl, HO2.out, f2.out, g2.out⟩
    · have hlt : ¬ (n : Int) < 12 := by omega
      have hn12 : n = 12 := by omega
      have HE : Hid (gdGood zs i = s) := by unfold Hid; rw [HP.out, he, hn12]; rfl
      clear he
      have HO := hide ho
      obtain ⟨ba, bc, hbv, _⟩ := ho.sl
      subst hbv
      clear ho
      go_wp2
      go_ret
      rw [HE.out]
      exact ⟨_, rfl, HO.out, hf, hg⟩
end Go.Proofs.YtgmjpdejfdldlaaDoor

namespace Go.Proofs.YtgmjpdejfdldlaaDoor
open Go.RowKit

/-! A document of one's own is written to. -/

theorem pcCs_setk (k : Int) : ∀ (ps : List Pc) (tvs : List Value) (j : Nat) (p : Pc), tvs.length = ps.length → ps[j]? = some p → (pcCs ps tvs).set (j * 3) (.int .i64 k) = pcCs (ps.set j ⟨k, p.t, p.n⟩) tvs
  | p0 :: ps, t0 :: tvs, 0, p, _, hp => by simp at hp; subst hp; simp [pcCs, pcC]
  | p0 :: ps, t0 :: tvs, j + 1, p, hl, hp => by
    simp only [List.length_cons, Nat.add_right_cancel_iff] at hl
    have := pcCs_setk k ps tvs j p hl (by simpa using hp)
    rw [show (j + 1) * 3 = j * 3 + 3 by omega]
    simp only [List.set_cons_succ, pcCs, pcC, List.cons_append, List.nil_append, this]
  | [], _, _, _, _, hp => by simp at hp
  | _ :: _, [], _, _, hl, _ => by simp at hl
theorem pcCs_setn (n : Int) : ∀ (ps : List Pc) (tvs : List Value) (j : Nat) (p : Pc), tvs.length = ps.length → ps[j]? = some p → (pcCs ps tvs).set (j * 3 + 2) (.int .i64 n) = pcCs (ps.set j ⟨p.k, p.t, n⟩) tvs
  | p0 :: ps, t0 :: tvs, 0, p, _, hp => by simp at hp; subst hp; simp [pcCs, pcC]
  | p0 :: ps, t0 :: tvs, j + 1, p, hl, hp => by
    simp only [List.length_cons, Nat.add_right_cancel_iff] at hl
    have := pcCs_setn n ps tvs j p hl (by simpa using hp)
    rw [show (j + 1) * 3 + 2 = (j * 3 + 2) + 3 by omega]
    simp only [List.set_cons_succ, pcCs, pcC, List.cons_append, List.nil_append, this]
  | [], _, _, _, _, hp => by simp at hp
  | _ :: _, [], _, _, hl, _ => by simp at hl
theorem pcCs_sett (t : List Int) (tv : Value) : ∀ (ps : List Pc) (tvs : List Value) (j : Nat) (p : Pc), tvs.length = ps.length → ps[j]? = some p → (pcCs ps tvs).set (j * 3 + 1) tv = pcCs (ps.set j ⟨p.k, t, p.n⟩) (tvs.set j tv)
  | p0 :: ps, t0 :: tvs, 0, p, _, hp => by simp at hp; subst hp; simp [pcCs, pcC]
  | p0 :: ps, t0 :: tvs, j + 1, p, hl, hp => by
    simp only [List.length_cons, Nat.add_right_cancel_iff] at hl
    have := pcCs_sett t tv ps tvs j p hl (by simpa using hp)
    rw [show (j + 1) * 3 + 1 = (j * 3 + 1) + 3 by omega]
    simp only [List.set_cons_succ, pcCs, pcC, List.cons_append, List.nil_append, this]
  | [], _, _, _, _, hp => by simp at hp
  | _ :: _, [], _, _, hl, _ => by simp at hl

theorem TxT.same {B : Nat} {w w' : World} {r : Option Nat} {ps ps' : List Pc} {tvs : List Value} (h : TxT B w r ps tvs) (hg : w.grownBy w' r) (hl : ps'.length = ps.length) (ht : ∀ (j : Nat) (p' : Pc), ps'[j]? = some p' → ∃ p, ps[j]? = some p ∧ p.t = p'.t) : TxT B w' r ps' tvs := by
  refine ⟨by rw [hl]; exact h.len, fun j p' tv hp' htv => ?_, h.apt⟩
  obtain ⟨p, hp, e⟩ := ht j p' hp'
  obtain ⟨h1, h2⟩ := h.own j p tv hp htv
  rw [← e]
  exact ⟨h1.kept hg h2, h2⟩
theorem set_same_t {ps : List Pc} {j : Nat} {p q : Pc} (hp : ps[j]? = some p) (hq : q.t = p.t) : ∀ (i : Nat) (p' : Pc), (ps.set j q)[i]? = some p' → ∃ p, ps[i]? = some p ∧ p.t = p'.t := fun i p' h => by
  rw [List.getElem?_set] at h
  split at h
  · rename_i e
    subst e
    split at h
    · cases h; exact ⟨p, hp, hq.symm⟩
    · cases h
  · exact ⟨p', h, rfl⟩
theorem PoT.setK {B : Nat} {w : World} {g cap : Nat} {ps : List Pc} (h : PoT B w (.slice (some ⟨g, 0, none⟩) ps.length cap) ps) (j : Nat) (p : Pc) (hp : ps[j]? = some p) (k : Int) :
    PoT B (w.setCell ⟨g, j * 3, none⟩ (.int .i64 k)) (.slice (some ⟨g, 0, none⟩) (ps.set j ⟨k, p.t, p.n⟩).length cap) (ps.set j ⟨k, p.t, p.n⟩) := by
  obtain ⟨tvs, ho, ht⟩ := h
  obtain ⟨h1, h2⟩ := World.ownsRow.stored ho (j * 3) (.int .i64 k)
  rw [pcCs_setk k ps tvs j p ht.len hp] at h1
  exact ⟨tvs, by rw [List.length_set]; exact h1, by rw [List.length_set]; exact ht.same h2 (by simp) (set_same_t hp rfl)⟩
theorem PoT.setN {B : Nat} {w : World} {g cap : Nat} {ps : List Pc} (h : PoT B w (.slice (some ⟨g, 0, none⟩) ps.length cap) ps) (j : Nat) (p : Pc) (hp : ps[j]? = some p) (n : Int) :
    PoT B (w.setCell ⟨g, j * 3 + 2, none⟩ (.int .i64 n)) (.slice (some ⟨g, 0, none⟩) (ps.set j ⟨p.k, p.t, n⟩).length cap) (ps.set j ⟨p.k, p.t, n⟩) := by
  obtain ⟨tvs, ho, ht⟩ := h
  obtain ⟨h1, h2⟩ := World.ownsRow.stored ho (j * 3 + 2) (.int .i64 n)
  rw [pcCs_setn n ps tvs j p ht.len hp] at h1
  exact ⟨tvs, by rw [List.length_set]; exact h1, by rw [List.length_set]; exact ht.same h2 (by simp) (set_same_t hp rfl)⟩
/-- The cells of an element. -/
theorem PoT.cellsAt {B : Nat} {w : World} {g cap : Nat} {ps : List Pc} (h : PoT B w (.slice (some ⟨g, 0, none⟩) ps.length cap) ps) (j : Nat) (p : Pc) (hp : ps[j]? = some p) :
    ∃ tv, w.cell? ⟨g, j * 3, none⟩ = some (.int .i64 p.k) ∧ w.cell? ⟨g, j * 3 + 1, none⟩ = some tv ∧ w.cell? ⟨g, j * 3 + 2, none⟩ = some (.int .i64 p.n) ∧ (∀ o, w.frozen? ⟨g, o, none⟩ = false) ∧ TxG B w tv p.t ∧
      (∀ (w1 : World) (tv' : Value) (t : List Int), w.grownBy w1 tv.ownBlock → TxG B w1 tv' t → (∀ x, tv'.ownBlock = some x → tv.ownBlock = some x ∨ w.heap.size ≤ x) → PoT B (w1.setCell ⟨g, j * 3 + 1, none⟩ tv') (.slice (some ⟨g, 0, none⟩) (ps.set j ⟨p.k, t, p.n⟩).length cap) (ps.set j ⟨p.k, t, p.n⟩)) ∧ (∀ x, tv.ownBlock = some x → x ≠ g) := by
  have hlt := h.lt g rfl
  obtain ⟨tvs, ho, ht⟩ := h
  have hj := (List.getElem?_eq_some_iff.1 hp).1
  have hl := ht.len
  obtain ⟨tv, htv⟩ : ∃ tv, tvs[j]? = some tv := ⟨tvs[j]'(by omega), List.getElem?_eq_getElem (by omega)⟩
  obtain ⟨h1, h2, h3⟩ := pcCs_at ps tvs j p tv hp htv
  obtain ⟨k1, k2⟩ := ht.own j p tv hp htv
  have hne : ∀ x, tv.ownBlock = some x → x ≠ g := fun x e e' => k2 x e (by rw [e']; rfl)
  refine ⟨tv, by rw [World.ownsRow.cellAt ho (j * 3) (by omega)]; exact h1, by rw [World.ownsRow.cellAt ho (j * 3 + 1) (by omega)]; exact h2, by rw [World.ownsRow.cellAt ho (j * 3 + 2) (by omega)]; exact h3, fun o => World.ownsRow.frozenAt ho o, k1, fun w1 tv' t g1 T1 hb => ?_, hne⟩
  have ho1 := World.ownsRow.kept ho g1 (.inr fun e => hne g e.symm rfl)
  obtain ⟨s1, s2⟩ := World.ownsRow.stored ho1 (j * 3 + 1) tv'
  rw [pcCs_sett t tv' ps tvs j p ht.len hp] at s1
  have hg' : ∀ x, tv'.ownBlock = some x → x ≠ g := fun x e => by
    rcases hb x e with h | h
    · exact hne x h
    · omega
  have hap := List.pairwise_iff_getElem.1 ht.apt
  refine ⟨tvs.set j tv', by rw [List.length_set]; exact s1, ?_⟩
  rw [List.length_set]
  refine ⟨by simp [hl], fun i q u hq hu => ?_, ?_⟩
  · rw [List.getElem?_set] at hq hu
    by_cases e : j = i
    · subst e
      rw [if_pos rfl, if_pos hj] at hq
      rw [if_pos rfl, if_pos (by omega)] at hu
      cases hq
      cases hu
      exact ⟨T1.kept s2 (fun x e h => hg' x e (by cases h; rfl)), fun x e h => hg' x e (by cases h; rfl)⟩
    · rw [if_neg e] at hq hu
      obtain ⟨m1, m2⟩ := ht.own i q u hq hu
      have hi : i < tvs.length := (List.getElem?_eq_some_iff.1 hu).1
      have hui : tvs[i] = u := (List.getElem?_eq_some_iff.1 hu).2
      have hti : tvs[j]'(by omega) = tv := (List.getElem?_eq_some_iff.1 htv).2
      refine ⟨(m1.kept g1 (fun x ex h => ?_)).kept s2 (fun x e h => m2 x e (by rw [h]; rfl)), m2⟩
      rcases Nat.lt_or_gt_of_ne e with hlt | hlt
      · have := hap j i (by omega) hi hlt
        rw [hui, hti] at this
        exact this x h.symm ex
      · have := hap i j hi (by omega) hlt
        rw [hui, hti] at this
        exact this x ex h.symm
  · unfold AptT
    rw [List.pairwise_iff_getElem]
    intro a b ha hb' hab x e1 e2
    rw [List.length_set] at ha hb'
    have hold : ∀ (i : Nat) (hi : i < tvs.length) (x : Nat), j ≠ i → tvs[i].ownBlock = some x → tv'.ownBlock ≠ some x := fun i hi x hji ei et => by
      have hti : tvs[j]'(by omega) = tv := (List.getElem?_eq_some_iff.1 htv).2
      have hlt2 := ((ht.own i (ps[i]'(by omega)) tvs[i] (by simp [show i < ps.length by omega]) (by simp [hi])).1.lt x ei).2
      rcases hb x et with h | h
      · rcases Nat.lt_or_gt_of_ne hji with hlt | hlt
        · have := hap j i (by omega) hi hlt
          rw [hti] at this
          exact this x h ei
        · have := hap i j hi (by omega) hlt
          rw [hti] at this
          exact this x ei h
      · omega
    rw [List.getElem_set] at e1 e2
    by_cases ea : j = a
    · rw [if_pos ea] at e1
      rw [if_neg (by omega)] at e2
      exact hold b hb' x (by omega) e2 e1
    · rw [if_neg ea] at e1
      by_cases eb : j = b
      · rw [if_pos eb] at e2
        exact hold a ha x ea e1 e2
      · rw [if_neg eb] at e2
        exact hap a b ha hb' hab x e1 e2

/-- 'append(t, z)'. -/
theorem appG {B : Nat} {w : World} {tv : Value} {t : List Int} {c : Nat} {z : Int} (h : TxG B w tv t) (hB : B ≤ w.heap.size) (hc : w.cell? ⟨c, 0, none⟩ = some (.int .u8 z)) (hcl : c < w.heap.size) (hn : t.length ≤ 1000000) :
    ∃ v' w', (Builtin.append_ #[22, 22] 22 #[tv, .slice (some ⟨c, 0, none⟩) 1 1]).run Tryd.prog w = .ok v' w' ∧ TxG B w' v' (t ++ [z]) ∧ w.grownBy w' tv.ownBlock ∧ (∀ x, v'.ownBlock = some x → tv.ownBlock = some x ∨ w.heap.size ≤ x) ∧ ∃ a cap, v' = .slice a (t.length + 1) cap := by
  obtain ⟨i0, hi, hz0, hz1, hz2⟩ := info_parts info5
  have hrd : Rd .u8 w.heap.size w (.slice (some ⟨c, 0, none⟩) 1 1) [z] := ⟨_, 1, rfl, fun _ => ⟨c, 0, rfl, hcl, fun j hj => by
    match j, hj with
    | 0, _ => exact hc
    | j + 1, hj => simp at hj⟩⟩
  have hnews : ∀ j u, ([Value.int .u8 z] : List Value)[j]? = some u → w.cell? ((⟨c, 0, none⟩ : Addr).add j) = some u := by
    intro j u hj
    rw [Addr.add_lit, Nat.zero_add]
    match j, hj with
    | 0, hj => simp at hj; subst hj; exact hc
    | j + 1, hj => simp at hj
  rcases h with ⟨rfl, rfl⟩ | ⟨g, cap, arr, mk, rfl, h1, h2, h3, h4, h5, h6, h7⟩
  · obtain ⟨v', w', e1, e2, e3, e4⟩ := append_bytes B w.heap.size w (.slice none 0 0) (.slice (some ⟨c, 0, none⟩) 1 1) [] [z] ⟨by simp, .inl ⟨rfl, rfl⟩⟩ hrd hB (by simp)
    obtain ⟨a, cap, e5, _⟩ := e2.sl
    refine ⟨v', w', e1, TxG.of_ow e2, e3, fun x hx => ?_, a, cap, by simpa using e5⟩
    rcases e4 with e | e
    · rw [e] at hx; cases hx
    · rw [e] at hx; cases hx; exact .inr (Nat.le_refl _)
  · have hgl : g < w.heap.size := (Array.getElem?_eq_some_iff.1 h2).1
    by_cases hroom : t.length + 1 ≤ cap
    · have hr := run_append_room_cells (P := Tryd.prog) w 22 22 5 i0 Tryd.underlying22 hi g 0 t.length cap ⟨c, 0, none⟩ 1 1 [.int .u8 z] (by rw [hz1]; rfl) hnews (by intro u hu; simp at hu; subst hu; rfl) hroom
        (by
          intro j hj
          simp at hj
          subst hj
          rw [hz1, show 0 + t.length * 1 + 0 = t.length by omega, cell_of_row w g t.length _ _ _ h2]
          rw [Array.getElem?_eq_getElem (by omega)]
          rfl)
        (by
          intro j hj
          simp at hj
          subst hj
          rw [hz1, show 0 + t.length * 1 + 0 = t.length by omega]
          simp only [World.frozen?, h2]
          rcases h6 with rfl | rfl
          · simp
          · simp; omega)
      rw [hz1, show 0 + t.length * 1 = t.length by omega] at hr
      refine ⟨_, _, hr, .inr ⟨g, cap, arr.setIfInBounds t.length (.int .u8 z), mk, by simp, h1, ?_, by simpa using h3, by simpa using hroom, h5, h6, fun j hj => ?_⟩, ?_, fun x hx => .inl hx, _, _, rfl⟩
      · show (w.setCell ⟨g, t.length, none⟩ (.int .u8 z)).heap[g]? = _
        rw [setCell_eq_setRow w g t.length arr 5 _ _ h2]
        exact setRow_heap w g arr _ 5 _ h2
      · rw [List.length_append] at hj
        simp only [List.length_cons, List.length_nil] at hj
        rw [Array.getElem?_setIfInBounds]
        by_cases e : t.length = j
        · subst e
          rw [if_pos rfl, if_pos (by omega)]
          simp
        · rw [if_neg e, h7 j (by omega), List.getElem?_append_left (by omega)]
      · exact ⟨rfl, rfl, rfl, by show w.heap.size ≤ (w.setCell _ _).heap.size; simp, fun k _ hk => heap_setCell_other w ⟨g, t.length, none⟩ k _ (fun e => hk (by simp [Value.ownBlock, e]))⟩
    · obtain ⟨v', w', e1, e2, e3⟩ := run_append_arg_grows (P := Tryd.prog) w 22 22 5 i0 (.int .u8 0) 1 1 Tryd.underlying22 hi hz0 hz1 hz2 rfl (by decide) ⟨g, 0, none⟩ t.length cap (t.map (Value.int .u8)) (by simp)
        (fun j u hj => by
          have hjl : j < t.length := by have := (List.getElem?_eq_some_iff.1 hj).1; simpa using this
          rw [Addr.add_lit, Nat.zero_add, cell_of_row w g j _ _ _ h2, h7 j hjl]
          simpa [hjl] using hj)
        ⟨c, 0, none⟩ 1 1 [.int .u8 z] rfl hnews (by omega) (by unfold maxLen; omega) (by omega)
      have ho : Ow .u8 5 w.heap.size w' v' (t ++ [z]) := by unfold Ow; simpa using e2
      obtain ⟨a, cp, e5, _⟩ := ho.sl
      refine ⟨v', w', e1, (TxG.of_ow ho).base hB, grown_rowD e3 _, fun x hx => ?_, a, cp, by simpa using e5⟩
      exact .inr (World.ownsRow.lt ho x hx).1

end Go.Proofs.YtgmjpdejfdldlaaDoor

