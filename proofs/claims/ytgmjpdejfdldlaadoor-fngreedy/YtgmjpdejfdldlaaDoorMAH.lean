import Derived.Test.YtgmjpdejfdldlaaDoorMAF
import Derived.Test.YtgmjpdejfdldlaaDoorMAG
namespace Go.Proofs.YtgmjpdejfdldlaaDoor
open Go.RowKit

/-- What the law knows of its argument. -/
structure Doc (doc : List Pc) : Prop where
  len : doc.length ≤ 1048576
  tlen : ∀ p ∈ doc, p.t.length ≤ 1048576
  sum : sumT doc ≤ 1048576
  bys : ∀ p ∈ doc, Bys p.t

theorem sumT_snoc : ∀ (doc : List Pc) (k : Nat) (hk : k < doc.length), sumT (doc.take (k + 1)) = sumT (doc.take k) + doc[k].t.length
  | p :: ps, 0, _ => by simp [sumT]
  | p :: ps, k + 1, hk => by
    have := sumT_snoc ps k (by simpa using hk)
    simp only [List.take_succ_cons, sumT, this, List.getElem_cons_succ]
    omega
theorem sumT_take : ∀ (doc : List Pc) (k : Nat), 0 ≤ sumT (doc.take k) ∧ sumT (doc.take k) ≤ sumT doc
  | [], k => by simp [sumT]
  | p :: ps, 0 => by
    have := (sumT_take ps 0)
    have h0 : ∀ qs : List Pc, 0 ≤ sumT qs := by
      intro qs
      induction qs with
      | nil => simp [sumT]
      | cons q qs ih => simp only [sumT]; omega
    have := h0 ps
    simp only [List.take_zero, sumT]
    omega
  | p :: ps, k + 1 => by
    have := (sumT_take ps k)
    simp only [List.take_succ_cons, sumT]
    omega
theorem allOK_snoc (doc : List Pc) (k : Nat) (hk : k < doc.length) (h : (doc.take k).all pcOK = true) (hp : pcOK doc[k] = true) : (doc.take (k + 1)).all pcOK = true := by
  rw [List.take_add_one, List.all_append, h]; simp [hk, hp]
theorem allOK_not (doc : List Pc) (k : Nat) (hk : k < doc.length) (hp : pcOK doc[k] = false) : doc.all pcOK = false := by
  rw [List.all_eq_false]; exact ⟨doc[k], List.getElem_mem hk, by simp [hp]⟩

set_option maxHeartbeats 2000000 in
set_option maxRecDepth 100000 in
theorem specValid_any (v : Value) (doc : List Pc) (w : World) (hv : RdP w.heap.size w v doc) (hd : Doc doc) :
    Calls Tryd.prog 18 #[v] w fun e w' => e = .returned (.bool (specV doc)) ∧ w.grownBy w' none := by
  obtain ⟨a, cap, hv0, hcap, hmax, _⟩ := id hv
  have hl := hd.len
  by_cases h1 : doc.length < 1
  · have HF : Hid (specV doc = false) := by
      unfold Hid specV
      rw [show decide (1 ≤ doc.length ∧ doc.length ≤ 40000) = false by simp; omega]; rfl
    subst hv0
    clear hv
    go_enter Tryd.func18, Tryd.ntmps18
    go_wp2
    go_ret
    exact ⟨by rw [HF.out]; rfl, World.grownBy.refl _ _⟩
  by_cases h4 : doc.length > 40000
  · have HF : Hid (specV doc = false) := by
      unfold Hid specV
      rw [show decide (1 ≤ doc.length ∧ doc.length ≤ 40000) = false by simp; omega]; rfl
    subst hv0
    clear hv
    go_enter Tryd.func18, Tryd.ntmps18
    go_wp2
    go_ret
    exact ⟨by rw [HF.out]; rfl, World.grownBy.refl _ _⟩
  have h0 : doc ≠ [] := fun e => by rw [e] at h1; simp at h1
  have HN : Hid (doc ≠ []) := h0
  have HLen : Hid (decide (1 ≤ doc.length ∧ doc.length ≤ 40000) = true) := by unfold Hid; simp; omega
  clear h0
  subst hv0
  go_enter Tryd.func18, Tryd.ntmps18
  go_wp2
  go_loopw [3, 4] (fun bv i wr => ∃ (k : Nat) (s : Int), k ≤ doc.length ∧ i = .int .i64 k ∧ bv = .int .i64 s ∧ Hid (s = sumT (doc.take k)) ∧ Hid ((doc.take k).all pcOK = true) ∧ w.grownBy wr none)
    (fun _ i _ => doc.length - (intOf i).toNat)
  case atStart => exact ⟨0, 0, Nat.zero_le _, rfl, rfl, rfl, rfl, World.grownBy.refl _ _⟩
  case round =>
    obtain ⟨k, s, hk, rfl, rfl, HS, HA, hgr⟩ := hrel
    have hs0 : 0 ≤ s := by rw [HS.out]; exact (sumT_take doc k).1
    have hs1 : s ≤ 1048576 := by rw [HS.out]; have := (sumT_take doc k).2; have := hd.sum; omega
    by_cases hlt : k < doc.length
    · obtain ⟨b, off, cap', tv, hva, hb, hp⟩ := (hv.keep hgr).at k hlt
      cases hva
      have hk0 := hp.k; have ht0 := hp.t; have hn0 := hp.n
      have hmem := List.getElem_mem hlt
      have hpt := hd.tlen _ hmem
      have hsn := sumT_snoc doc k hlt
      rw [← HS.out] at hsn
      have hsn1 : s + doc[k].t.length ≤ 1048576 := by rw [← hsn]; have := (sumT_take doc (k + 1)).2; have := hd.sum; omega
      have HS2 : Hid (s + doc[k].t.length = sumT (doc.take (k + 1))) := hsn.symm
      have hok := l2pieceOK_any doc[k] tv wr (hp.rd.wide hgr.size) (hd.bys _ hmem) hpt
      obtain ⟨ta, tcap, htv, _, _⟩ := hp.sl
      subst htv
      have HA1 : pcOK doc[k] = true → Hid ((doc.take (k + 1)).all pcOK = true) := allOK_snoc doc k hlt HA.out
      have HA2 : pcOK doc[k] = false → Hid (specV doc = false) := fun h => by unfold Hid specV; rw [allOK_not doc k hlt h]; simp
      clear hsn hp hmem HS HA hv
      generalize doc[k] = p at *
      cases hpk : pcOK p with
      | true =>
        have HA3 := HA1 hpk
        rw [hpk] at hok
        clear HA1 HA2 hpk
        go_wp2_with fail
        refine hok.mono ?_
        rintro e w1 ⟨rfl, g1⟩
        go_wp2
        go_roundw
        case rel => exact ⟨k + 1, s + p.t.length, by omega, by go_num, by go_num, HS2, HA3, grown_trans hgr g1⟩
        case measure => simp [intOf]; omega
      | false =>
        have HA3 := HA2 hpk
        rw [hpk] at hok
        clear HA1 HA2 hpk
        go_wp2_with fail
        refine hok.mono ?_
        rintro e w1 ⟨rfl, g1⟩
        go_wp2
        go_ret
        exact ⟨by rw [HA3.out]; rfl, grown_trans hgr g1⟩
    · have hkn : k = doc.length := by omega
      have HS1 : Hid (s = sumT doc) := by unfold Hid; rw [HS.out, hkn, List.take_length]
      have HA1 : Hid (doc.all pcOK = true) := by unfold Hid; have := HA.out; rw [hkn, List.take_length] at this; exact this
      have hst := l2starts_any _ doc wr ((hv.keep hgr).wide hgr.size) hl
      have hso := starts_ok doc HN.out
      have HV : Hid (RdP wr.heap.size wr (.slice a doc.length cap) doc) := (hv.keep hgr).wide hgr.size
      clear HS HA hv
      by_cases hbig : s > 100000
      · have HF : Hid (specV doc = false) := by
          unfold Hid specV
          rw [show decide (sumT doc ≤ 100000) = false by rw [← HS1.out]; simp; omega]; simp
        clear hso
        go_wp2_with fail
        refine hst.mono ?_
        rintro e w1 ⟨sv, rfl, o1, g1⟩
        obtain ⟨sa, scap, hsv, _, _⟩ := row_form o1
        subst hsv
        go_wp2
        go_ret
        exact ⟨by rw [HF.out]; rfl, grown_trans hgr g1⟩
      · rcases hso with ⟨hsl, T, hbd, hseg⟩ | ⟨hsl, hno⟩
        · have hokN := bd_okN doc [] [T] HA1.out (fun x hx => by cases hx) hbd T (by simp)
          have HF : Hid (specV doc = decide (nestS T ≤ 4000)) := by
            unfold Hid specV
            rw [HLen.out, HA1.out, hsl, hbd, show decide (sumT doc ≤ 100000) = true by rw [← HS1.out]; simp; omega]; simp
          have HSeg : Hid (Seg doc (startsOf doc) T 0 doc.length) := hseg
          have hbdT := nestS_bd T hokN
          have hne : (((startsOf doc).length : Int) != (doc.length : Int)) = false := by rw [hsl]; simp
          have HN2 : Hid (okN T) := hokN
          have hsl2 : (startsOf doc).length ≤ 1048576 := by omega
          clear hseg hbd hokN hsl
          go_wp2_with fail
          refine hst.mono ?_
          rintro e w1 ⟨sv, rfl, o1, g1⟩
          have hnest := l2nested_any (.slice a doc.length cap) sv w1.heap.size doc (startsOf doc) hl T 0 doc.length HSeg.out HN2.out w1 ((HV.out.keep g1).wide g1.size) o1.rd
          obtain ⟨sa, scap, hsv, _, _⟩ := row_form o1
          subst hsv
          generalize nestS T = nt at *
          clear o1 HV
          go_wp2_with fail
          refine hnest.mono ?_
          rintro e w2 ⟨rfl, g2⟩
          go_wp2
          go_ret
          exact ⟨by rw [HF.out]; rfl, grown_trans hgr (grown_trans g1 g2)⟩
        · have HF : Hid (specV doc = false) := by
            unfold Hid specV
            rw [show decide ((startsOf doc).length = doc.length) = false by simp [hsl]]; simp
          have hne : (((startsOf doc).length : Int) != (doc.length : Int)) = true := by simp; omega
          have hstl : (startsOf doc).length ≤ 1048576 := by
            unfold startsOf
            split
            · have := (stGo_len doc 0 [] []).2; simp at this; omega
            · simp
          clear hno hsl
          go_wp2_with fail
          refine hst.mono ?_
          rintro e w1 ⟨sv, rfl, o1, g1⟩
          obtain ⟨sa, scap, hsv, _, _⟩ := row_form o1
          subst hsv
          go_wp2
          go_ret
          exact ⟨by rw [HF.out]; rfl, grown_trans hgr g1⟩

end Go.Proofs.YtgmjpdejfdldlaaDoor

namespace Go.Proofs.YtgmjpdejfdldlaaDoor
open Go.RowKit

set_option maxHeartbeats 1000000 in
set_option maxRecDepth 100000 in
theorem l3groups_any (v : Value) (doc : List Pc) (w : World) (hv : RdP w.heap.size w v doc) (hn : doc.length ≤ 1048576) :
    Calls Tryd.prog 37 #[v] w fun e w' => ∃ v', e = .returned v' ∧ OwI w.heap.size w' v' (grps doc doc.length) ∧ w.grownBy w' none := by
  obtain ⟨i0, hi, hz0, hz1, hz2⟩ := info_parts info3
  obtain ⟨a, cap, hv0, _⟩ := id hv
  subst hv0
  go_enter Tryd.func37, Tryd.ntmps37
  go_wp2
  go_loopw [3, 4] (fun ov i wr => ∃ k : Nat, k ≤ doc.length ∧ i = .int .i64 k ∧ OwI w.heap.size wr ov (grps doc k) ∧ Below w.heap.size w wr)
    (fun _ i _ => doc.length - (intOf i).toNat)
  case atStart =>
    refine ⟨0, Nat.zero_le _, rfl, ?_, (Below.refl _ _).alloc (Nat.le_refl _) _⟩
    have := World.ownsRow_lit (base := w.heap.size) (e := 3) (size := 1) w #[.int .i64 0] 1 (Nat.le_refl _) (by unfold maxLen; omega) (by simp)
    simpa [OwI, Ow, grps, grp_zero] using this
  case round =>
    obtain ⟨k, hk, rfl, hO, hbel⟩ := hrel
    have hgl := grps_len doc k
    have hbs := hbel.size
    by_cases hlt : k < doc.length
    · obtain ⟨b, off, cap', tv, hva, hb, hp⟩ := (hv.keep (grown_of_below hbel)).at k hlt
      cases hva
      have hk0 := hp.k
      rcases hO.2 with ⟨_, h0⟩ | ⟨g, cp, cur, hov, hbg, hg, hnc, hcm, hcs, ht⟩
      · rw [hgl] at h0; omega
      subst hov
      have hc := World.ownsRow.cellAt hO k (by omega)
      rw [List.getElem?_map, grps_at doc k k (Nat.le_refl _)] at hc
      simp only [Option.map_some] at hc
      have hsn := grps_snoc doc k
      rw [grp_succ doc k hlt] at hsn
      have hle := grp_le doc k
      unfold maxLen at hcm
      have hgl2 : (grps doc k).length ≤ k + 1 := Nat.le_of_eq hgl
      have hgl3 : k < (grps doc k).length := by omega
      clear hv hp hg hcs ht hgl
      by_cases h8 : doc[k].k = 8
      · have q8 : (doc[k].k == 8) = true := by rw [h8]; rfl
        rw [if_pos h8] at hsn
        have HS : Hid (grps doc (k + 1) = grps doc k ++ [(grp doc k : Int) + 1]) := by unfold Hid; rw [hsn]; simp
        clear hsn h8
        generalize doc[k].k = kk at *
        generalize grp doc k = gk at *
        generalize grps doc k = gs at *
        go_wp2_with (at_builtin; refine wpList_append_own _ rfl _ _ 26 rfl w.heap.size 3 i0 (.int .i64 0) 1 8 Tryd.underlying26 hi hz0 hz1 hz2 rfl (by decide) _ _ _ rfl (World.ownsRow.alloc hO _) ⟨wr.heap.size, 0, none⟩ 1 1 [.int .i64 ((gk : Int) + 1)] rfl rfl (cell_one_new _ _ _) (by intro u hu; simp at hu; subst hu; rfl) (by unfold maxLen; omega) (by omega) (by simp; omega) ?_; intro v' w1 hown' hgrow _)
        obtain ⟨O2, B2⟩ := own_app (q := .i64) (xs := [(gk : Int) + 1]) _ hbs hO hown' (by simp) hgrow
        clear hown' hgrow hO
        go_roundw
        case rel => exact ⟨k + 1, by omega, by go_num, by rw [HS.out]; exact O2, hbel.trans B2⟩
        case measure => simp [intOf]; omega
      · have q8 : (doc[k].k == 8) = false := by simpa using h8
        rw [if_neg h8] at hsn
        have HS : Hid (grps doc (k + 1) = grps doc k ++ [(grp doc k : Int)]) := by unfold Hid; rw [hsn]; simp
        clear hsn h8
        generalize doc[k].k = kk at *
        generalize grp doc k = gk at *
        generalize grps doc k = gs at *
        go_wp2_with (at_builtin; refine wpList_append_own _ rfl _ _ 26 rfl w.heap.size 3 i0 (.int .i64 0) 1 8 Tryd.underlying26 hi hz0 hz1 hz2 rfl (by decide) _ _ _ rfl (World.ownsRow.alloc hO _) ⟨wr.heap.size, 0, none⟩ 1 1 [.int .i64 (gk : Int)] rfl rfl (cell_one_new _ _ _) (by intro u hu; simp at hu; subst hu; rfl) (by unfold maxLen; omega) (by omega) (by simp; omega) ?_; intro v' w1 hown' hgrow _)
        obtain ⟨O2, B2⟩ := own_app (q := .i64) (xs := [(gk : Int)]) _ hbs hO hown' (by simp) hgrow
        clear hown' hgrow hO
        go_roundw
        case rel => exact ⟨k + 1, by omega, by go_num, by rw [HS.out]; exact O2, hbel.trans B2⟩
        case measure => simp [intOf]; omega
    · have hkn : k = doc.length := by omega
      subst hkn
      go_wp2
      go_ret
      exact ⟨_, rfl, hO, grown_of_below hbel⟩

set_option maxHeartbeats 1000000 in
set_option maxRecDepth 100000 in
theorem l3newLine_any (ind : Int) (w : World) (h0 : 0 ≤ ind) (h1 : ind ≤ 4000) :
    Calls Tryd.prog 38 #[.int .i64 ind] w fun e w' => ∃ v', e = .returned v' ∧ OwB w.heap.size w' v' (newLine ind) ∧ w.grownBy w' none := by
  obtain ⟨i0, hi, hz0, hz1, hz2⟩ := info_parts info5
  go_enter Tryd.func38, Tryd.ntmps38
  go_wp2
  go_loopw [3, 4] (fun ov i wr => ∃ k : Nat, (k : Int) ≤ ind ∧ i = .int .i64 k ∧ OwB w.heap.size wr ov (10 :: List.replicate k 32) ∧ Below w.heap.size w wr)
    (fun _ i _ => ind.toNat - (intOf i).toNat)
  case atStart =>
    refine ⟨0, by omega, rfl, ?_, (Below.refl _ _).alloc (Nat.le_refl _) _⟩
    have := World.ownsRow_lit (base := w.heap.size) (e := 5) (size := 1) w #[.int .u8 10] 1 (Nat.le_refl _) (by unfold maxLen; omega) (by simp)
    simpa [OwB, Ow] using this
  case round =>
    obtain ⟨k, hk, rfl, hO, hbel⟩ := hrel
    have hbs := hbel.size
    by_cases hlt : (k : Int) < ind
    · have hl : (10 :: List.replicate k (32 : Int)).length = k + 1 := by simp
      have hl2 : (10 :: List.replicate k (32 : Int)).length ≤ 4001 := by omega
      have HS : Hid ((10 :: List.replicate k (32 : Int)) ++ [32] = 10 :: List.replicate (k + 1) 32) := by unfold Hid; rw [List.cons_append, ← List.replicate_succ']
      clear hl
      obtain ⟨oa, ocap, hov, _, _⟩ := row_form hO
      generalize (10 :: List.replicate k (32 : Int)) = o at *
      subst hov
      go_wp2_with (at_builtin; refine wpList_append_own _ rfl _ _ 22 rfl w.heap.size 5 i0 (.int .u8 0) 1 1 Tryd.underlying22 hi hz0 hz1 hz2 rfl (by decide) _ _ _ rfl (World.ownsRow.alloc hO _) ⟨wr.heap.size, 0, none⟩ 1 1 [.int .u8 32] rfl rfl (cell_one_new _ _ _) (by intro u hu; simp at hu; subst hu; rfl) (by unfold maxLen; omega) (by omega) (by simp; omega) ?_; intro v' w1 hown' hgrow _)
      obtain ⟨O2, B2⟩ := own_app (q := .u8) (xs := [32]) _ hbs hO hown' (by simp) hgrow
      clear hown' hgrow hO
      go_roundw
      case rel => exact ⟨k + 1, by omega, by go_num, by rw [← HS.out]; exact O2, hbel.trans B2⟩
      case measure => simp [intOf]; omega
    · have hkn : k = ind.toNat := by omega
      have HN : Hid (newLine ind = 10 :: List.replicate k 32) := by unfold Hid newLine; rw [← hkn]
      go_wp2
      go_ret
      exact ⟨_, rfl, by rw [HN.out]; exact hO, grown_of_below hbel⟩

end Go.Proofs.YtgmjpdejfdldlaaDoor

namespace Go.Proofs.YtgmjpdejfdldlaaDoor
open Go.RowKit

theorem Ow.at {q : IntKind} {t : TypeId} {B : Nat} {w : World} {g cap : Nat} {zs : List Int} {n : Nat} (h : Ow q t B w (.slice (some ⟨g, 0, none⟩) n cap) zs) (hn : n = zs.length) {j : Nat} {x : Int} (hj : zs[j]? = some x) :
    w.cell? ⟨g, j, none⟩ = some (.int q x) ∧ w.frozen? ⟨g, j, none⟩ = false := by
  subst hn
  have hl := (List.getElem?_eq_some_iff.1 hj).1
  have h2 : w.ownsRow B t 1 (.slice (some ⟨g, 0, none⟩) zs.length cap) zs.length (zs.map (Value.int q)) := h
  have hc := World.ownsRow.cellAt h2 j (by omega)
  rw [List.getElem?_map, hj] at hc
  exact ⟨hc, World.ownsRow.frozenAt h2 j⟩

theorem Ow.put {q : IntKind} {t : TypeId} {B : Nat} {w : World} {g cap : Nat} {zs : List Int} {n : Nat} (h : Ow q t B w (.slice (some ⟨g, 0, none⟩) n cap) zs) (hn : n = zs.length) (j : Nat) (x : Int) :
    Ow q t B (w.setCell ⟨g, j, none⟩ (.int q x)) (.slice (some ⟨g, 0, none⟩) n cap) (zs.set j x) ∧ w.grownBy (w.setCell ⟨g, j, none⟩ (.int q x)) (some g) := by
  subst hn
  have h2 : w.ownsRow B t 1 (.slice (some ⟨g, 0, none⟩) zs.length cap) zs.length (zs.map (Value.int q)) := h
  have := World.ownsRow.stored h2 j (.int q x)
  refine ⟨?_, this.2⟩
  unfold Ow
  rw [List.map_set, List.length_set]
  exact this.1

theorem Ow.blk {q : IntKind} {t : TypeId} {B : Nat} {w : World} {g cap n : Nat} {zs : List Int} (h : Ow q t B w (.slice (some ⟨g, 0, none⟩) n cap) zs) : B ≤ g ∧ g < w.heap.size := World.ownsRow.lt h g rfl

/-- The contract of l3markFlat, for one tree. -/
def MarkSays (va sv gv : Value) (B : Nat) (doc : List Pc) (st : List Int) (T : Tr) (n b : Nat) : Prop :=
  ∀ (w : World) (g cap l : Nat) (met : List Int), B ≤ w.heap.size → RdP B w va doc → RdI B w sv st → RdI B w gv (grps doc doc.length) →
    OwI B w (.slice (some ⟨g, 0, none⟩) l cap) met → l = met.length → n + cntG T ≤ l →
    Calls Tryd.prog 41 #[va, sv, gv, .int .i64 (b : Int), .slice (some ⟨g, 0, none⟩) l cap] w fun e w' =>
      e = .returned (.slice (some ⟨g, 0, none⟩) l cap) ∧ OwI B w' (.slice (some ⟨g, 0, none⟩) l cap) (markF T n met) ∧ w.grownBy w' (some g)

set_option maxHeartbeats 600000 in
set_option maxRecDepth 100000 in
theorem mark_leaf (va sv gv : Value) (B : Nat) (doc : List Pc) (st : List Int) (hd : Doc doc) (p : Pc) (n a b : Nat) (hs : Seg doc st (.leaf p) a b) : MarkSays va sv gv B doc st (.leaf p) n b := by
  intro w g mcap l met hB hv hsv hgv hm hl _
  have hdl := hd.len
  obtain ⟨rfl, hp, har, _⟩ := hs
  obtain ⟨hj, hpj⟩ := seg_at hp
  obtain ⟨bl, off, cap, tv, hva, hb, hat⟩ := hv.at a hj
  rw [hpj] at hat
  have k0 := hat.k; have t0 := hat.t; have n0 := hat.n
  have hg : w.grownBy (w.alloc (.cells #[.int .i64 p.k, tv, .int .i64 p.n] 40)) none := World.grownBy_alloc _ _ _
  have hA := l2arity_any p.k (w.alloc (.cells #[.int .i64 p.k, tv, .int .i64 p.n] 40))
  rw [har] at hA
  obtain ⟨ta, tcap, htv, _, _⟩ := hat.sl
  have HG : Hid (w.grownBy (w.alloc (.cells #[.int .i64 p.k, tv, .int .i64 p.n] 40)) (some g)) := World.grownBy_alloc _ _ _
  have HM : Hid (OwI B (w.alloc (.cells #[.int .i64 p.k, tv, .int .i64 p.n] 40)) (.slice (some ⟨g, 0, none⟩) l mcap) met) := hm.later hg
  have q6 : (p.k == 6) = false := by
    rw [beq_eq_false_iff_ne]; intro e; rw [e] at har; simp [ar] at har
  have q8 : (p.k == 8) = false := by
    rw [beq_eq_false_iff_ne]; intro e; rw [e] at har; simp [ar] at har
  clear hv hsv hgv hat hpj hp har hg hd hm hl
  subst htv hva
  rw [show ((a + 1 : Nat) : Int) = (a : Int) + 1 by omega]
  go_enter Tryd.func41, Tryd.ntmps41
  go_wp2_with fail
  refine hA.mono ?_
  rintro e w1 ⟨rfl, rfl⟩
  go_wp2
  go_ret
  exact ⟨rfl, HM.out, HG.out⟩

set_option maxHeartbeats 600000 in
set_option maxRecDepth 100000 in
theorem mark_un (va sv gv : Value) (B : Nat) (doc : List Pc) (st : List Int) (hd : Doc doc) (p : Pc) (x : Tr) (a b : Nat) (hs : Seg doc st (.un p x) a b)
    (IHx : ∀ m, Seg doc st x a m → Hid (MarkSays va sv gv B doc st x (grp doc a) m)) : MarkSays va sv gv B doc st (.un p x) (grp doc a) b := by
  intro w g mcap l met hB hv hsv hgv hm hl hcn
  have hdl := hd.len
  obtain ⟨m, rfl, hp, har, _, hx⟩ := hs
  have IH := IHx m hx
  have hgm := grp_seg hx
  obtain ⟨hj, hpj⟩ := seg_at hp
  have hk' := ar1 har
  have hgat := grps_at doc doc.length m (by omega)
  obtain ⟨gb, goff, gcap, hgva, hgc⟩ := rd_at hgv hgat
  have hglen := grps_len doc doc.length
  obtain ⟨bl, off, cap, tv, hva, hb, hat⟩ := hv.at m hj
  rw [hpj] at hat
  have k0 := hat.k; have t0 := hat.t; have n0 := hat.n
  have hg : w.grownBy (w.alloc (.cells #[.int .i64 p.k, tv, .int .i64 p.n] 40)) none := World.grownBy_alloc _ _ _
  have hA : ∀ W, _ := fun W => l2arity_any p.k W
  rw [har] at hA
  have hmb := hm.blk
  have hmA := hm.later hg
  have hrow : ∀ k, some g = some k → B ≤ k := fun k e => by cases e; exact hmb.1
  obtain ⟨ta, tcap, htv, _, _⟩ := hat.sl
  have hgcA : (w.alloc (.cells #[.int .i64 p.k, tv, .int .i64 p.n] 40)).cell? ⟨gb, goff + m, none⟩ = some (.int .i64 (grp doc m : Int)) := hg.cell hgc (by simp)
  have HG : Hid (w.grownBy (w.alloc (.cells #[.int .i64 p.k, tv, .int .i64 p.n] 40)) (some g)) := World.grownBy_alloc _ _ _
  rcases hk' with hk | hk
  · have q6 : (p.k == 6) = false := by rw [hk]; rfl
    have q8 : (p.k == 8) = false := by rw [hk]; rfl
    have HF : Hid (markF (.un p x) (grp doc a) met = markF x (grp doc a) met) := by unfold Hid; simp only [markF]; rw [if_neg (by omega)]
    have hcn2 : grp doc a + cntG x ≤ l := by simp only [cntG] at hcn; omega
    have IH2 := IH.out (w.alloc (.cells #[.int .i64 p.k, tv, .int .i64 p.n] 40)) g mcap l met (by simp; omega) (hv.keep hg) (hsv.keep hg) (hgv.keep hg) hmA hl hcn2
    have hA1 := hA (w.alloc (.cells #[.int .i64 p.k, tv, .int .i64 p.n] 40))
    clear hv hsv hgv hat hpj hp har hx IHx IH hg hd hm hl hk hA hgcA hgc hgat hmA hglen hgm hgva
    subst htv hva
    rw [show ((m + 1 : Nat) : Int) = (m : Int) + 1 by omega]
    go_enter Tryd.func41, Tryd.ntmps41
    go_wp2_with fail
    refine hA1.mono ?_
    rintro e w1 ⟨rfl, rfl⟩
    go_wp2_with fail
    refine IH2.mono ?_
    rintro e w2 ⟨rfl, o2, g2⟩
    go_wp2
    go_ret
    exact ⟨rfl, by rw [HF.out]; exact o2, grown_trans HG.out g2⟩
  · have q6 : (p.k == 6) = false := by rw [hk]; rfl
    have q8 : (p.k == 8) = true := by rw [hk]; rfl
    have hcn2 : grp doc a + cntG x < l := by simp only [cntG] at hcn; rw [if_pos hk] at hcn; omega
    have HF : Hid (markF (.un p x) (grp doc a) met = markF x (grp doc a) (met.set (grp doc m) 1)) := by unfold Hid; simp only [markF]; rw [if_pos hk, hgm]
    have hgl : grp doc m < l := by omega
    obtain ⟨mx, hmx⟩ : ∃ mx, met[grp doc m]? = some mx := ⟨_, List.getElem?_eq_getElem (by omega)⟩
    obtain ⟨mc, mf⟩ := hm.at hl hmx
    obtain ⟨mo0, mg0⟩ := hm.put hl (grp doc m) 1
    have hgn : (w.setCell ⟨g, grp doc m, none⟩ (.int .i64 1)).grownBy ((w.setCell ⟨g, grp doc m, none⟩ (.int .i64 1)).alloc (.cells #[.int .i64 p.k, tv, .int .i64 p.n] 40)) none := World.grownBy_alloc _ _ _
    have mo := mo0.later hgn
    have hg2 := grown_trans mg0 (World.grownBy_alloc (w.setCell ⟨g, grp doc m, none⟩ (.int .i64 1)) (.cells #[.int .i64 p.k, tv, .int .i64 p.n] 40) (some g))
    have IH2 := IH.out _ g mcap l _ (Nat.le_trans hB hg2.size) (hv.beside hg2 hrow) (hsv.beside hg2 hrow) (hgv.beside hg2 hrow) mo (by rw [List.length_set]; exact hl) (by omega)
    have hA1 := hA ((w.setCell ⟨g, grp doc m, none⟩ (.int .i64 1)).alloc (.cells #[.int .i64 p.k, tv, .int .i64 p.n] 40))
    have HG2 : Hid _ := hg2
    have hne : ¬ w.heap.size = g := by omega
    have hne2 : ¬ g = w.heap.size := by omega
    clear hv hsv hgv hat hpj hp har hx IHx IH hg hd hm hl hk hA hgc hgat hmA hgm hcn hg2 mg0 mo mo0 hmx hgn
    generalize grp doc m = gm at *
    subst htv hva hgva
    have hgl3 : m < (grps doc doc.length).length ∧ (grps doc doc.length).length ≤ doc.length + 1 := by omega
    clear hglen
    generalize (grps doc doc.length).length = gl at *
    rw [show ((m + 1 : Nat) : Int) = (m : Int) + 1 by omega]
    go_enter Tryd.func41, Tryd.ntmps41
    go_wp2_with fail
    refine hA1.mono ?_
    rintro e w1 ⟨rfl, rfl⟩
    go_wp2_with fail
    refine IH2.mono ?_
    rintro e w2 ⟨rfl, o2, g2⟩
    go_wp2
    go_ret
    exact ⟨rfl, by rw [HF.out]; exact o2, grown_trans HG2.out g2⟩

set_option maxHeartbeats 600000 in
set_option maxRecDepth 100000 in
theorem mark_bin (va sv gv : Value) (B : Nat) (doc : List Pc) (st : List Int) (hd : Doc doc) (p : Pc) (x y : Tr) (a b : Nat) (hs : Seg doc st (.bin p x y) a b)
    (IH1' : ∀ m, Seg doc st x a m → Hid (MarkSays va sv gv B doc st x (grp doc a) m)) (IH2' : ∀ c m, Seg doc st y c m → Hid (MarkSays va sv gv B doc st y (grp doc c) m)) : MarkSays va sv gv B doc st (.bin p x y) (grp doc a) b := by
  intro w g mcap l met hB hv hsv hgv hm hl hcn
  have hdl := hd.len
  obtain ⟨c, m0, rfl, hp, har, _, hx, hy⟩ := hs
  obtain ⟨m, rfl⟩ : ∃ m, m0 = m + 1 := ⟨m0 - 1, by have := hy.lt; omega⟩
  have hlast := hy.last
  simp only [Nat.add_sub_cancel] at hlast
  have IHy := IH2' c (m + 1) hy
  have IHx := IH1' c hx
  have hgx := grp_seg hx
  have hcm := hy.lt
  obtain ⟨hj, hpj⟩ := seg_at hp
  have hk' := ar2 har
  have hst := (List.getElem?_eq_some_iff.1 hlast).1
  obtain ⟨sb, soff, scap, hsva, hsc⟩ := rd_at hsv hlast
  obtain ⟨bl, off, cap, tv, hva, hb, hat⟩ := hv.at (m + 1) hj
  rw [hpj] at hat
  have k0 := hat.k; have t0 := hat.t; have n0 := hat.n
  have hg : w.grownBy (w.alloc (.cells #[.int .i64 p.k, tv, .int .i64 p.n] 40)) none := World.grownBy_alloc _ _ _
  have hA : ∀ W, _ := fun W => l2arity_any p.k W
  rw [har] at hA
  have hmb := hm.blk
  have hmA := hm.later hg
  have HRow : Hid (∀ k, some g = some k → B ≤ k) := fun k e => by cases e; exact hmb.1
  have HV : Hid (RdP B w va doc) := hv
  have HSV : Hid (RdI B w sv st) := hsv
  have HGV : Hid (RdI B w gv (grps doc doc.length)) := hgv
  have HB : Hid (B ≤ w.heap.size) := hB
  have HL : Hid (l = met.length) := hl
  simp only [cntG] at hcn
  have hcx : grp doc a + cntG x ≤ l := by omega
  have hcy : grp doc c + cntG y ≤ l := by omega
  have hscA : (w.alloc (.cells #[.int .i64 p.k, tv, .int .i64 p.n] 40)).cell? ⟨sb, soff + m, none⟩ = some (.int .i64 (c : Int)) := hg.cell hsc (by simp)
  obtain ⟨ta, tcap, htv, _, _⟩ := hat.sl
  have HG : Hid (w.grownBy (w.alloc (.cells #[.int .i64 p.k, tv, .int .i64 p.n] 40)) (some g)) := World.grownBy_alloc _ _ _
  have HF : Hid (markF (.bin p x y) (grp doc a) met = markF y (grp doc c) (if p.k = 6 then markF x (grp doc a) met else met)) := by unfold Hid; rw [hgx]; rfl
  have IHX2 := IHx.out (w.alloc (.cells #[.int .i64 p.k, tv, .int .i64 p.n] 40)) g mcap l met (by simp; omega) (hv.keep hg) (hsv.keep hg) (hgv.keep hg) hmA hl hcx
  have IHY2 := IHy.out (w.alloc (.cells #[.int .i64 p.k, tv, .int .i64 p.n] 40)) g mcap l met (by simp; omega) (hv.keep hg) (hsv.keep hg) (hgv.keep hg) hmA hl hcy
  have hA1 := hA (w.alloc (.cells #[.int .i64 p.k, tv, .int .i64 p.n] 40))
  have hne : ¬ w.heap.size = g := by omega
  have hne2 : ¬ g = w.heap.size := by omega
  clear hv hsv hgv hat hpj hp har hx hy IH1' IH2' IHx hg hd hlast hsc hm hmA hl hcn hcx hgx hmb
  have ht1 : (((m + 1 : Nat) : Int) + 1 - 2) = (m : Int) := by omega
  have ht2 : (((m + 1 : Nat) : Int) - 1) = (m : Int) := by omega
  have hcm2 : c ≤ m := by omega
  rw [show ((m + 1 + 1 : Nat) : Int) = ((m + 1 : Nat) : Int) + 1 by omega]
  clear hcm
  subst htv hva hsva
  generalize m + 1 = t at *
  rcases hk' with hk | hk
  · have q6 : (p.k == 6) = true := by rw [hk]; rfl
    have q8 : (p.k == 8) = false := by rw [hk]; rfl
    have HF2 : Hid (markF (.bin p x y) (grp doc a) met = markF y (grp doc c) (markF x (grp doc a) met)) := by unfold Hid; rw [HF.out, if_pos hk]
    clear hk HF IHY2 hA1
    go_enter Tryd.func41, Tryd.ntmps41
    go_wp2_with fail
    refine IHX2.mono ?_
    rintro e w2 ⟨rfl, o2, g2⟩
    have hw2 := grown_trans HG.out g2
    have IH3 := IHy.out w2 g mcap l _ (Nat.le_trans HB.out hw2.size) (HV.out.beside hw2 HRow.out) (HSV.out.beside hw2 HRow.out) (HGV.out.beside hw2 HRow.out) o2 (by rw [markF_len]; exact HL.out) hcy
    have c0 := g2.cell (a := ⟨w.heap.size, 0, none⟩) (v := .int .i64 p.k) (by simp [go_sem]) (by simpa using hne)
    have hA2 := hA w2
    clear IHy HV HSV HGV IHX2 o2
    go_wp2_with fail
    refine hA2.mono ?_
    rintro e w1 ⟨rfl, rfl⟩
    go_wp2_with fail
    refine IH3.mono ?_
    rintro e w3 ⟨rfl, o3, g3⟩
    clear IH3
    go_wp2
    go_ret
    exact ⟨rfl, by rw [HF2.out]; exact o3, grown_trans hw2 g3⟩
  · have q6 : (p.k == 6) = false := by rw [hk]; rfl
    have q8 : (p.k == 8) = false := by rw [hk]; rfl
    have HF2 : Hid (markF (.bin p x y) (grp doc a) met = markF y (grp doc c) met) := by unfold Hid; rw [HF.out, if_neg (by omega)]
    clear hk HF IHX2 hA IHy HV HSV HGV
    go_enter Tryd.func41, Tryd.ntmps41
    go_wp2_with fail
    refine hA1.mono ?_
    rintro e w1 ⟨rfl, rfl⟩
    go_wp2_with fail
    refine IHY2.mono ?_
    rintro e w2 ⟨rfl, o2, g2⟩
    go_wp2
    go_ret
    exact ⟨rfl, by rw [HF2.out]; exact o2, grown_trans HG.out g2⟩

theorem l3markFlat_any (va sv gv : Value) (B : Nat) (doc : List Pc) (st : List Int) (hd : Doc doc) :
    ∀ (T : Tr) (a b : Nat), Seg doc st T a b → MarkSays va sv gv B doc st T (grp doc a) b
  | .leaf p, a, b, hs => mark_leaf va sv gv B doc st hd p _ a b hs
  | .un p x, a, b, hs => mark_un va sv gv B doc st hd p x a b hs (fun m hx => l3markFlat_any va sv gv B doc st hd x a m hx)
  | .bin p x y, a, b, hs => mark_bin va sv gv B doc st hd p x y a b hs (fun m hx => l3markFlat_any va sv gv B doc st hd x a m hx) (fun c m hy => l3markFlat_any va sv gv B doc st hd y c m hy)

end Go.Proofs.YtgmjpdejfdldlaaDoor

