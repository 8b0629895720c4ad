import Derived.Test.YtbiiopiaglkicaaDoorMAM
import Derived.Test.YtbiiopiaglkicaaDoorMAQ
import Derived.Test.YtbiiopiaglkicaaDoorMAW
namespace Go.Proofs.YtbiiopiaglkicaaDoor
open Go.RowKit

set_option maxHeartbeats 1000000 in
set_option maxRecDepth 100000 in
theorem l3groups_any (v : Value) (doc : List Pc) (w : World) (hv : RdP w.heap.size w v doc) (hn : doc.length ≤ 1048576) :
    Calls Tryd.prog 45 #[v] w fun e w' => ∃ v', e = .returned v' ∧ OwI w.heap.size w' v' (grps doc doc.length) ∧ w.grownBy w' none := by
  obtain ⟨i0, hi, hz0, hz1, hz2⟩ := info_parts info3
  obtain ⟨a, cap, hv0, _⟩ := id hv
  subst hv0
  go_enter Tryd.func45, Tryd.ntmps45
  go_wp2
  go_loopw [3, 4] (fun ov i wr => ∃ k : Nat, k ≤ doc.length ∧ i = .int .i64 k ∧ OwI w.heap.size wr ov (grps doc k) ∧ Below w.heap.size w wr)
    (fun _ i _ => doc.length - (intOf i).toNat)
  case atStart =>
    refine ⟨0, Nat.zero_le _, rfl, ?_, (Below.refl _ _).alloc (Nat.le_refl _) _⟩
    have := World.ownsRow_lit (base := w.heap.size) (e := 3) (size := 1) w #[.int .i64 0] 1 (Nat.le_refl _) (by unfold maxLen; omega) (by simp)
    simpa [OwI, Ow, grps, grp_zero] using this
  case round =>
    obtain ⟨k, hk, rfl, hO, hbel⟩ := hrel
    have hgl := grps_len doc k
    have hbs := hbel.size
    by_cases hlt : k < doc.length
    · obtain ⟨b, off, cap', tv, hva, hb, hp⟩ := (hv.keep (grown_of_below hbel)).at k hlt
      cases hva
      have hk0 := hp.k
      rcases hO.2 with ⟨_, h0⟩ | ⟨g, cp, cur, hov, hbg, hg, hnc, hcm, hcs, ht⟩
      · rw [hgl] at h0; omega
      subst hov
      have hc := World.ownsRow.cellAt hO k (by omega)
      rw [List.getElem?_map, grps_at doc k k (Nat.le_refl _)] at hc
      simp only [Option.map_some] at hc
      have hsn := grps_snoc doc k
      rw [grp_succ doc k hlt] at hsn
      have hle := grp_le doc k
      unfold maxLen at hcm
      have hgl2 : (grps doc k).length ≤ k + 1 := Nat.le_of_eq hgl
      have hgl3 : k < (grps doc k).length := by omega
      clear hv hp hg hcs ht hgl
      by_cases h8 : doc[k].k = 8
      · have q8 : (doc[k].k == 8) = true := by rw [h8]; rfl
        rw [if_pos h8] at hsn
        have HS : Hid (grps doc (k + 1) = grps doc k ++ [(grp doc k : Int) + 1]) := by unfold Hid; rw [hsn]; simp
        clear hsn h8
        generalize doc[k].k = kk at *
        generalize grp doc k = gk at *
        generalize grps doc k = gs at *
        go_wp2_with (at_builtin; refine wpList_append_own _ rfl _ _ 25 rfl w.heap.size 3 i0 (.int .i64 0) 1 8 Tryd.underlying25 hi hz0 hz1 hz2 rfl (by decide) _ _ _ rfl (World.ownsRow.alloc hO _) ⟨wr.heap.size, 0, none⟩ 1 1 [.int .i64 ((gk : Int) + 1)] rfl rfl (cell_one_new _ _ _) (by intro u hu; simp at hu; subst hu; rfl) (by unfold maxLen; omega) (by omega) (by simp; omega) ?_; intro v' w1 hown' hgrow _)
        obtain ⟨O2, B2⟩ := own_app (q := .i64) (xs := [(gk : Int) + 1]) _ hbs hO hown' (by simp) hgrow
        clear hown' hgrow hO
        go_roundw
        case rel => exact ⟨k + 1, by omega, by go_num, by rw [HS.out]; exact O2, hbel.trans B2⟩
        case measure => simp [intOf]; omega
      · have q8 : (doc[k].k == 8) = false := by simpa using h8
        rw [if_neg h8] at hsn
        have HS : Hid (grps doc (k + 1) = grps doc k ++ [(grp doc k : Int)]) := by unfold Hid; rw [hsn]; simp
        clear hsn h8
        generalize doc[k].k = kk at *
        generalize grp doc k = gk at *
        generalize grps doc k = gs at *
        go_wp2_with (at_builtin; refine wpList_append_own _ rfl _ _ 25 rfl w.heap.size 3 i0 (.int .i64 0) 1 8 Tryd.underlying25 hi hz0 hz1 hz2 rfl (by decide) _ _ _ rfl (World.ownsRow.alloc hO _) ⟨wr.heap.size, 0, none⟩ 1 1 [.int .i64 (gk : Int)] rfl rfl (cell_one_new _ _ _) (by intro u hu; simp at hu; subst hu; rfl) (by unfold maxLen; omega) (by omega) (by simp; omega) ?_; intro v' w1 hown' hgrow _)
        obtain ⟨O2, B2⟩ := own_app (q := .i64) (xs := [(gk : Int)]) _ hbs hO hown' (by simp) hgrow
        clear hown' hgrow hO
        go_roundw
        case rel => exact ⟨k + 1, by omega, by go_num, by rw [HS.out]; exact O2, hbel.trans B2⟩
        case measure => simp [intOf]; omega
    · have hkn : k = doc.length := by omega
      subst hkn
      go_wp2
      go_ret
      exact ⟨_, rfl, hO, grown_of_below hbel⟩

set_option maxHeartbeats 1000000 in
set_option maxRecDepth 100000 in
theorem l3newLine_any (ind : Int) (w : World) (h0 : 0 ≤ ind) (h1 : ind ≤ 4000) :
    Calls Tryd.prog 62 #[.int .i64 ind] w fun e w' => ∃ v', e = .returned v' ∧ OwB w.heap.size w' v' (newLine ind) ∧ w.grownBy w' none := by
  obtain ⟨i0, hi, hz0, hz1, hz2⟩ := info_parts info5
  go_enter Tryd.func62, Tryd.ntmps62
  go_wp2
  go_loopw [3, 4] (fun ov i wr => ∃ k : Nat, (k : Int) ≤ ind ∧ i = .int .i64 k ∧ OwB w.heap.size wr ov (10 :: List.replicate k 32) ∧ Below w.heap.size w wr)
    (fun _ i _ => ind.toNat - (intOf i).toNat)
  case atStart =>
    refine ⟨0, by omega, rfl, ?_, (Below.refl _ _).alloc (Nat.le_refl _) _⟩
    have := World.ownsRow_lit (base := w.heap.size) (e := 5) (size := 1) w #[.int .u8 10] 1 (Nat.le_refl _) (by unfold maxLen; omega) (by simp)
    simpa [OwB, Ow] using this
  case round =>
    obtain ⟨k, hk, rfl, hO, hbel⟩ := hrel
    have hbs := hbel.size
    by_cases hlt : (k : Int) < ind
    · have hl : (10 :: List.replicate k (32 : Int)).length = k + 1 := by simp
      have hl2 : (10 :: List.replicate k (32 : Int)).length ≤ 4001 := by omega
      have HS : Hid ((10 :: List.replicate k (32 : Int)) ++ [32] = 10 :: List.replicate (k + 1) 32) := by unfold Hid; rw [List.cons_append, ← List.replicate_succ']
      clear hl
      obtain ⟨oa, ocap, hov, _, _⟩ := row_form hO
      generalize (10 :: List.replicate k (32 : Int)) = o at *
      subst hov
      go_wp2_with (at_builtin; refine wpList_append_own _ rfl _ _ 24 rfl w.heap.size 5 i0 (.int .u8 0) 1 1 Tryd.underlying24 hi hz0 hz1 hz2 rfl (by decide) _ _ _ rfl (World.ownsRow.alloc hO _) ⟨wr.heap.size, 0, none⟩ 1 1 [.int .u8 32] rfl rfl (cell_one_new _ _ _) (by intro u hu; simp at hu; subst hu; rfl) (by unfold maxLen; omega) (by omega) (by simp; omega) ?_; intro v' w1 hown' hgrow _)
      obtain ⟨O2, B2⟩ := own_app (q := .u8) (xs := [32]) _ hbs hO hown' (by simp) hgrow
      clear hown' hgrow hO
      go_roundw
      case rel => exact ⟨k + 1, by omega, by go_num, by rw [← HS.out]; exact O2, hbel.trans B2⟩
      case measure => simp [intOf]; omega
    · have hkn : k = ind.toNat := by omega
      have HN : Hid (newLine ind = 10 :: List.replicate k 32) := by unfold Hid newLine; rw [← hkn]
      go_wp2
      go_ret
      exact ⟨_, rfl, by rw [HN.out]; exact hO, grown_of_below hbel⟩

end Go.Proofs.YtbiiopiaglkicaaDoor

namespace Go.Proofs.YtbiiopiaglkicaaDoor
open Go.RowKit

theorem Ow.at {q : IntKind} {t : TypeId} {B : Nat} {w : World} {g cap : Nat} {zs : List Int} {n : Nat} (h : Ow q t B w (.slice (some ⟨g, 0, none⟩) n cap) zs) (hn : n = zs.length) {j : Nat} {x : Int} (hj : zs[j]? = some x) :
    w.cell? ⟨g, j, none⟩ = some (.int q x) ∧ w.frozen? ⟨g, j, none⟩ = false := by
  subst hn
  have hl := (List.getElem?_eq_some_iff.1 hj).1
  have h2 : w.ownsRow B t 1 (.slice (some ⟨g, 0, none⟩) zs.length cap) zs.length (zs.map (Value.int q)) := h
  have hc := World.ownsRow.cellAt h2 j (by omega)
  rw [List.getElem?_map, hj] at hc
  exact ⟨hc, World.ownsRow.frozenAt h2 j⟩

theorem Ow.put {q : IntKind} {t : TypeId} {B : Nat} {w : World} {g cap : Nat} {zs : List Int} {n : Nat} (h : Ow q t B w (.slice (some ⟨g, 0, none⟩) n cap) zs) (hn : n = zs.length) (j : Nat) (x : Int) :
    Ow q t B (w.setCell ⟨g, j, none⟩ (.int q x)) (.slice (some ⟨g, 0, none⟩) n cap) (zs.set j x) ∧ w.grownBy (w.setCell ⟨g, j, none⟩ (.int q x)) (some g) := by
  subst hn
  have h2 : w.ownsRow B t 1 (.slice (some ⟨g, 0, none⟩) zs.length cap) zs.length (zs.map (Value.int q)) := h
  have := World.ownsRow.stored h2 j (.int q x)
  refine ⟨?_, this.2⟩
  unfold Ow
  rw [List.map_set, List.length_set]
  exact this.1

theorem Ow.blk {q : IntKind} {t : TypeId} {B : Nat} {w : World} {g cap n : Nat} {zs : List Int} (h : Ow q t B w (.slice (some ⟨g, 0, none⟩) n cap) zs) : B ≤ g ∧ g < w.heap.size := World.ownsRow.lt h g rfl

/-- The contract of l3markFlat, for one tree. -/
def MarkSays (va sv gv : Value) (B : Nat) (doc : List Pc) (st : List Int) (T : Tr) (n b : Nat) : Prop :=
  ∀ (w : World) (g cap l : Nat) (met : List Int), B ≤ w.heap.size → RdP B w va doc → RdI B w sv st → RdI B w gv (grps doc doc.length) →
    OwI B w (.slice (some ⟨g, 0, none⟩) l cap) met → l = met.length → n + cntG T ≤ l →
    Calls Tryd.prog 64 #[va, sv, gv, .int .i64 (b : Int), .slice (some ⟨g, 0, none⟩) l cap] w fun e w' =>
      e = .returned (.slice (some ⟨g, 0, none⟩) l cap) ∧ OwI B w' (.slice (some ⟨g, 0, none⟩) l cap) (markF T n met) ∧ w.grownBy w' (some g)

set_option maxHeartbeats 600000 in
set_option maxRecDepth 100000 in
theorem mark_leaf (va sv gv : Value) (B : Nat) (doc : List Pc) (st : List Int) (hd : Doc doc) (p : Pc) (n a b : Nat) (hs : Seg doc st (.leaf p) a b) : MarkSays va sv gv B doc st (.leaf p) n b := by
  intro w g mcap l met hB hv hsv hgv hm hl _
  have hdl := hd.len
  obtain ⟨rfl, hp, har, _⟩ := hs
  obtain ⟨hj, hpj⟩ := seg_at hp
  obtain ⟨bl, off, cap, tv, hva, hb, hat⟩ := hv.at a hj
  rw [hpj] at hat
  have k0 := hat.k; have t0 := hat.t; have n0 := hat.n
  have hg : w.grownBy (w.alloc (.cells #[.int .i64 p.k, tv, .int .i64 p.n] 49)) none := World.grownBy_alloc _ _ _
  have hA := l2arity_any p.k (w.alloc (.cells #[.int .i64 p.k, tv, .int .i64 p.n] 49))
  rw [har] at hA
  obtain ⟨ta, tcap, htv, _, _⟩ := hat.sl
  have HG : Hid (w.grownBy (w.alloc (.cells #[.int .i64 p.k, tv, .int .i64 p.n] 49)) (some g)) := World.grownBy_alloc _ _ _
  have HM : Hid (OwI B (w.alloc (.cells #[.int .i64 p.k, tv, .int .i64 p.n] 49)) (.slice (some ⟨g, 0, none⟩) l mcap) met) := hm.later hg
  have q6 : (p.k == 6) = false := by
    rw [beq_eq_false_iff_ne]; intro e; rw [e] at har; simp [ar] at har
  have q8 : (p.k == 8) = false := by
    rw [beq_eq_false_iff_ne]; intro e; rw [e] at har; simp [ar] at har
  clear hv hsv hgv hat hpj hp har hg hd hm hl
  subst htv hva
  rw [show ((a + 1 : Nat) : Int) = (a : Int) + 1 by omega]
  go_enter Tryd.func64, Tryd.ntmps64
  go_wp2_with fail
  refine hA.mono ?_
  rintro e w1 ⟨rfl, rfl⟩
  go_wp2
  go_ret
  exact ⟨rfl, HM.out, HG.out⟩

set_option maxHeartbeats 600000 in
set_option maxRecDepth 100000 in
theorem mark_un (va sv gv : Value) (B : Nat) (doc : List Pc) (st : List Int) (hd : Doc doc) (p : Pc) (x : Tr) (a b : Nat) (hs : Seg doc st (.un p x) a b)
    (IHx : ∀ m, Seg doc st x a m → Hid (MarkSays va sv gv B doc st x (grp doc a) m)) : MarkSays va sv gv B doc st (.un p x) (grp doc a) b := by
  intro w g mcap l met hB hv hsv hgv hm hl hcn
  have hdl := hd.len
  obtain ⟨m, rfl, hp, har, _, hx⟩ := hs
  have IH := IHx m hx
  have hgm := grp_seg hx
  obtain ⟨hj, hpj⟩ := seg_at hp
  have hk' := ar1 har
  have hgat := grps_at doc doc.length m (by omega)
  obtain ⟨gb, goff, gcap, hgva, hgc⟩ := rd_at hgv hgat
  have hglen := grps_len doc doc.length
  obtain ⟨bl, off, cap, tv, hva, hb, hat⟩ := hv.at m hj
  rw [hpj] at hat
  have k0 := hat.k; have t0 := hat.t; have n0 := hat.n
  have hg : w.grownBy (w.alloc (.cells #[.int .i64 p.k, tv, .int .i64 p.n] 49)) none := World.grownBy_alloc _ _ _
  have hA : ∀ W, _ := fun W => l2arity_any p.k W
  rw [har] at hA
  have hmb := hm.blk
  have hmA := hm.later hg
  have hrow : ∀ k, some g = some k → B ≤ k := fun k e => by cases e; exact hmb.1
  obtain ⟨ta, tcap, htv, _, _⟩ := hat.sl
  have hgcA : (w.alloc (.cells #[.int .i64 p.k, tv, .int .i64 p.n] 49)).cell? ⟨gb, goff + m, none⟩ = some (.int .i64 (grp doc m : Int)) := hg.cell hgc (by simp)
  have HG : Hid (w.grownBy (w.alloc (.cells #[.int .i64 p.k, tv, .int .i64 p.n] 49)) (some g)) := World.grownBy_alloc _ _ _
  rcases hk' with hk | hk
  · have q6 : (p.k == 6) = false := by rw [hk]; rfl
    have q8 : (p.k == 8) = false := by rw [hk]; rfl
    have HF : Hid (markF (.un p x) (grp doc a) met = markF x (grp doc a) met) := by unfold Hid; simp only [markF]; rw [if_neg (by omega)]
    have hcn2 : grp doc a + cntG x ≤ l := by simp only [cntG] at hcn; omega
    have IH2 := IH.out (w.alloc (.cells #[.int .i64 p.k, tv, .int .i64 p.n] 49)) g mcap l met (by simp; omega) (hv.keep hg) (hsv.keep hg) (hgv.keep hg) hmA hl hcn2
    have hA1 := hA (w.alloc (.cells #[.int .i64 p.k, tv, .int .i64 p.n] 49))
    clear hv hsv hgv hat hpj hp har hx IHx IH hg hd hm hl hk hA hgcA hgc hgat hmA hglen hgm hgva
    subst htv hva
    rw [show ((m + 1 : Nat) : Int) = (m : Int) + 1 by omega]
    go_enter Tryd.func64, Tryd.ntmps64
    go_wp2_with fail
    refine hA1.mono ?_
    rintro e w1 ⟨rfl, rfl⟩
    go_wp2_with fail
    refine IH2.mono ?_
    rintro e w2 ⟨rfl, o2, g2⟩
    go_wp2
    go_ret
    exact ⟨rfl, by rw [HF.out]; exact o2, grown_trans HG.out g2⟩
  · have q6 : (p.k == 6) = false := by rw [hk]; rfl
    have q8 : (p.k == 8) = true := by rw [hk]; rfl
    have hcn2 : grp doc a + cntG x < l := by simp only [cntG] at hcn; rw [if_pos hk] at hcn; omega
    have HF : Hid (markF (.un p x) (grp doc a) met = markF x (grp doc a) (met.set (grp doc m) 1)) := by unfold Hid; simp only [markF]; rw [if_pos hk, hgm]
    have hgl : grp doc m < l := by omega
    obtain ⟨mx, hmx⟩ : ∃ mx, met[grp doc m]? = some mx := ⟨_, List.getElem?_eq_getElem (by omega)⟩
    obtain ⟨mc, mf⟩ := hm.at hl hmx
    obtain ⟨mo0, mg0⟩ := hm.put hl (grp doc m) 1
    have hgn : (w.setCell ⟨g, grp doc m, none⟩ (.int .i64 1)).grownBy ((w.setCell ⟨g, grp doc m, none⟩ (.int .i64 1)).alloc (.cells #[.int .i64 p.k, tv, .int .i64 p.n] 49)) none := World.grownBy_alloc _ _ _
    have mo := mo0.later hgn
    have hg2 := grown_trans mg0 (World.grownBy_alloc (w.setCell ⟨g, grp doc m, none⟩ (.int .i64 1)) (.cells #[.int .i64 p.k, tv, .int .i64 p.n] 49) (some g))
    have IH2 := IH.out _ g mcap l _ (Nat.le_trans hB hg2.size) (hv.beside hg2 hrow) (hsv.beside hg2 hrow) (hgv.beside hg2 hrow) mo (by rw [List.length_set]; exact hl) (by omega)
    have hA1 := hA ((w.setCell ⟨g, grp doc m, none⟩ (.int .i64 1)).alloc (.cells #[.int .i64 p.k, tv, .int .i64 p.n] 49))
    have HG2 : Hid _ := hg2
    have hne : ¬ w.heap.size = g := by omega
    have hne2 : ¬ g = w.heap.size := by omega
    clear hv hsv hgv hat hpj hp har hx IHx IH hg hd hm hl hk hA hgc hgat hmA hgm hcn hg2 mg0 mo mo0 hmx hgn
    generalize grp doc m = gm at *
    subst htv hva hgva
    have hgl3 : m < (grps doc doc.length).length ∧ (grps doc doc.length).length ≤ doc.length + 1 := by omega
    clear hglen
    generalize (grps doc doc.length).length = gl at *
    rw [show ((m + 1 : Nat) : Int) = (m : Int) + 1 by omega]
    go_enter Tryd.func64, Tryd.ntmps64
    go_wp2_with fail
    refine hA1.mono ?_
    rintro e w1 ⟨rfl, rfl⟩
    go_wp2_with fail
    refine IH2.mono ?_
    rintro e w2 ⟨rfl, o2, g2⟩
    go_wp2
    go_ret
    exact ⟨rfl, by rw [HF.out]; exact o2, grown_trans HG2.out g2⟩

set_option maxHeartbeats 600000 in
set_option maxRecDepth 100000 in
theorem mark_bin (va sv gv : Value) (B : Nat) (doc : List Pc) (st : List Int) (hd : Doc doc) (p : Pc) (x y : Tr) (a b : Nat) (hs : Seg doc st (.bin p x y) a b)
    (IH1' : ∀ m, Seg doc st x a m → Hid (MarkSays va sv gv B doc st x (grp doc a) m)) (IH2' : ∀ c m, Seg doc st y c m → Hid (MarkSays va sv gv B doc st y (grp doc c) m)) : MarkSays va sv gv B doc st (.bin p x y) (grp doc a) b := by
  intro w g mcap l met hB hv hsv hgv hm hl hcn
  have hdl := hd.len
  obtain ⟨c, m0, rfl, hp, har, _, hx, hy⟩ := hs
  obtain ⟨m, rfl⟩ : ∃ m, m0 = m + 1 := ⟨m0 - 1, by have := hy.lt; omega⟩
  have hlast := hy.last
  simp only [Nat.add_sub_cancel] at hlast
  have IHy := IH2' c (m + 1) hy
  have IHx := IH1' c hx
  have hgx := grp_seg hx
  have hcm := hy.lt
  obtain ⟨hj, hpj⟩ := seg_at hp
  have hk' := ar2 har
  have hst := (List.getElem?_eq_some_iff.1 hlast).1
  obtain ⟨sb, soff, scap, hsva, hsc⟩ := rd_at hsv hlast
  obtain ⟨bl, off, cap, tv, hva, hb, hat⟩ := hv.at (m + 1) hj
  rw [hpj] at hat
  have k0 := hat.k; have t0 := hat.t; have n0 := hat.n
  have hg : w.grownBy (w.alloc (.cells #[.int .i64 p.k, tv, .int .i64 p.n] 49)) none := World.grownBy_alloc _ _ _
  have hA : ∀ W, _ := fun W => l2arity_any p.k W
  rw [har] at hA
  have hmb := hm.blk
  have hmA := hm.later hg
  have HRow : Hid (∀ k, some g = some k → B ≤ k) := fun k e => by cases e; exact hmb.1
  have HV : Hid (RdP B w va doc) := hv
  have HSV : Hid (RdI B w sv st) := hsv
  have HGV : Hid (RdI B w gv (grps doc doc.length)) := hgv
  have HB : Hid (B ≤ w.heap.size) := hB
  have HL : Hid (l = met.length) := hl
  simp only [cntG] at hcn
  have hcx : grp doc a + cntG x ≤ l := by omega
  have hcy : grp doc c + cntG y ≤ l := by omega
  have hscA : (w.alloc (.cells #[.int .i64 p.k, tv, .int .i64 p.n] 49)).cell? ⟨sb, soff + m, none⟩ = some (.int .i64 (c : Int)) := hg.cell hsc (by simp)
  obtain ⟨ta, tcap, htv, _, _⟩ := hat.sl
  have HG : Hid (w.grownBy (w.alloc (.cells #[.int .i64 p.k, tv, .int .i64 p.n] 49)) (some g)) := World.grownBy_alloc _ _ _
  have HF : Hid (markF (.bin p x y) (grp doc a) met = markF y (grp doc c) (if p.k = 6 then markF x (grp doc a) met else met)) := by unfold Hid; rw [hgx]; rfl
  have IHX2 := IHx.out (w.alloc (.cells #[.int .i64 p.k, tv, .int .i64 p.n] 49)) g mcap l met (by simp; omega) (hv.keep hg) (hsv.keep hg) (hgv.keep hg) hmA hl hcx
  have IHY2 := IHy.out (w.alloc (.cells #[.int .i64 p.k, tv, .int .i64 p.n] 49)) g mcap l met (by simp; omega) (hv.keep hg) (hsv.keep hg) (hgv.keep hg) hmA hl hcy
  have hA1 := hA (w.alloc (.cells #[.int .i64 p.k, tv, .int .i64 p.n] 49))
  have hne : ¬ w.heap.size = g := by omega
  have hne2 : ¬ g = w.heap.size := by omega
  clear hv hsv hgv hat hpj hp har hx hy IH1' IH2' IHx hg hd hlast hsc hm hmA hl hcn hcx hgx hmb
  have ht1 : (((m + 1 : Nat) : Int) + 1 - 2) = (m : Int) := by omega
  have ht2 : (((m + 1 : Nat) : Int) - 1) = (m : Int) := by omega
  have hcm2 : c ≤ m := by omega
  rw [show ((m + 1 + 1 : Nat) : Int) = ((m + 1 : Nat) : Int) + 1 by omega]
  clear hcm
  subst htv hva hsva
  generalize m + 1 = t at *
  rcases hk' with hk | hk
  · have q6 : (p.k == 6) = true := by rw [hk]; rfl
    have q8 : (p.k == 8) = false := by rw [hk]; rfl
    have HF2 : Hid (markF (.bin p x y) (grp doc a) met = markF y (grp doc c) (markF x (grp doc a) met)) := by unfold Hid; rw [HF.out, if_pos hk]
    clear hk HF IHY2 hA1
    go_enter Tryd.func64, Tryd.ntmps64
    go_wp2_with fail
    refine IHX2.mono ?_
    rintro e w2 ⟨rfl, o2, g2⟩
    have hw2 := grown_trans HG.out g2
    have IH3 := IHy.out w2 g mcap l _ (Nat.le_trans HB.out hw2.size) (HV.out.beside hw2 HRow.out) (HSV.out.beside hw2 HRow.out) (HGV.out.beside hw2 HRow.out) o2 (by rw [markF_len]; exact HL.out) hcy
    have c0 := g2.cell (a := ⟨w.heap.size, 0, none⟩) (v := .int .i64 p.k) (by simp [go_sem]) (by simpa using hne)
    have hA2 := hA w2
    clear IHy HV HSV HGV IHX2 o2
    go_wp2_with fail
    refine hA2.mono ?_
    rintro e w1 ⟨rfl, rfl⟩
    go_wp2_with fail
    refine IH3.mono ?_
    rintro e w3 ⟨rfl, o3, g3⟩
    clear IH3
    go_wp2
    go_ret
    exact ⟨rfl, by rw [HF2.out]; exact o3, grown_trans hw2 g3⟩
  · have q6 : (p.k == 6) = false := by rw [hk]; rfl
    have q8 : (p.k == 8) = false := by rw [hk]; rfl
    have HF2 : Hid (markF (.bin p x y) (grp doc a) met = markF y (grp doc c) met) := by unfold Hid; rw [HF.out, if_neg (by omega)]
    clear hk HF IHX2 hA IHy HV HSV HGV
    go_enter Tryd.func64, Tryd.ntmps64
    go_wp2_with fail
    refine hA1.mono ?_
    rintro e w1 ⟨rfl, rfl⟩
    go_wp2_with fail
    refine IHY2.mono ?_
    rintro e w2 ⟨rfl, o2, g2⟩
    go_wp2
    go_ret
    exact ⟨rfl, by rw [HF2.out]; exact o2, grown_trans HG.out g2⟩

theorem l3markFlat_any (va sv gv : Value) (B : Nat) (doc : List Pc) (st : List Int) (hd : Doc doc) :
    ∀ (T : Tr) (a b : Nat), Seg doc st T a b → MarkSays va sv gv B doc st T (grp doc a) b
  | .leaf p, a, b, hs => mark_leaf va sv gv B doc st hd p _ a b hs
  | .un p x, a, b, hs => mark_un va sv gv B doc st hd p x a b hs (fun m hx => l3markFlat_any va sv gv B doc st hd x a m hx)
  | .bin p x y, a, b, hs => mark_bin va sv gv B doc st hd p x y a b hs (fun m hx => l3markFlat_any va sv gv B doc st hd x a m hx) (fun c m hy => l3markFlat_any va sv gv B doc st hd y c m hy)

end Go.Proofs.YtbiiopiaglkicaaDoor

namespace Go.Proofs.YtbiiopiaglkicaaDoor
open Go.RowKit

/-- The slice value v reads as items: where each ends, and its indent. -/
def RdT (B : Nat) (w : World) (v : Value) (its : List (Nat × Int)) : Prop :=
  ∃ a cap, v = .slice a its.length cap ∧ its.length ≤ cap ∧ cap ≤ maxLen ∧ (its ≠ [] → ∃ b off, a = some ⟨b, off, none⟩ ∧ b < B ∧ ∀ j x, its[j]? = some x → w.cell? ⟨b, off + j * 2, none⟩ = some (.int .i64 (x.1 : Int)) ∧ w.cell? ⟨b, off + j * 2 + 1, none⟩ = some (.int .i64 x.2))

theorem RdT.keep {B : Nat} {w w' : World} {v : Value} {its : List (Nat × Int)} (h : RdT B w v its) (hg : w.grownBy w' none) : RdT B w' v its := by
  obtain ⟨a, cap, hv, h1, h2, hh⟩ := h
  refine ⟨a, cap, hv, h1, h2, fun h0 => ?_⟩
  obtain ⟨b, off, ha, hb, hc⟩ := hh h0
  exact ⟨b, off, ha, hb, fun j x hx => ⟨hg.cell (hc j x hx).1 (by simp), hg.cell (hc j x hx).2 (by simp)⟩⟩

theorem RdT.at {B : Nat} {w : World} {v : Value} {its : List (Nat × Int)} (h : RdT B w v its) {j : Nat} {x : Nat × Int} (hx : its[j]? = some x) :
    ∃ b off cap, v = .slice (some ⟨b, off, none⟩) its.length cap ∧ its.length ≤ cap ∧ cap ≤ maxLen ∧ b < B ∧ w.cell? ⟨b, off + j * 2, none⟩ = some (.int .i64 (x.1 : Int)) ∧ w.cell? ⟨b, off + j * 2 + 1, none⟩ = some (.int .i64 x.2) := by
  obtain ⟨a, cap, hv, h1, h2, hh⟩ := h
  obtain ⟨b, off, ha, hb, hc⟩ := hh (fun e => by rw [e] at hx; simp at hx)
  exact ⟨b, off, cap, by rw [hv, ha], h1, h2, hb, (hc j x hx).1, (hc j x hx).2⟩

theorem szs_append : ∀ (a b : List Tr), szs (a ++ b) = szs a + szs b
  | [], b => by simp [szs]
  | x :: a, b => by simp only [List.cons_append, szs, szs_append a b]; omega

theorem take_tr (Ts : List Tr) (j : Nat) (T : Tr) (h : Ts[j]? = some T) : Ts.take (j + 1) = Ts.take j ++ [T] := by
  rw [List.take_add_one, h]; rfl

/-- The items fit their trees. -/
def Fits (doc : List Pc) (st : List Int) (Ts : List Tr) (its : List (Nat × Int)) : Prop :=
  Ts.length = its.length ∧ ∀ (j : Nat) (T : Tr) (x : Nat × Int), Ts[j]? = some T → its[j]? = some x → ∃ a, Seg doc st T a x.1

set_option maxHeartbeats 600000 in
set_option maxRecDepth 100000 in
theorem l3behind_any (va sv v : Value) (B : Nat) (doc : List Pc) (st : List Int) (hd : Doc doc) (Ts : List Tr) (its : List (Nat × Int)) (hf : Fits doc st Ts its) (hz : szs Ts ≤ 140000)
    (w : World) (hB : B ≤ w.heap.size) (hv : RdP B w va doc) (hsv : RdI B w sv st) (hr : RdT w.heap.size w v its) :
    Calls Tryd.prog 63 #[va, sv, v] w fun e w' => e = .returned (.int .i64 (behind Ts.reverse)) ∧ w.grownBy w' none := by
  have hil := length_szs Ts
  have hfl := hf.1
  obtain ⟨ra, rcap, hrv, hrc, hrm, _⟩ := id hr
  subst hrv
  go_enter Tryd.func63, Tryd.ntmps63
  go_wp2
  go_loopw [7, 8] (fun acc i wr => ∃ (k : Nat) (s : Int), k ≤ its.length ∧ i = .int .i64 ((k : Int) - 1) ∧ acc = .int .i64 s ∧ -((szs Ts : Int) - szs (Ts.take k)) ≤ s ∧ s ≤ (szs Ts : Int) - szs (Ts.take k) ∧ Hid (behind Ts.reverse = s + behind (Ts.take k).reverse) ∧ w.grownBy wr none)
    (fun _ i _ => (intOf i + 1).toNat)
  case atStart =>
    refine ⟨its.length, 0, Nat.le_refl _, rfl, rfl, ?_, ?_, ?_, World.grownBy.refl _ _⟩
    · rw [← hfl, List.take_length]; omega
    · rw [← hfl, List.take_length]; omega
    · unfold Hid; rw [← hfl, List.take_length]; omega
  case round =>
    obtain ⟨k, s, hk, rfl, rfl, hs1, hs2, HS, hgr⟩ := hrel
    cases k with
    | zero =>
      have HR : Hid (behind Ts.reverse = s) := by unfold Hid; rw [HS.out]; simp [behind]
      clear HS
      go_wp2
      go_ret
      exact ⟨by rw [HR.out]; rfl, hgr⟩
    | succ j =>
      obtain ⟨T, hT⟩ : ∃ T, Ts[j]? = some T := ⟨_, List.getElem?_eq_getElem (by omega)⟩
      obtain ⟨x, hx⟩ : ∃ x, its[j]? = some x := ⟨_, List.getElem?_eq_getElem (by omega)⟩
      obtain ⟨a, hseg⟩ := hf.2 j T x hT hx
      have htk := take_tr Ts j T hT
      have hszt : szs (Ts.take (j + 1)) = szs (Ts.take j) + sz T := by rw [htk, szs_append]; simp [szs]
      have hle : szs (Ts.take (j + 1)) ≤ szs Ts := by
        have := szs_append (Ts.take (j + 1)) (Ts.drop (j + 1))
        rw [List.take_append_drop] at this
        omega
      have hlb := leadT_le width_bd T
      have hsz1 : sz T ≤ 140000 := by omega
      have hL := l2lead_any va sv B doc st hd T a x.1 hseg hsz1 wr (Nat.le_trans hB hgr.size) (hv.keep hgr) (hsv.keep hgr)
      obtain ⟨rb, roff, rcap', hrv, _, _, _, c1, c2⟩ := (hr.keep hgr).at hx
      cases hrv
      have HS2 : Hid (behind Ts.reverse = s + (if (leadT T).2 = true then (leadT T).1 else (leadT T).1 + behind (Ts.take j).reverse)) := by
        unfold Hid; rw [HS.out, htk, List.reverse_append]; rfl
      rw [hszt] at hs1 hs2 hle
      clear HS htk hszt hT hx hseg hf hv hsv hr
      rw [show (((j + 1 : Nat) : Int) - 1) = (j : Int) by omega]
      generalize (leadT T).1 = l1 at *
      generalize (leadT T).2 = l2 at *
      generalize x.1 = x1 at *
      cases l2 with
      | true =>
        have HR : Hid (behind Ts.reverse = s + l1) := by unfold Hid; rw [HS2.out]; simp
        clear HS2
        go_wp2_with fail
        refine hL.mono ?_
        rintro e w2 ⟨rfl, g2⟩
        go_wp2
        go_ret
        exact ⟨by rw [HR.out]; rfl, grown_trans hgr g2⟩
      | false =>
        have HR : Hid (behind Ts.reverse = (s + l1) + behind (Ts.take j).reverse) := by unfold Hid; rw [HS2.out]; simp; omega
        clear HS2
        go_wp2_with fail
        refine hL.mono ?_
        rintro e w2 ⟨rfl, g2⟩
        go_wp2
        go_roundw
        case rel => exact ⟨j, s + l1, by omega, by go_num, by go_num, by omega, by omega, HR, grown_trans hgr g2⟩
        case measure => simp [intOf]

end Go.Proofs.YtbiiopiaglkicaaDoor

