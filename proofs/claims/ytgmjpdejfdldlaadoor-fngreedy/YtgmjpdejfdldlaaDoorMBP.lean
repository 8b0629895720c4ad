import Derived.Test.YtgmjpdejfdldlaaDoorMAA
import Derived.Test.YtgmjpdejfdldlaaDoorMAH
import Derived.Test.YtgmjpdejfdldlaaDoorMBH
import Derived.Test.YtgmjpdejfdldlaaDoorMBM
namespace Go.Proofs.YtgmjpdejfdldlaaDoor
open Go.RowKit

set_option maxHeartbeats 1000000 in
set_option maxRecDepth 100000 in
theorem l2drawAny_any (F : Nat) (v : Value) (zs : List Int) (hby : Bys zs) (hm : zs.length ≤ 4194304) (i : Nat) (w : World) (hF : Rdr F w v i) (hv : RdB F w v zs) (hi : i ≤ zs.length) :
    Calls Tryd.prog 17 #[.pointer (some ⟨F, 0, none⟩)] w fun e w' => Spoilt F w (dAny zs i) e w' := by
  have hkb := nx_bd hby i
  have hl := nx_le hi
  have hFlt := hF.lt
  have HN1 := hide (next_any F v zs i w hF hv hby hm hi)
  have HV := hide hv
  have HG : Hid (∀ W : World, Rdr F W v ((nx zs i).2 : Int) → RdB F W v zs → _) := fun W a b => l2drawGood_any F v zs hby hm (nx zs i).2 W a b hl
  have hok := gdGood_ok hl
  have HP : Hid (dAny zs i = if (nx zs i).1 % 12 < 2 then spoilD zs (gdGood zs (nx zs i).2).1 (gdGood zs (nx zs i).2).2 else (gdGood zs (nx zs i).2).1) := rfl
  generalize gdGood zs (nx zs i).2 = x at *
  generalize (nx zs i).1 = k at *
  generalize (nx zs i).2 = j at *
  obtain ⟨hk0, hk1⟩ := hkb
  clear hv hF
  by_cases hk2 : k % 12 < 2
  · go_enter Tryd.func17, Tryd.ntmps17
    go_wp2_with fail
    refine HN1.out.mono ?_
    rintro e w1 ⟨rfl, f1, g1⟩
    have HV1 := hide (HV.out.beside g1 (fun k e => by cases e; omega))
    have HG1 := hide (HG.out w1 f1 HV1.out)
    clear HN1 HG f1 HV
    go_wp2_with fail
    refine HG1.out.mono ?_
    rintro e w2 ⟨v2, rfl, o2, f2, g2⟩
    have hs1 := g1.size
    have hs2 := g2.size
    have HS := hide (l2spoil_any F v zs hby hm x.2 w2 v2 x.1 f2 (HV1.out.beside g2 (fun k e => by cases e; omega)) hok.pl (o2.base (by omega)) hok.ne ⟨hok.ms, hok.nb⟩)
    have HB2 := hide (((Below.refl F w).grown g1 (by omega) (fun k e => by cases e; omega)).grown g2 (by omega) (fun k e => by cases e; omega))
    obtain ⟨oa, oc, hov, _⟩ := o2.sl
    subst hov
    clear o2 HG1 f2 g1 g2 HV1
    go_wp2_with fail
    refine HS.out.mono ?_
    rintro e w3 ⟨v3, rfl, r3, b3⟩
    obtain ⟨a3, c3, hv3, _⟩ := id r3
    have HR := hide r3
    have HB := hide (HB2.out.trans b3)
    generalize List.length _ = LL at hv3
    subst hv3
    clear HS HB2 r3 b3
    go_wp2
    go_ret
    rw [HP.out, if_pos hk2]
    exact ⟨_, rfl, HR.out, HB.out⟩
  · go_enter Tryd.func17, Tryd.ntmps17
    go_wp2_with fail
    refine HN1.out.mono ?_
    rintro e w1 ⟨rfl, f1, g1⟩
    have HV1 := hide (HV.out.beside g1 (fun k e => by cases e; omega))
    have HG1 := hide (HG.out w1 f1 HV1.out)
    clear HN1 HG f1 HV
    go_wp2_with fail
    refine HG1.out.mono ?_
    rintro e w2 ⟨v2, rfl, o2, f2, g2⟩
    have hs1 := g1.size
    have hs2 := g2.size
    have HB2 := hide (((Below.refl F w).grown g1 (by omega) (fun k e => by cases e; omega)).grown g2 (by omega) (fun k e => by cases e; omega))
    have HO := hide o2.pi.rdP
    obtain ⟨oa, oc, hov, _⟩ := o2.sl
    subst hov
    clear o2 HG1 f2 g1 g2 HV1
    go_wp2
    go_ret
    rw [HP.out, if_neg (by omega)]
    exact ⟨_, rfl, HO.out, HB2.out⟩

set_option maxHeartbeats 1000000 in
set_option maxRecDepth 100000 in
theorem l3drawWidth_any (F : Nat) (v : Value) (zs : List Int) (hby : Bys zs) (hm : zs.length ≤ 4194304) (i : Nat) (w : World) (hF : Rdr F w v i) (hv : RdB F w v zs) (hi : i ≤ zs.length) :
    Calls Tryd.prog 16 #[.pointer (some ⟨F, 0, none⟩)] w fun e w' => e = .returned (.int .i64 (dWid (nx zs i).1)) ∧ Rdr F w' v ((nx zs i).2 : Int) ∧ w.grownBy w' (some F) := by
  have hkb := nx_bd hby i
  have HN1 := hide (next_any F v zs i w hF hv hby hm hi)
  have HP : Hid (dWid (nx zs i).1 = if (nx zs i).1 = 250 then -1 else if 250 < (nx zs i).1 then 65535 - 252 + (nx zs i).1 else (nx zs i).1 % 40) := rfl
  generalize dWid (nx zs i).1 = D at *
  generalize (nx zs i).1 = k at *
  generalize (nx zs i).2 = j at *
  obtain ⟨hk0, hk1⟩ := hkb
  clear hv hF
  by_cases h1 : k = 250
  · have b1 : (k == 250) = true := by simpa using h1
    have e1 : D = -1 := by rw [HP.out, if_pos h1]
    clear h1 HP
    go_enter Tryd.func16, Tryd.ntmps16
    go_wp2_with fail
    refine HN1.out.mono ?_
    rintro e w1 ⟨rfl, f1, g1⟩
    go_wp2
    go_ret
    rw [e1]
    exact ⟨rfl, f1, g1⟩
  · have b1 : (k == 250) = false := by simpa using h1
    by_cases h2 : 250 < k
    · have e1 : D = 65535 - 252 + k := by rw [HP.out, if_neg h1, if_pos h2]
      clear HP
      go_enter Tryd.func16, Tryd.ntmps16
      go_wp2_with fail
      refine HN1.out.mono ?_
      rintro e w1 ⟨rfl, f1, g1⟩
      go_wp2
      go_ret
      rw [e1]
      exact ⟨by go_num, f1, g1⟩
    · have e1 : D = k % 40 := by rw [HP.out, if_neg h1, if_neg h2]
      clear HP
      go_enter Tryd.func16, Tryd.ntmps16
      go_wp2_with fail
      refine HN1.out.mono ?_
      rintro e w1 ⟨rfl, f1, g1⟩
      go_wp2
      go_ret
      rw [e1]
      exact ⟨by go_num, f1, g1⟩

theorem rd_open (a : Option Addr) (cap : Nat) (zs : List Int) (w : World) (o : Obj) (hv : RdB w.heap.size w (.slice a zs.length cap) zs) :
    RdB w.heap.size (w.alloc o) (.slice a (min 500 zs.length) cap) (zs.take 500) := by
  obtain ⟨a', cap', e, hr⟩ := hv
  cases e
  refine ⟨a, cap, by rw [List.length_take], fun h0 => ?_⟩
  obtain ⟨b, off, ha, hb, hc⟩ := hr (fun e => h0 (by rw [e]; simp))
  refine ⟨b, off, ha, hb, fun j hj => ?_⟩
  rw [List.length_take] at hj
  rw [(World.grownBy_alloc w o none).cell (hc j (by omega)) (by simp), List.getElem?_take, if_pos (by omega)]
theorem bys_take {zs : List Int} (h : Bys zs) (n : Nat) : Bys (zs.take n) := fun z hz => h z (List.mem_of_mem_take hz)

set_option maxHeartbeats 1000000 in
set_option maxRecDepth 100000 in
theorem drawLayout_any (a : Option Addr) (cap : Nat) (zs : List Int) (w : World) (hv : RdB w.heap.size w (.slice a zs.length cap) zs) (hby : Bys zs) (hm : zs.length ≤ 1048576) (hlc : zs.length ≤ cap) (hcm : cap ≤ 9223372036854775807) :
    Calls Tryd.prog 4 #[.slice a zs.length cap] w fun e w' => ∃ v', e = .returned (.tuple #[v', .int .i64 (dLay zs).2]) ∧ RdP w'.heap.size w' v' (dLay zs).1 ∧ w.grownBy w' none := by
  have HO := hide (l1open_any a cap zs w hm hlc hcm)
  have gA := World.grownBy_alloc w (.cells #[.slice a (min 500 zs.length) cap, .int .i64 0] 86) none
  have HV := hide (rd_open a cap zs w (.cells #[.slice a (min 500 zs.length) cap, .int .i64 0] 86) hv)
  have HR : Hid (Rdr w.heap.size (w.alloc (.cells #[.slice a (min 500 zs.length) cap, .int .i64 0] 86)) (.slice a (min 500 zs.length) cap) ((0 : Nat) : Int)) := heap_alloc_new w _
  have hb5 := bys_take hby 500
  have hl5 : (zs.take 500).length ≤ 4194304 := by rw [List.length_take]; omega
  have hn0 := nx_le (zs := zs.take 500) (i := 0) (Nat.zero_le _)
  have HP1 : Hid ((dLay zs).1 = dAny (zs.take 500) (nx (zs.take 500) 0).2) := rfl
  have HP2 : Hid ((dLay zs).2 = dWid (nx (zs.take 500) 0).1) := rfl
  have HW := hide (l3drawWidth_any w.heap.size (.slice a (min 500 zs.length) cap) (zs.take 500) hb5 hl5 0 _ HR.out HV.out (Nat.zero_le _))
  have HB0 := hide (((Below.refl w.heap.size w).alloc (Nat.le_refl _) (.cells #[.slice a (min 500 zs.length) cap, .int .i64 0] 86)))
  have HS0 := hide gA.size
  have HA : Hid (∀ W : World, Rdr w.heap.size W (.slice a (min 500 zs.length) cap) ((nx (zs.take 500) 0).2 : Int) → RdB w.heap.size W (.slice a (min 500 zs.length) cap) (zs.take 500) → _) := fun W x y => l2drawAny_any w.heap.size (.slice a (min 500 zs.length) cap) (zs.take 500) hb5 hl5 _ W x y hn0
  clear hv gA
  generalize (nx (zs.take 500) 0).1 = k at *
  generalize (nx (zs.take 500) 0).2 = j at *
  generalize dWid k = D at *
  generalize dAny (zs.take 500) j = E at *
  go_enter Tryd.func4, Tryd.ntmps4
  go_wp2_with fail
  refine HO.out.mono ?_
  rintro e w1 ⟨rfl, rfl⟩
  clear HO
  go_wp2_with fail
  refine HW.out.mono ?_
  rintro e w2 ⟨rfl, f2, g2⟩
  have HA2 := hide (HA.out w2 f2 (HV.out.beside g2 (fun k e => by cases e; omega)))
  have HB2 := hide (HB0.out.grown g2 HS0.out (fun k e => by cases e; omega))
  clear HA HW f2 g2 HB0 HS0
  go_wp2_with fail
  refine HA2.out.mono ?_
  rintro e w3 ⟨v3, rfl, r3, b3⟩
  have HR3 := hide r3
  have HB3 := hide (grown_of_below (HB2.out.trans b3))
  obtain ⟨a3, c3, hv3, _⟩ := id r3
  generalize List.length _ = LL at hv3
  subst hv3
  clear HA2 HB2 r3 b3
  go_wp2
  go_ret2
  rw [HP1.out, HP2.out]
  exact ⟨_, rfl, HR3.out, HB3.out⟩

end Go.Proofs.YtgmjpdejfdldlaaDoor

namespace Go.Proofs.YtgmjpdejfdldlaaDoor
open Go.RowKit

/-- What Render's closure answers. -/
def dR (cs : List Int) (j : Nat) (_ : Int) : Bool := decide (cs[j]?.getD 0 = 1)

/-- Choices that can be taken: the printer takes them. -/
theorem pm_render (width : Int) (cs : List Int) : ∀ (m : Nat) (its : List Item) (ts : List PT) (out met : List Int) (col : Int) (o q : List Int), szs (trs its) ≤ m → Mt its ts →
    layL width (some cs) its out met col = some (o, q) → pmL (dR cs) ts out col met = (o, q)
  | m, [], [], out, met, col, o, q, _, _, hl => by
    rw [layL_nil] at hl
    rw [pmL_nil]
    exact Option.some.inj hl
  | m, ⟨.leaf p, n, ind⟩ :: its, ⟨T, n', ind', fl, bw, be⟩ :: ts, out, met, col, o, q, hm, h, hl => by
    simp only [Mt] at h
    obtain ⟨⟨rfl, rfl, rfl, rfl, rfl⟩, hk, hM⟩ := h
    rw [trs_cons] at hm
    simp only [szs, sz] at hm
    cases m with
    | zero => omega
    | succ m =>
    have ih := fun oo c hh => pm_render width cs m its ts oo met c o q (by omega) hM hh
    simp only [KOk] at hk
    rw [layL_leaf] at hl
    rw [pmL_leaf]
    by_cases h1 : p.k = 1
    · rw [if_pos h1] at hl
      rw [brk_none (.inr h1), if_neg (by simp), if_pos h1]
      exact ih _ _ hl
    · rw [if_neg h1] at hl
      by_cases h5 : p.k = 5
      · rw [if_pos h5] at hl
        rw [brk_raw h5, if_pos rfl]
        have := ih _ _ hl
        simpa using this
      · rw [if_neg h5] at hl
        by_cases h234 : p.k = 2 ∨ p.k = 3 ∨ p.k = 4
        · rw [if_pos h234] at hl
          rw [brk_line h234, if_pos rfl]
          have := ih _ _ hl
          simpa [newLine] using this
        · rw [if_neg h234] at hl
          rw [brk_none (.inl (by omega)), if_neg (by simp), if_neg h1, if_neg (by omega)]
          exact ih _ _ hl
  | m, ⟨.un p x, n, ind⟩ :: its, ⟨T, n', ind', fl, bw, be⟩ :: ts, out, met, col, o, q, hm, h, hl => by
    simp only [Mt] at h
    obtain ⟨⟨rfl, rfl, rfl, rfl, rfl⟩, hk, hM⟩ := h
    rw [trs_cons] at hm
    simp only [szs, sz] at hm
    cases m with
    | zero => omega
    | succ m =>
    simp only [KOk] at hk
    have ih1 := fun i oo mm c hh => pm_render width cs m (⟨x, n', i⟩ :: its) (⟨x, n', i, false, behind (its.map (·.T)), be⟩ :: ts) oo mm c o q (by rw [trs_cons]; simp only [szs]; omega) ⟨⟨rfl, rfl, rfl, rfl, rfl⟩, hk.2, hM⟩ hh
    have ih0 := fun oo mm c hh => pm_render width cs m its ts oo mm c o q (by omega) hM hh
    have hfw := flat_w x hk.2
    rw [layL_un] at hl
    rw [pmL_un]
    rcases hk.1 with h7 | h8
    · rw [if_pos h7] at hl
      rw [if_pos h7]
      exact ih1 _ _ _ _ hl
    · rw [if_neg (by omega)] at hl
      rw [if_neg (by omega)]
      simp only at hl
      simp only [Bool.false_or]
      by_cases hg1 : cs[n' + cntG x]?.getD 0 = 1
      · rw [if_pos hg1] at hl
        cases ex : flatT x [] with
        | none => rw [ex] at hl; cases hl
        | some text =>
          rw [ex] at hl
          have hw := hfw.1 text ex
          have hc : canR (flatW x) col (behind (its.map (·.T))) (dR cs (n' + cntG x)) = true := by unfold canR dR; rw [if_neg (by omega)]; simpa using hg1
          rw [hc]
          simp only [if_true]
          rw [pm_flat _ x _ _ _ _ _ _ _ _ text hk.2 ex]
          simp only [markF, if_pos h8] at hl
          rw [hw.1]
          exact ih0 _ _ _ hl
      · rw [if_neg hg1] at hl
        have hc : canR (flatW x) col (behind (its.map (·.T))) (dR cs (n' + cntG x)) = false := by
          unfold canR dR; split
          · rfl
          · simpa using hg1
        rw [hc]
        simp only [Bool.false_eq_true, if_false]
        by_cases hg2 : cs[n' + cntG x]?.getD 0 = 2
        · rw [if_pos hg2] at hl
          exact ih1 _ _ _ _ hl
        · rw [if_neg hg2] at hl
          cases hl
  | m, ⟨.bin p x y, n, ind⟩ :: its, ⟨T, n', ind', fl, bw, be⟩ :: ts, out, met, col, o, q, hm, h, hl => by
    simp only [Mt] at h
    obtain ⟨⟨rfl, rfl, rfl, rfl, rfl⟩, hk, hM⟩ := h
    rw [trs_cons] at hm
    simp only [szs, sz] at hm
    cases m with
    | zero => omega
    | succ m =>
    simp only [KOk] at hk
    rw [layL_bin] at hl
    rw [pmL_bin]
    rcases hk.1 with h6 | h9
    · rw [if_pos h6] at hl
      rw [if_pos h6]
      refine pm_render width cs m (⟨x, n', ind'⟩ :: ⟨y, n' + cntG x, ind'⟩ :: its) _ _ _ _ o q (by rw [trs_cons, trs_cons]; simp only [szs]; omega) ⟨⟨rfl, rfl, rfl, rfl, ?_⟩, hk.2.1, ⟨rfl, rfl, rfl, rfl, rfl⟩, hk.2.2, hM⟩ hl
      simp only [List.map_cons, behind]
    · rw [if_neg (by omega)] at hl
      rw [if_neg (by omega)]
      simp only [Bool.false_eq_true, if_false]
      exact pm_render width cs m (⟨x, n', ind'⟩ :: its) _ _ _ _ o q (by rw [trs_cons]; simp only [szs]; omega) ⟨⟨rfl, rfl, rfl, rfl, rfl⟩, hk.2.1, hM⟩ hl
  | _, [], _ :: _, _, _, _, _, _, _, h, _ => h.elim
  | _, _ :: _, [], _, _, _, _, _, _, h, _ => by cases h

theorem pm_len (d : Nat → Int → Bool) : ∀ (f : Nat) (ts : List PT) (tx : List Int) (col : Int) (ch : List Int), (pm d f ts tx col ch).2.length = ch.length
  | 0, _, _, _, _ => rfl
  | _ + 1, [], _, _, _ => rfl
  | f + 1, ⟨.leaf p, n, ind, fl, bw, be⟩ :: r, tx, col, ch => by
    simp only [pm]
    repeat' split
    all_goals exact pm_len d f _ _ _ _
  | f + 1, ⟨.un p x, n, ind, fl, bw, be⟩ :: r, tx, col, ch => by
    simp only [pm]
    split
    · exact pm_len d f _ _ _ _
    · rw [pm_len d f]; simp
  | f + 1, ⟨.bin p x y, n, ind, fl, bw, be⟩ :: r, tx, col, ch => by
    simp only [pm]
    split
    · exact pm_len d f _ _ _ _
    · exact pm_len d f _ _ _ _

/-- No task covers group g. -/
def Off (g : Nat) (ts : List PT) : Prop := ∀ t ∈ ts, g < t.n ∨ t.n + cntG t.T ≤ g
theorem pm_keep (d : Nat → Int → Bool) (g : Nat) : ∀ (f : Nat) (ts : List PT) (tx : List Int) (col : Int) (ch : List Int), Off g ts → (∀ t ∈ ts, KOk t.T) → (pm d f ts tx col ch).2[g]? = ch[g]?
  | 0, _, _, _, _, _, _ => rfl
  | _ + 1, [], _, _, _, _, _ => rfl
  | f + 1, ⟨.leaf p, n, ind, fl, bw, be⟩ :: r, tx, col, ch, h, hk => by
    have hr : Off g r := fun t ht => h t (List.mem_cons_of_mem _ ht)
    have hkr : ∀ t ∈ r, KOk t.T := fun t ht => hk t (List.mem_cons_of_mem _ ht)
    simp only [pm]
    split
    · exact pm_keep d g f _ _ _ _ hr hkr
    · split
      · exact pm_keep d g f _ _ _ _ hr hkr
      · split
        · exact pm_keep d g f _ _ _ _ hr hkr
        · exact pm_keep d g f _ _ _ _ hr hkr
  | f + 1, ⟨.un p x, n, ind, fl, bw, be⟩ :: r, tx, col, ch, h, hk => by
    have hr : Off g r := fun t ht => h t (List.mem_cons_of_mem _ ht)
    have hkr : ∀ t ∈ r, KOk t.T := fun t ht => hk t (List.mem_cons_of_mem _ ht)
    have h0 := h _ (List.mem_cons_self)
    have k0 := hk _ (List.mem_cons_self)
    simp only [KOk] at k0
    simp only [cntG] at h0
    have hx : ∀ i b1, Off g (⟨x, n, i, b1, bw, be⟩ :: r) := fun i b1 t ht => by
      rcases List.mem_cons.1 ht with rfl | ht
      · simp only; split at h0 <;> omega
      · exact hr t ht
    have hkx : ∀ i b1, ∀ t ∈ (⟨x, n, i, b1, bw, be⟩ : PT) :: r, KOk t.T := fun i b1 t ht => by
      rcases List.mem_cons.1 ht with rfl | ht
      · exact k0.2
      · exact hkr t ht
    simp only [pm]
    split
    · exact pm_keep d g f _ _ _ _ (hx _ _) (hkx _ _)
    · rename_i h7
      rw [pm_keep d g f _ _ _ _ (hx _ _) (hkx _ _)]
      rw [if_pos (by rcases k0.1 with e | e <;> omega)] at h0
      rw [List.getElem?_set_ne (by omega)]
  | f + 1, ⟨.bin p x y, n, ind, fl, bw, be⟩ :: r, tx, col, ch, h, hk => by
    have hr : Off g r := fun t ht => h t (List.mem_cons_of_mem _ ht)
    have hkr : ∀ t ∈ r, KOk t.T := fun t ht => hk t (List.mem_cons_of_mem _ ht)
    have h0 := h _ (List.mem_cons_self)
    have k0 := hk _ (List.mem_cons_self)
    simp only [KOk] at k0
    simp only [cntG] at h0
    simp only [pm]
    split
    · refine pm_keep d g f _ _ _ _ (fun t ht => ?_) (fun t ht => ?_)
      · rcases List.mem_cons.1 ht with rfl | ht
        · simp only; omega
        · rcases List.mem_cons.1 ht with rfl | ht
          · simp only; omega
          · exact hr t ht
      · rcases List.mem_cons.1 ht with rfl | ht
        · exact k0.2.1
        · rcases List.mem_cons.1 ht with rfl | ht
          · exact k0.2.2
          · exact hkr t ht
    · refine pm_keep d g f _ _ _ _ (fun t ht => ?_) (fun t ht => ?_)
      · rcases List.mem_cons.1 ht with rfl | ht
        · cases fl <;> simp <;> omega
        · exact hr t ht
      · rcases List.mem_cons.1 ht with rfl | ht
        · cases fl
          · exact k0.2.1
          · exact k0.2.2
        · exact hkr t ht

/-- The groups of the tasks stand one behind another. -/
def Ord : List Item → Prop
  | [] => True
  | it :: r => (∀ s ∈ r, it.n + cntG it.T ≤ s.n) ∧ Ord r
theorem mt_kok : ∀ {its : List Item} {ts : List PT}, Mt its ts → ∀ t ∈ ts, KOk t.T
  | [], [], _, t, ht => by cases ht
  | it :: its, t0 :: ts, h, t, ht => by
    simp only [Mt] at h
    rcases List.mem_cons.1 ht with rfl | ht
    · rw [h.1.1]; exact h.2.1
    · exact mt_kok h.2.2 t ht
  | [], _ :: _, h, _, _ => h.elim
  | _ :: _, [], h, _, _ => h.elim
theorem mt_off {g : Nat} : ∀ {its : List Item} {ts : List PT}, Mt its ts → (∀ s ∈ its, g < s.n) → Off g ts
  | [], [], _, _, t, ht => by cases ht
  | it :: its, t0 :: ts, h, hg, t, ht => by
    simp only [Mt] at h
    rcases List.mem_cons.1 ht with rfl | ht
    · left; rw [h.1.2.1]; exact hg it List.mem_cons_self
    · exact mt_off h.2.2 (fun s hs => hg s (List.mem_cons_of_mem _ hs)) t ht
  | [], _ :: _, h, _, _, _ => h.elim
  | _ :: _, [], h, _, _, _ => h.elim

/-- Choices that cannot be taken: the printer comes to others. -/
theorem pm_refuse (width : Int) (cs : List Int) : ∀ (m : Nat) (its : List Item) (ts : List PT) (out met : List Int) (col : Int), szs (trs its) ≤ m → Mt its ts → Ord its → (∀ s ∈ its, s.n + cntG s.T ≤ met.length) →
    layL width (some cs) its out met col = none → ∃ g : Nat, (pmL (dR cs) ts out col met).2[g]? = some 2 ∧ cs[g]?.getD 0 ≠ 2
  | m, [], [], out, met, col, _, _, _, _, hl => by rw [layL_nil] at hl; cases hl
  | m, ⟨.leaf p, n, ind⟩ :: its, ⟨T, n', ind', fl, bw, be⟩ :: ts, out, met, col, hm, h, hO, hG, hl => by
    simp only [Mt] at h
    obtain ⟨⟨rfl, rfl, rfl, rfl, rfl⟩, hk, hM⟩ := h
    rw [trs_cons] at hm
    simp only [szs, sz] at hm
    cases m with
    | zero => omega
    | succ m =>
    have ih := fun oo c hh => pm_refuse width cs m its ts oo met c (by omega) hM hO.2 (fun s hs => hG s (List.mem_cons_of_mem _ hs)) hh
    simp only [KOk] at hk
    rw [layL_leaf] at hl
    rw [pmL_leaf]
    by_cases h1 : p.k = 1
    · rw [if_pos h1] at hl
      rw [brk_none (.inr h1), if_neg (by simp), if_pos h1]
      exact ih _ _ hl
    · rw [if_neg h1] at hl
      by_cases h5 : p.k = 5
      · rw [if_pos h5] at hl
        rw [brk_raw h5, if_pos rfl]
        have := ih _ _ hl
        simpa using this
      · rw [if_neg h5] at hl
        by_cases h234 : p.k = 2 ∨ p.k = 3 ∨ p.k = 4
        · rw [if_pos h234] at hl
          rw [brk_line h234, if_pos rfl]
          have := ih _ _ hl
          simpa [newLine] using this
        · rw [if_neg h234] at hl
          rw [brk_none (.inl (by omega)), if_neg (by simp), if_neg h1, if_neg (by omega)]
          exact ih _ _ hl
  | m, ⟨.un p x, n, ind⟩ :: its, ⟨T, n', ind', fl, bw, be⟩ :: ts, out, met, col, hm, h, hO, hG, hl => by
    simp only [Mt] at h
    obtain ⟨⟨rfl, rfl, rfl, rfl, rfl⟩, hk, hM⟩ := h
    rw [trs_cons] at hm
    simp only [szs, sz] at hm
    cases m with
    | zero => omega
    | succ m =>
    simp only [KOk] at hk
    have hO1 := hO.1
    have hG0 := hG _ List.mem_cons_self
    simp only [cntG] at hO1 hG0
    have hGr : ∀ s ∈ its, s.n + cntG s.T ≤ met.length := fun s hs => hG s (List.mem_cons_of_mem _ hs)
    have ih1 := fun (i : Int) (oo mm : List Int) (c : Int) (hlen : mm.length = met.length) hh => pm_refuse width cs m (⟨x, n', i⟩ :: its) (⟨x, n', i, false, behind (its.map (·.T)), be⟩ :: ts) oo mm c (by rw [trs_cons]; simp only [szs]; omega) ⟨⟨rfl, rfl, rfl, rfl, rfl⟩, hk.2, hM⟩
      ⟨fun s hs => by have := hO1 s hs; simp only; omega, hO.2⟩ (fun s hs => by
        rw [hlen]
        rcases List.mem_cons.1 hs with rfl | hs
        · simp only; omega
        · exact hGr s hs) hh
    have ih0 := fun (oo mm : List Int) (c : Int) (hlen : mm.length = met.length) hh => pm_refuse width cs m its ts oo mm c (by omega) hM hO.2 (fun s hs => by rw [hlen]; exact hGr s hs) hh
    have hfw := flat_w x hk.2
    rw [layL_un] at hl
    rw [pmL_un]
    rcases hk.1 with h7 | h8
    · rw [if_pos h7] at hl
      rw [if_pos h7]
      exact ih1 _ _ _ _ rfl hl
    · rw [if_pos h8] at hG0
      rw [if_neg (by omega)] at hl
      rw [if_neg (by omega)]
      simp only at hl
      simp only [Bool.false_or]
      have hbad : cs[n' + cntG x]?.getD 0 ≠ 2 → canR (flatW x) col (behind (its.map (·.T))) (dR cs (n' + cntG x)) = false →
          ∃ g : Nat, (pmL (dR cs) (⟨x, n', ind', false, behind (its.map (·.T)), be⟩ :: ts) out col (met.set (n' + cntG x) 2)).2[g]? = some 2 ∧ cs[g]?.getD 0 ≠ 2 := fun h2 _ => by
        refine ⟨n' + cntG x, ?_, h2⟩
        unfold pmL
        rw [pm_keep]
        · rw [List.getElem?_set_self (by omega)]
        · intro t ht
          rcases List.mem_cons.1 ht with rfl | ht
          · right; simp
          · exact mt_off hM (fun s hs => by have := hO1 s hs; rw [if_pos h8] at this; omega) t ht
        · intro t ht
          rcases List.mem_cons.1 ht with rfl | ht
          · exact hk.2
          · exact mt_kok hM t ht
      by_cases hg1 : cs[n' + cntG x]?.getD 0 = 1
      · rw [if_pos hg1] at hl
        cases ex : flatT x [] with
        | none =>
          have hc : canR (flatW x) col (behind (its.map (·.T))) (dR cs (n' + cntG x)) = false := by unfold canR; rw [if_pos (hfw.2 ex)]
          rw [hc]
          simp only [Bool.false_eq_true, if_false]
          exact hbad (by omega) hc
        | some text =>
          rw [ex] at hl
          have hw := hfw.1 text ex
          have hc : canR (flatW x) col (behind (its.map (·.T))) (dR cs (n' + cntG x)) = true := by unfold canR dR; rw [if_neg (by omega)]; simpa using hg1
          rw [hc]
          simp only [if_true]
          rw [pm_flat _ x _ _ _ _ _ _ _ _ text hk.2 ex]
          simp only [markF, if_pos h8] at hl
          rw [hw.1]
          exact ih0 _ _ _ (by rw [markF_len]; simp) hl
      · rw [if_neg hg1] at hl
        have hc : canR (flatW x) col (behind (its.map (·.T))) (dR cs (n' + cntG x)) = false := by
          unfold canR dR; split
          · rfl
          · simpa using hg1
        rw [hc]
        simp only [Bool.false_eq_true, if_false]
        by_cases hg2 : cs[n' + cntG x]?.getD 0 = 2
        · rw [if_pos hg2] at hl
          exact ih1 _ _ _ _ (by simp) hl
        · exact hbad hg2 hc
  | m, ⟨.bin p x y, n, ind⟩ :: its, ⟨T, n', ind', fl, bw, be⟩ :: ts, out, met, col, hm, h, hO, hG, hl => by
    simp only [Mt] at h
    obtain ⟨⟨rfl, rfl, rfl, rfl, rfl⟩, hk, hM⟩ := h
    rw [trs_cons] at hm
    simp only [szs, sz] at hm
    cases m with
    | zero => omega
    | succ m =>
    simp only [KOk] at hk
    have hO1 := hO.1
    have hG0 := hG _ List.mem_cons_self
    simp only [cntG] at hO1 hG0
    have hGr : ∀ s ∈ its, s.n + cntG s.T ≤ met.length := fun s hs => hG s (List.mem_cons_of_mem _ hs)
    rw [layL_bin] at hl
    rw [pmL_bin]
    rcases hk.1 with h6 | h9
    · rw [if_pos h6] at hl
      rw [if_pos h6]
      refine pm_refuse width cs m (⟨x, n', ind'⟩ :: ⟨y, n' + cntG x, ind'⟩ :: its) _ _ _ _ (by rw [trs_cons, trs_cons]; simp only [szs]; omega) ⟨⟨rfl, rfl, rfl, rfl, ?_⟩, hk.2.1, ⟨rfl, rfl, rfl, rfl, rfl⟩, hk.2.2, hM⟩ ⟨fun s hs => ?_, fun s hs => ?_, hO.2⟩ (fun s hs => ?_) hl
      · simp only [List.map_cons, behind]
      · rcases List.mem_cons.1 hs with rfl | hs
        · simp
        · have := hO1 s hs; simp only; omega
      · have := hO1 s hs; simp only; omega
      · rcases List.mem_cons.1 hs with rfl | hs
        · simp only; omega
        · rcases List.mem_cons.1 hs with rfl | hs
          · simp only; omega
          · exact hGr s hs
    · rw [if_neg (by omega)] at hl
      rw [if_neg (by omega)]
      simp only [Bool.false_eq_true, if_false]
      refine pm_refuse width cs m (⟨x, n', ind'⟩ :: its) _ _ _ _ (by rw [trs_cons]; simp only [szs]; omega) ⟨⟨rfl, rfl, rfl, rfl, rfl⟩, hk.2.1, hM⟩ ⟨fun s hs => ?_, hO.2⟩ (fun s hs => ?_) hl
      · have := hO1 s hs; simp only; omega
      · rcases List.mem_cons.1 hs with rfl | hs
        · simp only; omega
        · exact hGr s hs
  | _, [], _ :: _, _, _, _, _, h, _, _, _ => h.elim
  | _, _ :: _, [], _, _, _, _, h, _, _, _ => by cases h

end Go.Proofs.YtgmjpdejfdldlaaDoor

namespace Go.Proofs.YtgmjpdejfdldlaaDoor
open Go.RowKit

theorem slEq_false_of {za zb : List Int} (k : Nat) (h : za[k]?.getD 0 ≠ zb[k]?.getD 0) : decide (za = zb) = false := by
  simp only [decide_eq_false_iff_not]; intro e; exact h (by rw [e])

set_option maxHeartbeats 400000 in
set_option maxRecDepth 100000 in
theorem slEq_any (va vb : Value) (za zb : List Int) (w : World) (ha : Rd .i64 w.heap.size w va za) (hb : Rd .i64 w.heap.size w vb zb) (hn : za.length ≤ 600000000) :
    Calls Tryd.prog 26 #[va, vb] w fun e w' => e = .returned (.bool (decide (za = zb))) ∧ ∃ m, w' = w.drewN m := by
  obtain ⟨a, capa, rfl, hra⟩ := ha
  obtain ⟨b, capb, rfl, hrb⟩ := hb
  by_cases hl : za.length = zb.length
  · have hne : ((za.length : Int) != (zb.length : Int)) = false := by simp [hl]
    have HL : Hid (za.length = zb.length) := hl
    clear hl
    go_enter Tryd.func26, Tryd.ntmps26
    go_wp2
    go_loopw [13] (fun i wr => ∃ k m : Nat, k ≤ za.length ∧ i = .int .i64 k ∧ za.take k = zb.take k ∧ wr = w.drewN m)
      (fun i _ => za.length - (intOf i).toNat)
    case atStart => exact ⟨0, 0, Nat.zero_le _, rfl, by simp, rfl⟩
    case round =>
      obtain ⟨k, m, hk, rfl, ht, hwr⟩ := hrel
      subst hwr
      by_cases hlt : k < za.length
      · have hlt2 : k < zb.length := by rw [← HL.out]; exact hlt
        obtain ⟨ba, offa, rfl, hba, hca⟩ := hra (fun h => by simp [h] at hlt)
        obtain ⟨bb, offb, rfl, hbb, hcb⟩ := hrb (fun h => by simp [h] at hlt2)
        have hxa := hca k hlt
        have hxb := hcb k hlt2
        have hta := take_snoc za k hlt
        have htb := take_snoc zb k hlt2
        have hla : (k : Int) < (za.length : Int) := by omega
        have hlb : (k : Int) < (zb.length : Int) := by omega
        clear hca hcb hra hrb
        by_cases hz : za[k]?.getD 0 = zb[k]?.getD 0
        · have HT : Hid (za.take (k + 1) = zb.take (k + 1)) := by unfold Hid; rw [hta, htb, ht, hz]
          clear hta htb ht
          rw [← hz] at hxb
          clear hz
          generalize za[k]?.getD 0 = z at hxa hxb
          go_wp2
          go_quiet (fail)
          go_wp2
          go_roundw
          case rel => exact ⟨k + 1, _, by omega, by go_num, HT.out, rfl⟩
          case measure => simp [intOf]; omega
        · have HF : Hid (decide (za = zb) = false) := slEq_false_of k hz
          generalize za[k]?.getD 0 = z at hxa hz
          generalize zb[k]?.getD 0 = z2 at hxb hz
          clear hta htb ht
          have hz2 : (z != z2) = true := by simp [hz]
          clear hz
          go_wp2
          go_quiet (fail)
          go_wp2
          go_ret
          exact ⟨by rw [HF.out]; rfl, m + nq, by rw [World.drewN_drewN]⟩
      · have HF : Hid (decide (za = zb) = true) := by
          unfold Hid
          rw [List.take_of_length_le (by omega), List.take_of_length_le (by have := HL.out; omega)] at ht
          simp [ht]
        clear ht
        go_wp2
        go_ret
        exact ⟨by rw [HF.out]; rfl, _, rfl⟩
  · have hne : ((za.length : Int) != (zb.length : Int)) = true := by simp; omega
    have HF : Hid (decide (za = zb) = false) := by
      unfold Hid
      simp only [decide_eq_false_iff_not]; intro e; exact hl (by rw [e])
    clear hl
    go_enter Tryd.func26, Tryd.ntmps26
    go_wp2
    go_ret
    exact ⟨by rw [HF.out]; rfl, 0, rfl⟩

theorem slEq_same (va vb : Value) (zs : List Int) (w : World) (ha : Rd .i64 w.heap.size w va zs) (hb : Rd .i64 w.heap.size w vb zs) (hn : zs.length ≤ 600000000) :
    Calls Tryd.prog 26 #[va, vb] w fun e w' => e = .returned (.bool true) ∧ w.grownBy w' none := by
  refine (slEq_any va vb zs zs w ha hb hn).mono ?_
  rintro e w' ⟨rfl, m, rfl⟩
  exact ⟨by simp, grown_drewN (World.grownBy.refl _ _) m⟩

end Go.Proofs.YtgmjpdejfdldlaaDoor

namespace Go.Proofs.YtgmjpdejfdldlaaDoor
open Go.RowKit

set_option maxHeartbeats 1000000 in
set_option maxRecDepth 100000 in
theorem countGroups_any (v : Value) (doc : List Pc) (w : World) (hv : RdP w.heap.size w v doc) (hn : doc.length ≤ 1048576) :
    Calls Tryd.prog 24 #[v] w fun e w' => e = .returned (.int .i64 (grp doc doc.length : Int)) ∧ w.grownBy w' none := by
  obtain ⟨a, cap, hv0, _⟩ := id hv
  subst hv0
  go_enter Tryd.func24, Tryd.ntmps24
  go_wp2
  go_loopw [3, 8] (fun gv i wr => ∃ k : Nat, k ≤ doc.length ∧ i = .int .i64 k ∧ gv = .int .i64 (grp doc k : Int) ∧ w.grownBy wr none)
    (fun _ i _ => doc.length - (intOf i).toNat)
  case atStart => exact ⟨0, Nat.zero_le _, rfl, by rw [grp_zero]; rfl, World.grownBy.refl _ _⟩
  case round =>
    obtain ⟨k, hk, rfl, rfl, hg⟩ := hrel
    have hle := grp_le doc k
    by_cases hlt : k < doc.length
    · obtain ⟨b, off, cap', tv, hva, hb, hp⟩ := (hv.keep hg).at k hlt
      cases hva
      have hk0 := hp.k
      have hk1 := hp.t
      have hk2 := hp.n
      have hsn := grp_succ doc k hlt
      have HG := hide hg
      have hin : (k : Int) < (doc.length : Int) := by omega
      obtain ⟨ta, tcap, htv, _, _⟩ := hp.sl
      subst htv
      clear hv hp hg
      by_cases h8 : doc[k].k = 8
      · have q8 : (doc[k].k == 8) = true := by rw [h8]; rfl
        rw [if_pos h8] at hsn
        have HS := hide hsn
        clear hsn h8
        generalize doc[k].k = kk at *
        generalize grp doc k = gk at *
        go_wp2
        go_roundw
        case rel => exact ⟨k + 1, by omega, by go_num, by rw [HS.out]; go_num, grown_trans HG.out (World.grownBy_alloc _ _ _)⟩
        case measure => simp [intOf]; omega
      · have q8 : (doc[k].k == 8) = false := by simpa using h8
        rw [if_neg h8] at hsn
        have HS := hide hsn
        clear hsn h8
        generalize doc[k].k = kk at *
        generalize grp doc k = gk at *
        go_wp2
        go_roundw
        case rel => exact ⟨k + 1, by omega, by go_num, by rw [HS.out]; go_num, grown_trans HG.out (World.grownBy_alloc _ _ _)⟩
        case measure => simp [intOf]; omega
    · have hkn : k = doc.length := by omega
      subst hkn
      clear hv
      go_wp2
      go_ret
      exact ⟨rfl, hg⟩

end Go.Proofs.YtgmjpdejfdldlaaDoor

