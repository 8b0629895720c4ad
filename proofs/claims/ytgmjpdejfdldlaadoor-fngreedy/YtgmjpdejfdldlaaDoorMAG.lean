import Derived.Handy
import Derived.Test.YtgmjpdejfdldlaaDoorMAA
import Derived.Test.YtgmjpdejfdldlaaDoorMAB
import Derived.Test.YtgmjpdejfdldlaaDoorMAF
namespace Go.Proofs.YtgmjpdejfdldlaaDoor
open Go.RowKit

theorem nestS_bd : ∀ (T : Tr), okN T → 0 ≤ nestS T ∧ nestS T ≤ 8000
  | .leaf _, _ => by simp [nestS]
  | .un p x, h => by
    have := nestS_bd x h.2; have := h.1
    simp only [nestS]
    split <;> omega
  | .bin _ x y, h => by
    have := nestS_bd x h.1; have := nestS_bd y h.2
    simp only [nestS]
    split <;> omega

/-- The contract, for one tree. -/
def NestedSays (va sv : Value) (B : Nat) (doc : List Pc) (st : List Int) (T : Tr) (b : Nat) : Prop :=
  ∀ w : World, RdP B w va doc → RdI B w sv st → Calls Tryd.prog 36 #[va, sv, .int .i64 (b : Int)] w fun e w' => e = .returned (.int .i64 (nestS T)) ∧ w.grownBy w' none

theorem seg_at {doc : List Pc} {j : Nat} {p : Pc} (h : doc[j]? = some p) : ∃ hj : j < doc.length, doc[j] = p := by
  obtain ⟨hj, h⟩ := List.getElem?_eq_some_iff.1 h; exact ⟨hj, h⟩

theorem rd_at {B : Nat} {w : World} {v : Value} {st : List Int} {j : Nat} {x : Int} (h : RdI B w v st) (hx : st[j]? = some x) : ∃ b off cap, v = .slice (some ⟨b, off, none⟩) st.length cap ∧ w.cell? ⟨b, off + j, none⟩ = some (.int .i64 x) := by
  obtain ⟨hj, hx2⟩ := List.getElem?_eq_some_iff.1 hx
  obtain ⟨a, cap, hv, hr⟩ := h
  obtain ⟨b, off, ha, hb, hc⟩ := hr (fun e => by rw [e] at hj; simp at hj)
  have := hc j hj
  rw [hx] at this
  exact ⟨b, off, cap, by rw [hv, ha], this⟩

set_option maxHeartbeats 2000000 in
set_option maxRecDepth 100000 in
theorem nested_leaf (va sv : Value) (B : Nat) (doc : List Pc) (st : List Int) (hdl : doc.length ≤ 1048576) (p : Pc) (a b : Nat) (hs : Seg doc st (.leaf p) a b) : NestedSays va sv B doc st (.leaf p) b := by
  intro w hv hsv
  obtain ⟨rfl, hp, har, _⟩ := hs
  obtain ⟨hj, hpj⟩ := seg_at hp
  obtain ⟨bl, off, cap, tv, rfl, hb, hat⟩ := hv.at a hj
  rw [hpj] at hat
  have k0 := hat.k; have t0 := hat.t; have n0 := hat.n
  obtain ⟨ta, tcap, htv, _, _⟩ := hat.sl
  subst htv
  have hA := l2arity_any p.k (w.alloc (.cells #[.int .i64 p.k, .slice ta p.t.length tcap, .int .i64 p.n] 40))
  rw [har] at hA
  have HF : Hid (nestS (.leaf p) = 0) := rfl
  clear hv hsv hat hpj hp har
  rw [show ((a + 1 : Nat) : Int) = (a : Int) + 1 by omega]
  go_enter Tryd.func36, Tryd.ntmps36
  go_wp2_with fail
  refine hA.mono ?_
  rintro e w1 ⟨rfl, rfl⟩
  go_wp2
  go_ret
  exact ⟨by rw [HF.out]; rfl, World.grownBy_alloc _ _ _⟩

set_option maxHeartbeats 2000000 in
set_option maxRecDepth 100000 in
theorem nested_un (va sv : Value) (B : Nat) (doc : List Pc) (st : List Int) (hdl : doc.length ≤ 1048576) (p : Pc) (x : Tr) (a b : Nat) (hs : Seg doc st (.un p x) a b) (hok : okN (.un p x))
    (IHx : ∀ m, Seg doc st x a m → Hid (NestedSays va sv B doc st x m)) : NestedSays va sv B doc st (.un p x) b := by
  intro w hv hsv
  obtain ⟨m, rfl, hp, har, _, hx⟩ := hs
  have IH := IHx m hx
  have hbd := nestS_bd x hok.2
  have hpn := hok.1
  obtain ⟨hj, hpj⟩ := seg_at hp
  obtain ⟨sa, scap, hsva, _⟩ := id hsv
  have HV : Hid (RdP B w va doc) := hv
  have HSV : Hid (RdI B w sv st) := hsv
  obtain ⟨bl, off, cap, tv, hva, hb, hat⟩ := hv.at m hj
  rw [hpj] at hat
  have k0 := hat.k; have t0 := hat.t; have n0 := hat.n
  obtain ⟨ta, tcap, htv, _, _⟩ := hat.sl
  subst htv
  have hA := l2arity_any p.k (w.alloc (.cells #[.int .i64 p.k, .slice ta p.t.length tcap, .int .i64 p.n] 40))
  rw [har] at hA
  have HF : Hid (nestS (.un p x) = if nestS x > 4000 ∨ p.n > 4000 then 4001 else p.n + nestS x) := rfl
  clear hv hsv hat hpj hp har hx hok IHx
  have hg : Hid (∀ o : Obj, w.grownBy (w.alloc o) none) := fun _ => World.grownBy_alloc _ _ _
  have IH2 := IH.out (w.alloc (.cells #[.int .i64 p.k, .slice ta p.t.length tcap, .int .i64 p.n] 40)) (HV.out.keep (hg.out _)) (HSV.out.keep (hg.out _))
  clear HV HSV IH
  subst hva
  rw [show ((m + 1 : Nat) : Int) = (m : Int) + 1 by omega]
  generalize nestS x = y at *
  subst hsva
  by_cases hy : y > 4000
  · have HR : Hid (nestS (.un p x) = 4001) := by unfold Hid; rw [HF.out, if_pos (.inl hy)]
    clear HF
    go_enter Tryd.func36, Tryd.ntmps36
    go_wp2_with fail
    refine hA.mono ?_
    rintro e w1 ⟨rfl, rfl⟩
    go_wp2_with fail
    refine IH2.mono ?_
    rintro e w2 ⟨rfl, g2⟩
    have c2 := g2.cell (a := ⟨w.heap.size, 2, none⟩) (v := .int .i64 p.n) (by simp [go_sem]) (by simp)
    go_wp2
    go_ret
    exact ⟨by rw [HR.out]; rfl, grown_trans (hg.out _) g2⟩
  by_cases hn4 : p.n > 4000
  · have HR : Hid (nestS (.un p x) = 4001) := by unfold Hid; rw [HF.out, if_pos (.inr hn4)]
    clear HF
    go_enter Tryd.func36, Tryd.ntmps36
    go_wp2_with fail
    refine hA.mono ?_
    rintro e w1 ⟨rfl, rfl⟩
    go_wp2_with fail
    refine IH2.mono ?_
    rintro e w2 ⟨rfl, g2⟩
    have c2 := g2.cell (a := ⟨w.heap.size, 2, none⟩) (v := .int .i64 p.n) (by simp [go_sem]) (by simp)
    go_wp2
    go_ret
    exact ⟨by rw [HR.out]; rfl, grown_trans (hg.out _) g2⟩
  · have HR : Hid (nestS (.un p x) = p.n + y) := by unfold Hid; rw [HF.out, if_neg (by omega)]
    clear HF
    go_enter Tryd.func36, Tryd.ntmps36
    go_wp2_with fail
    refine hA.mono ?_
    rintro e w1 ⟨rfl, rfl⟩
    go_wp2_with fail
    refine IH2.mono ?_
    rintro e w2 ⟨rfl, g2⟩
    have c2 := g2.cell (a := ⟨w.heap.size, 2, none⟩) (v := .int .i64 p.n) (by simp [go_sem]) (by simp)
    go_wp2
    go_ret
    exact ⟨by rw [HR.out]; rfl, grown_trans (hg.out _) g2⟩

set_option maxHeartbeats 2000000 in
set_option maxRecDepth 100000 in
theorem nested_bin (va sv : Value) (B : Nat) (doc : List Pc) (st : List Int) (hdl : doc.length ≤ 1048576) (p : Pc) (x y : Tr) (a b : Nat) (hs : Seg doc st (.bin p x y) a b) (hok : okN (.bin p x y))
    (IH1' : ∀ m, Seg doc st x a m → Hid (NestedSays va sv B doc st x m)) (IH2' : ∀ c m, Seg doc st y c m → Hid (NestedSays va sv B doc st y m)) : NestedSays va sv B doc st (.bin p x y) b := by
  intro w hv hsv
  obtain ⟨c, m0, rfl, hp, har, _, hx, hy⟩ := hs
  obtain ⟨m, rfl⟩ : ∃ m, m0 = m + 1 := ⟨m0 - 1, by have := hy.lt; omega⟩
  have hlast := hy.last
  simp only [Nat.add_sub_cancel] at hlast
  have IHy : Hid (NestedSays va sv B doc st y (m + 1)) := IH2' c (m + 1) hy
  have IHx : Hid (NestedSays va sv B doc st x c) := IH1' c hx
  have hby := nestS_bd y hok.2
  have hbx := nestS_bd x hok.1
  have hcm := hy.lt
  obtain ⟨hj, hpj⟩ := seg_at hp
  have hst := (List.getElem?_eq_some_iff.1 hlast).1
  obtain ⟨sb, soff, scap, hsva, hsc⟩ := rd_at hsv hlast
  have HV : Hid (RdP B w va doc) := hv
  have HSV : Hid (RdI B w sv st) := hsv
  obtain ⟨bl, off, cap, tv, hva, hb, hat⟩ := hv.at (m + 1) hj
  rw [hpj] at hat
  have k0 := hat.k; have t0 := hat.t; have n0 := hat.n
  obtain ⟨ta, tcap, htv, _, _⟩ := hat.sl
  subst htv
  have hA := l2arity_any p.k (w.alloc (.cells #[.int .i64 p.k, .slice ta p.t.length tcap, .int .i64 p.n] 40))
  rw [har] at hA
  have HF : Hid (nestS (.bin p x y) = if nestS x > nestS y then nestS x else nestS y) := rfl
  clear hv hsv hat hpj hp har hx hy hok hlast IH1' IH2'
  have hg : Hid (∀ o : Obj, w.grownBy (w.alloc o) none) := fun _ => World.grownBy_alloc _ _ _
  have IH2 := IHy.out (w.alloc (.cells #[.int .i64 p.k, .slice ta p.t.length tcap, .int .i64 p.n] 40)) (HV.out.keep (hg.out _)) (HSV.out.keep (hg.out _))
  clear IHy
  subst hva hsva
  have ht1 : (((m + 1 : Nat) : Int) + 1 - 2) = (m : Int) := by omega
  have ht2 : (((m + 1 : Nat) : Int) - 1) = (m : Int) := by omega
  have hcm2 : c ≤ m := by omega
  rw [show ((m + 1 + 1 : Nat) : Int) = ((m + 1 : Nat) : Int) + 1 by omega]
  clear hcm
  generalize m + 1 = t at *
  by_cases hxy : nestS x > nestS y
  · have HR : Hid (nestS (.bin p x y) = nestS x) := by unfold Hid; rw [HF.out, if_pos hxy]
    clear HF
    generalize nestS y = ny at *
    go_enter Tryd.func36, Tryd.ntmps36
    go_wp2_with fail
    refine hA.mono ?_
    rintro e w1 ⟨rfl, rfl⟩
    go_wp2_with fail
    refine IH2.mono ?_
    rintro e w2 ⟨rfl, g2⟩
    have hsc2 := g2.cell ((hg.out _).cell hsc (by simp)) (by simp)
    have hgw := grown_trans (hg.out _) g2
    have IH3 := IHx.out w2 (HV.out.keep hgw) (HSV.out.keep hgw)
    clear IHx HV HSV hsc
    go_wp2_with fail
    refine IH3.mono ?_
    rintro e w3 ⟨rfl, g3⟩
    clear IH3
    generalize nestS x = nx at *
    go_wp2
    go_ret
    exact ⟨by rw [HR.out]; rfl, grown_trans hgw g3⟩
  · have HR : Hid (nestS (.bin p x y) = nestS y) := by unfold Hid; rw [HF.out, if_neg hxy]
    clear HF
    generalize nestS y = ny at *
    go_enter Tryd.func36, Tryd.ntmps36
    go_wp2_with fail
    refine hA.mono ?_
    rintro e w1 ⟨rfl, rfl⟩
    go_wp2_with fail
    refine IH2.mono ?_
    rintro e w2 ⟨rfl, g2⟩
    have hsc2 := g2.cell ((hg.out _).cell hsc (by simp)) (by simp)
    have hgw := grown_trans (hg.out _) g2
    have IH3 := IHx.out w2 (HV.out.keep hgw) (HSV.out.keep hgw)
    clear IHx HV HSV hsc
    go_wp2_with fail
    refine IH3.mono ?_
    rintro e w3 ⟨rfl, g3⟩
    clear IH3
    generalize nestS x = nx at *
    go_wp2
    go_ret
    exact ⟨by rw [HR.out]; rfl, grown_trans hgw g3⟩

theorem l2nested_any (va sv : Value) (B : Nat) (doc : List Pc) (st : List Int) (hdl : doc.length ≤ 1048576) :
    ∀ (T : Tr) (a b : Nat), Seg doc st T a b → okN T → NestedSays va sv B doc st T b
  | .leaf p, a, b, hs, _ => nested_leaf va sv B doc st hdl p a b hs
  | .un p x, a, b, hs, hok => nested_un va sv B doc st hdl p x a b hs hok (fun m hx => l2nested_any va sv B doc st hdl x a m hx hok.2)
  | .bin p x y, a, b, hs, hok => nested_bin va sv B doc st hdl p x y a b hs hok (fun m hx => l2nested_any va sv B doc st hdl x a m hx hok.1) (fun c m hy => l2nested_any va sv B doc st hdl y c m hy hok.2)

end Go.Proofs.YtgmjpdejfdldlaaDoor

namespace Go.Proofs.YtgmjpdejfdldlaaDoor
open Go.RowKit

set_option maxHeartbeats 800000 in
theorem l1need_any (p : Int) (w : World) : Calls Tryd.prog 70 #[.int .i64 p] w fun e w' => e = .returned (.int .i64 (need p)) ∧ w = w' := by
  by_cases h0 : p < 0
  · have HE : Hid (need p = 0) := by simp [Hid, need, okPt]; omega
    go_enter Tryd.func70, Tryd.ntmps70
    go_wp2
    go_ret
    exact ⟨by rw [HE.out]; rfl, rfl⟩
  · by_cases h1 : 1114111 < p
    · have HE : Hid (need p = 0) := by simp [Hid, need, okPt]; omega
      go_enter Tryd.func70, Tryd.ntmps70
      go_wp2
      go_ret
      exact ⟨by rw [HE.out]; rfl, rfl⟩
    · by_cases h2 : p < 55296
      · have ho : okPt p = true := by simp [okPt]; omega
        by_cases h3 : p < 128
        · have HE : Hid (need p = 1) := by simp [Hid, need, ho, h3]
          clear ho
          go_enter Tryd.func70, Tryd.ntmps70
          go_wp2
          go_ret
          exact ⟨by rw [HE.out]; rfl, rfl⟩
        · by_cases h4 : p < 2048
          · have HE : Hid (need p = 2) := by simp [Hid, need, ho, h3, h4]
            clear ho
            go_enter Tryd.func70, Tryd.ntmps70
            go_wp2
            go_ret
            exact ⟨by rw [HE.out]; rfl, rfl⟩
          · have HE : Hid (need p = 3) := by simp [Hid, need, ho, h3, h4]; omega
            clear ho
            go_enter Tryd.func70, Tryd.ntmps70
            go_wp2
            go_ret
            exact ⟨by rw [HE.out]; rfl, rfl⟩
      · by_cases h3 : p ≤ 57343
        · have HE : Hid (need p = 0) := by simp [Hid, need, okPt]; omega
          go_enter Tryd.func70, Tryd.ntmps70
          go_wp2
          go_ret
          exact ⟨by rw [HE.out]; rfl, rfl⟩
        · have ho : okPt p = true := by simp [okPt]; omega
          by_cases h4 : p < 65536
          · have HE : Hid (need p = 3) := by simp [Hid, need, ho, h4]; omega
            clear ho
            go_enter Tryd.func70, Tryd.ntmps70
            go_wp2
            go_ret
            exact ⟨by rw [HE.out]; rfl, rfl⟩
          · have HE : Hid (need p = 4) := by simp [Hid, need, ho, h4]; omega
            clear ho
            go_enter Tryd.func70, Tryd.ntmps70
            go_wp2
            go_ret
            exact ⟨by rw [HE.out]; rfl, rfl⟩

end Go.Proofs.YtgmjpdejfdldlaaDoor

namespace Go.Proofs.YtgmjpdejfdldlaaDoor
open Go.RowKit

theorem fsize_of {s : List Int} {m : Nat} (h1 : 1 ≤ m) (h4 : m ≤ 4) (hlo : ∀ j, 1 ≤ j → j < m → hit s j = false) (h : hit s m = true) : fsize s = m := by
  unfold fsize
  by_cases e1 : m = 1
  · subst e1; simp [h]
  · have g1 := hlo 1 (by omega) (by omega)
    by_cases e2 : m = 2
    · subst e2; simp [h, g1]
    · have g2 := hlo 2 (by omega) (by omega)
      by_cases e3 : m = 3
      · subst e3; simp [h, g1, g2]
      · have g3 := hlo 3 (by omega) (by omega)
        have e4 : m = 4 := by omega
        subst e4; simp [h, g1, g2, g3]
theorem fsize_none {s : List Int} {m : Nat} (h4 : 4 < m) (hlo : ∀ j, 1 ≤ j → j < m → hit s j = false) : fsize s = 0 := by
  unfold fsize
  simp [hlo 1 (by omega) (by omega), hlo 2 (by omega) (by omega), hlo 3 (by omega) (by omega), hlo 4 (by omega) (by omega)]
theorem hlo_step {s : List Int} {m : Nat} (hlo : ∀ j, 1 ≤ j → j < m → hit s j = false) (h : hit s m = false) : ∀ j, 1 ≤ j → j < m + 1 → hit s j = false := by
  intro j h1 h2
  by_cases e : j = m
  · rw [e]; exact h
  · exact hlo j h1 (by omega)

set_option maxHeartbeats 2000000 in
set_option maxRecDepth 100000 in
theorem specDecodeText_any (v : Value) (zs : List Int) (w : World) (hv : RdB w.heap.size w v zs) (hby : Bys zs) (hn : zs.length ≤ 1048576) :
    Calls Tryd.prog 53 #[v] w fun e w' => ∃ v', e = .returned (.tuple #[v', .int .i64 (decR zs).2.1, .int .i64 (decR zs).2.2]) ∧ OwI w.heap.size w' v' (decR zs).1 ∧ w.grownBy w' none := by
  obtain ⟨i0, hi, hz0, hz1, hz2⟩ := info_parts info3
  obtain ⟨a, cap, rfl, hr⟩ := hv
  have HV : Hid (RdB w.heap.size w (.slice a zs.length cap) zs) := ⟨a, cap, rfl, hr⟩
  clear hr
  go_enter Tryd.func53, Tryd.ntmps53
  go_wp2
  go_loopw [5, 6] (fun v i wr => ∃ (k : Nat) (acc : List Int), i = .int .i64 k ∧ OwI w.heap.size wr v acc ∧ Mid zs acc k ∧ Below w.heap.size w wr)
    (fun _ i _ => zs.length - (intOf i).toNat)
  case atStart => exact ⟨0, [], rfl, World.ownsRow_nil _ _ _ _, Mid.start zs, Below.refl _ _⟩
  case round =>
    obtain ⟨k, acc, rfl, hown, hmid, hnx⟩ := hrel
    have hkl := hmid.1
    have hal := hmid.2.1
    have HM : Hid (Mid zs acc k) := hmid
    clear hmid
    by_cases hlt : k < zs.length
    · obtain ⟨s, hs⟩ : ∃ s, s = zs.drop k := ⟨_, rfl⟩
      have HS : Hid (s = zs.drop k) := hs
      clear hs
      have HR : Hid (RdB wr.heap.size wr (.slice a zs.length cap) zs) := HV.out.later (grown_of_below hnx)
      go_wp2
      go_loop [5, 7, 8] (fun o st i => o = u5 ∧ st = .int .i64 0 ∧ ∃ m : Nat, 1 ≤ m ∧ m ≤ 5 ∧ i = .int .i64 m ∧ Hid (∀ j, 1 ≤ j → j < m → hit s j = false))
        (fun _ _ i => 5 - (intOf i).toNat)
      case atStart => exact ⟨rfl, rfl, 1, by omega, by omega, rfl, fun j h1 h2 => by omega⟩
      case round =>
        obtain ⟨rfl, rfl, m, hm1, hm5, rfl, HLO⟩ := hrel
        by_cases hm4 : m ≤ 4
        · have hval := l1value_any _ zs k m wr HR.out hby (by omega) hlt hm1 hm4
          rw [← HS.out] at hval
          have HVAL := hval
          clear hval
          by_cases hx0 : 0 ≤ lv s m
          · cases hh : (need (lv s m) == (m : Int))
            · have HLO' : Hid (∀ j, 1 ≤ j → j < m + 1 → hit s j = false) := hlo_step HLO.out (by simp [hit, hh])
              generalize lv s m = x at HVAL hx0 hh
              go_wp2_with (first
                | (go_at_call 69; refine HVAL.mono ?_; rintro e w' ⟨rfl, rfl⟩)
                | (go_at_call 70; refine (l1need_any _ _).mono ?_; rintro e w' ⟨rfl, rfl⟩))
              go_round
              case rel => exact ⟨rfl, rfl, m + 1, by omega, by omega, by go_num, HLO'⟩
              case measure => simp [intOf]; omega
            · have HSZ : Hid (fsize s = m) := fsize_of hm1 hm4 HLO.out (by simp [hit, hh, hx0])
              have hne : ((m : Int) == 0) = false := by simp; omega
              have HMID : Hid (Mid zs (acc ++ [lv s m]) (k + m)) := by
                have h := HM.out.step hlt (by rw [← HS.out, HSZ.out]; omega)
                rw [← HS.out, HSZ.out] at h
                exact h
              have hkm : k + m ≤ zs.length := HMID.out.1
              generalize lv s m = x at HVAL hx0 hh HMID
              go_wp2_with (first
                | (go_at_call 69; refine HVAL.mono ?_; rintro e w' ⟨rfl, rfl⟩)
                | (go_at_call 70; refine (l1need_any _ _).mono ?_; rintro e w' ⟨rfl, rfl⟩)
                | (at_builtin; refine wpList_append_own _ rfl _ _ 26 rfl w.heap.size 3 i0 (.int .i64 0) 1 8 Tryd.underlying26 hi hz0 hz1 hz2 rfl (by decide) _ _ _ rfl (World.ownsRow.alloc hown _) ⟨wr.heap.size, 0, none⟩ 1 1 [.int .i64 x] rfl rfl (cell_one_new _ _ _) (by intro u hu; simp at hu; subst hu; rfl) (by unfold maxLen; omega) (by omega) (by have := hnx.size; simp; omega) ?_; intro v' w1 hown' hgrow _))
              have R := own_app (xs := [x]) _ hnx.size hown hown' (by simp) hgrow
              clear hown' hgrow hown HVAL
              go_wp2
              go_roundw
              case rel => exact ⟨k + m, acc ++ [x], by go_num, R.1, HMID.out, hnx.trans R.2⟩
              case measure => simp [intOf]; omega
          · have HLO' : Hid (∀ j, 1 ≤ j → j < m + 1 → hit s j = false) := hlo_step HLO.out (by simp [hit]; omega)
            generalize lv s m = x at HVAL hx0
            have hx1 : x < 0 := by omega
            go_wp2_with (go_at_call 69; refine HVAL.mono ?_; rintro e w' ⟨rfl, rfl⟩)
            go_round
            case rel => exact ⟨rfl, rfl, m + 1, by omega, by omega, by go_num, HLO'⟩
            case measure => simp [intOf]; omega
        · have HSZ : Hid (fsize s = 0) := fsize_none (by omega) HLO.out
          have HD : Hid (decR zs = ([], 2, (k : Int))) := by
            refine HM.out.bad hlt ?_
            rw [← HS.out]; exact HSZ.out
          go_wp2
          go_ret3
          exact ⟨_, by rw [HD.out]; rfl, by rw [HD.out]; exact World.ownsRow_nil _ _ _ _, grown_of_below hnx⟩
    · have HD : Hid (decR zs = (acc, 0, 0)) := HM.out.done hlt
      go_wp2
      go_ret3
      exact ⟨_, by rw [HD.out]; rfl, by rw [HD.out]; exact hown, grown_of_below hnx⟩

end Go.Proofs.YtgmjpdejfdldlaaDoor

namespace Go.Proofs.YtgmjpdejfdldlaaDoor
open Go.RowKit

set_option maxHeartbeats 400000 in
set_option maxRecDepth 100000 in
theorem specTextWidth_any (v : Value) (zs : List Int) (w : World) (hv : RdB w.heap.size w v zs) (hby : Bys zs) (hn : zs.length ≤ 1048576) :
    Calls Tryd.prog 30 #[v] w fun e w' => e = .returned (.int .i64 (widthR zs)) ∧ w.grownBy w' none := by
  have hl := decR_len zs
  by_cases h0 : (decR zs).2.1 = 0
  · have HW : Hid (widthR zs = ((decR zs).1.length : Int)) := by unfold Hid widthR; rw [if_pos h0]
    go_enter Tryd.func30, Tryd.ntmps30
    go_wp2_with fail
    refine (specDecodeText_any v zs w hv hby hn).mono ?_
    rintro e w1 ⟨v1, rfl, o1, g1⟩
    obtain ⟨a1, cap1, hv1, _⟩ := o1.rd
    rw [hv1]
    clear hv1 o1 hv
    go_wp2
    go_ret
    exact ⟨by rw [HW.out]; rfl, g1⟩
  · have HW : Hid (widthR zs = -1) := by unfold Hid widthR; rw [if_neg h0]
    have hne : ((decR zs).2.1 != 0) = true := by simp [h0]
    go_enter Tryd.func30, Tryd.ntmps30
    go_wp2_with fail
    refine (specDecodeText_any v zs w hv hby hn).mono ?_
    rintro e w1 ⟨v1, rfl, o1, g1⟩
    clear o1 hv h0
    go_wp2
    go_ret
    exact ⟨by rw [HW.out]; rfl, g1⟩

end Go.Proofs.YtgmjpdejfdldlaaDoor

namespace Go.Proofs.YtgmjpdejfdldlaaDoor
open Go.RowKit

theorem no10_snoc (t : List Int) (k : Nat) (hk : k < t.length) (h : (t.take k).contains 10 = false) (hp : ¬ t[k]?.getD 0 = 10) : (t.take (k + 1)).contains 10 = false := by
  rw [take_snoc t k hk, List.contains_append, h]
  simp only [List.contains_cons, List.contains_nil, Bool.or_false, Bool.false_or, beq_eq_false_iff_ne, ne_eq]
  exact fun e => hp e.symm

set_option maxHeartbeats 1000000 in
set_option maxRecDepth 100000 in
theorem l2pieceOK_any (p : Pc) (tv : Value) (w : World) (hv : RdB w.heap.size w tv p.t) (hby : Bys p.t) (hn : p.t.length ≤ 1048576) :
    Calls Tryd.prog 34 #[.agg #[.int .i64 p.k, tv, .int .i64 p.n]] w fun e w' => e = .returned (.bool (pcOK p)) ∧ w.grownBy w' none := by
  obtain ⟨a, cap, hv0, hr⟩ := id hv
  by_cases hlo : p.k < 0
  · have HF : Hid (pcOK p = false) := by unfold Hid; rw [← Bool.not_eq_true, pcOK_iff]; omega
    subst hv0
    clear hv hr
    go_enter Tryd.func34, Tryd.ntmps34
    go_wp2
    go_ret
    exact ⟨by rw [HF.out]; rfl, World.grownBy_alloc _ _ _⟩
  by_cases hhi : p.k > 9
  · have HF : Hid (pcOK p = false) := by unfold Hid; rw [← Bool.not_eq_true, pcOK_iff]; omega
    subst hv0
    clear hv hr
    go_enter Tryd.func34, Tryd.ntmps34
    go_wp2
    go_ret
    exact ⟨by rw [HF.out]; rfl, World.grownBy_alloc _ _ _⟩
  by_cases h1 : p.k = 1
  · have e1 : (p.k == 1) = true := by simpa using h1
    have e7 : (p.k == 7) = false := by simp; omega
    have HP : Hid ((pcOK p = true) ↔ (p.t.contains 10 = false ∧ 0 ≤ widthR p.t ∧ p.n = 0)) := by
      unfold Hid; rw [pcOK_iff]
      constructor
      · intro h; exact ⟨(h.2.1 h1).1, (h.2.1 h1).2, h.2.2.2.2 (by omega)⟩
      · intro h; exact ⟨by omega, fun _ => ⟨h.1, h.2.1⟩, by omega, by omega, fun _ => h.2.2⟩
    have hg : ∀ o : Obj, w.grownBy (w.alloc o) none := fun _ => World.grownBy_alloc _ _ _
    have hcell : ∀ k, k < p.t.length → ∃ b off, a = some ⟨b, off, none⟩ ∧ b < w.heap.size ∧ w.cell? ⟨b, off + k, none⟩ = some (.int .u8 (p.t[k]?.getD 0)) := by
      intro k hk
      obtain ⟨b, off, ha, hb, hc⟩ := hr (fun e => by rw [e] at hk; simp at hk)
      exact ⟨b, off, ha, hb, hc k hk⟩
    have HC := hcell
    clear hcell hr h1
    subst hv0
    go_enter Tryd.func34, Tryd.ntmps34
    go_wp2
    go_loopw [3] (fun i wr => ∃ k : Nat, k ≤ p.t.length ∧ i = .int .i64 k ∧ Hid ((p.t.take k).contains 10 = false) ∧ wr = w.alloc (.cells #[.int .i64 p.k, .slice a p.t.length cap, .int .i64 p.n] 40))
      (fun i _ => p.t.length - (intOf i).toNat)
    case atStart => exact ⟨0, Nat.zero_le _, rfl, by unfold Hid; rfl, rfl⟩
    case round =>
      obtain ⟨k, hk, rfl, H10, hwr⟩ := hrel
      subst hwr
      by_cases hlt : k < p.t.length
      · obtain ⟨b, off, rfl, hb, hc⟩ := HC k hlt
        have hc1 : (w.alloc (.cells #[.int .i64 p.k, .slice (some ⟨b, off, none⟩) p.t.length cap, .int .i64 p.n] 40)).cell? ⟨b, off + k, none⟩ = some (.int .u8 (p.t[k]?.getD 0)) := (hg _).cell hc (by simp)
        by_cases h10 : p.t[k]?.getD 0 = 10
        · have HF : Hid (pcOK p = false) := by
            unfold Hid
            rw [← Bool.not_eq_true, HP.out]
            intro h
            have : p.t.contains 10 = true := by
              rw [List.contains_iff_mem, ← h10]
              simp [hlt]
            rw [h.1] at this; cases this
          have e10 : ((10 : Int) == 10) = true := rfl
          rw [h10] at hc1
          clear HP HC hc H10 h10 hv
          go_wp2
          go_ret
          exact ⟨by rw [HF.out]; rfl, hg _⟩
        · have HT : Hid ((p.t.take (k + 1)).contains 10 = false) := no10_snoc p.t k hlt H10.out h10
          have e10 : ((p.t[k]?.getD 0) == 10) = false := by simpa using h10
          generalize p.t[k]?.getD 0 = z at hc1 e10
          clear HP HC hc H10 h10 hv
          go_wp2
          go_roundw
          case rel => exact ⟨k + 1, by omega, by go_num, HT, by first | rfl | trivial⟩
          case measure => simp [intOf]; omega
      · have hkn : k = p.t.length := by omega
        have h10 : p.t.contains 10 = false := by have := H10.out; rw [hkn, List.take_length] at this; exact this
        have hw := specTextWidth_any (.slice a p.t.length cap) p.t (w.alloc (.cells #[.int .i64 p.k, .slice a p.t.length cap, .int .i64 p.n] 40)) (hv.keep (hg _)).now hby hn
        by_cases hwd : widthR p.t < 0
        · have HF : Hid (pcOK p = false) := by unfold Hid; rw [← Bool.not_eq_true, HP.out]; omega
          generalize widthR p.t = wd at hw hwd
          clear HP HC H10 h10 hv
          go_wp2_with fail
          refine hw.mono ?_
          rintro e w1 ⟨rfl, g1⟩
          go_wp2
          go_ret
          exact ⟨by rw [HF.out]; rfl, grown_trans (hg _) g1⟩
        · have HF : Hid (pcOK p = decide (p.n = 0)) := by
            unfold Hid
            rw [Bool.eq_iff_iff, HP.out, decide_eq_true_eq]
            exact ⟨fun h => h.2.2, fun h => ⟨h10, by omega, h⟩⟩
          generalize widthR p.t = wd at hw hwd
          clear HP HC H10 h10 hv
          go_wp2_with fail
          refine hw.mono ?_
          rintro e w1 ⟨rfl, g1⟩
          have c0 := g1.cell (a := ⟨w.heap.size, 0, none⟩) (v := .int .i64 p.k) (by simp [go_sem]) (by simp)
          have c2 := g1.cell (a := ⟨w.heap.size, 2, none⟩) (v := .int .i64 p.n) (by simp [go_sem]) (by simp)
          go_wp2
          go_ret
          exact ⟨by rw [HF.out]; rfl, grown_trans (hg _) g1⟩
  have e1 : (p.k == 1) = false := by simpa using h1
  have hg : ∀ o : Obj, w.grownBy (w.alloc o) none := fun _ => World.grownBy_alloc _ _ _
  by_cases hl : p.t.length = 0
  · by_cases h7 : p.k = 7
    · have e7 : (p.k == 7) = true := by simpa using h7
      have HF : Hid (pcOK p = decide (0 ≤ p.n)) := by
        unfold Hid
        rw [Bool.eq_iff_iff, pcOK_iff, decide_eq_true_eq]
        exact ⟨fun h => h.2.2.2.1 h7, fun h => ⟨by omega, by omega, fun _ => hl, fun _ => h, by omega⟩⟩
      rw [hl] at hv0
      subst hv0
      clear hv hr
      go_enter Tryd.func34, Tryd.ntmps34
      go_wp2
      go_ret
      exact ⟨by rw [HF.out]; rfl, hg _⟩
    · have e7 : (p.k == 7) = false := by simpa using h7
      have HF : Hid (pcOK p = decide (p.n = 0)) := by
        unfold Hid
        rw [Bool.eq_iff_iff, pcOK_iff, decide_eq_true_eq]
        exact ⟨fun h => h.2.2.2.2 h7, fun h => ⟨by omega, by omega, fun _ => hl, by omega, fun _ => h⟩⟩
      rw [hl] at hv0
      subst hv0
      clear hv hr
      go_enter Tryd.func34, Tryd.ntmps34
      go_wp2
      go_ret
      exact ⟨by rw [HF.out]; rfl, hg _⟩
  · have el : ((p.t.length : Int) != 0) = true := by simpa using hl
    have HF : Hid (pcOK p = false) := by
      unfold Hid
      rw [← Bool.not_eq_true, pcOK_iff]
      intro h
      exact hl (h.2.2.1 h1)
    subst hv0
    clear hv hr
    go_enter Tryd.func34, Tryd.ntmps34
    go_wp2
    go_ret
    exact ⟨by rw [HF.out]; rfl, hg _⟩

end Go.Proofs.YtgmjpdejfdldlaaDoor

namespace Go.Proofs.YtgmjpdejfdldlaaDoor
open Go.RowKit

/-- What is left of 'left' behind n; below nought: -1. -/
def szB (n : Nat) (left : Int) : Int := if left - n < 0 then -1 else left - n

theorem szB_bd (n : Nat) (left : Int) (h1 : left ≤ 1048576) : -1 ≤ szB n left ∧ szB n left ≤ 1048576 := by
  unfold szB; split <;> omega

def szF : List Pc → Int → Int
  | [], l => l
  | p :: ps, l => if szB p.t.length l < 0 then -1 else szF ps (szB p.t.length l)
def szDoc (doc : List Pc) (left : Int) : Int := if left - doc.length < 0 then -1 else szF doc (left - doc.length)

theorem szF_go (doc : List Pc) (k : Nat) (hk : k < doc.length) (l : Int) (h : ¬ szB doc[k].t.length l < 0) : szF (doc.drop k) l = szF (doc.drop (k + 1)) (szB doc[k].t.length l) := by
  rw [List.drop_eq_getElem_cons hk]; simp only [szF]; rw [if_neg h]
theorem szF_bad (doc : List Pc) (k : Nat) (hk : k < doc.length) (l : Int) (h : szB doc[k].t.length l < 0) : szF (doc.drop k) l = -1 := by
  rw [List.drop_eq_getElem_cons hk]; simp only [szF]; rw [if_pos h]

theorem szF_le : ∀ (doc : List Pc) (l : Int), 0 ≤ l → (∀ l', szF doc l = l' → l' < 0 → l' = -1) ∧ (0 ≤ szF doc l → sumT doc ≤ l)
  | [], l, h => by refine ⟨fun l' h1 h2 => ?_, fun h => ?_⟩ <;> simp only [szF, sumT] at * <;> omega
  | p :: ps, l, h => by
    simp only [szF, sumT]
    by_cases hb : szB p.t.length l < 0
    · rw [if_pos hb]; exact ⟨fun l' h1 _ => h1.symm, fun h => by omega⟩
    · rw [if_neg hb]
      have := szF_le ps (szB p.t.length l) (by omega)
      refine ⟨this.1, fun h2 => ?_⟩
      have h3 := this.2 h2
      unfold szB at h3 hb
      split at h3 <;> omega

theorem szDoc_le (doc : List Pc) (h : 0 ≤ szDoc doc 1048576) : (doc.length : Int) + sumT doc ≤ 1048576 := by
  unfold szDoc at h
  split at h
  · omega
  · have := (szF_le doc (1048576 - doc.length) (by omega)).2 h
    omega

theorem sum_mem : ∀ (doc : List Pc) (p : Pc), p ∈ doc → (p.t.length : Int) ≤ sumT doc ∧ 0 ≤ sumT doc
  | [], _, h => by cases h
  | q :: ps, p, h => by
    have h0 : ∀ qs : List Pc, 0 ≤ sumT qs := by
      intro qs
      induction qs with
      | nil => simp [sumT]
      | cons q qs ih => simp only [sumT]; omega
    have := h0 ps
    simp only [sumT]
    rcases List.mem_cons.1 h with rfl | h
    · omega
    · have := sum_mem ps p h; omega

end Go.Proofs.YtgmjpdejfdldlaaDoor

