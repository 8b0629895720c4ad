import Derived.Test.YtkkcnpokobndcaaDoorFsSrt
import Derived.Test.YtkkcnpokobndcaaDoorOrdG
namespace Go.Proofs.YtkkcnpokobndcaaDoor
open Go.RowKit

set_option maxHeartbeats 8000000 in
set_option maxRecDepth 100000 in
theorem binary_any (v nv : Value) (fs : List Fl) (n : List Int) (w : World) (hv : RdF w.heap.size w v fs) (hd : Fss fs) (hval : validF fs = true) (hn : RdB w.heap.size w nv n) (hs : Sl nv n.length) (hb : Byt n) :
    Calls Tryd.prog 62 #[v, nv, .func (.func 53) #[] #[]] w fun e w' => ∃ i : Nat, e = .returned (.tuple #[.int .i64 i, .bool (decide (∃ hi : i < fs.length, fs[i].n = n))]) ∧ Pos fs n i ∧ w.grownBy w' none := by
  obtain ⟨a, cap, hv0, hcap, hmax, _⟩ := id hv
  obtain ⟨na, ncap, hnv0, _, _⟩ := id hs
  have hlen := valid_len hval
  have HV := hide hv
  have HN := hide hn
  have HD := hide hd
  have HB := hide hb
  have HA := hide (valid_asc hval)
  subst hv0 hnv0
  clear hv hn hs hd hb hval
  go_enter Tryd.func62, Tryd.ntmps62
  go_wp2
  go_loopw [9, 10] (fun i j wr => ∃ (x y : Nat), x ≤ y ∧ y ≤ fs.length ∧ i = .int .i64 x ∧ j = .int .i64 y ∧ Hid (w.grownBy wr none) ∧ Hid (∀ k (hk : k < fs.length), k < x → ltB fs[k].n n = true) ∧ Hid (∀ k (hk : k < fs.length), y ≤ k → ltB fs[k].n n = false)) (fun i j _ => (intOf j).toNat - (intOf i).toNat)
  case atStart => exact ⟨0, fs.length, Nat.zero_le _, Nat.le_refl _, rfl, rfl, World.grownBy.refl _ _, fun k hk h0 => by omega, fun k hk h0 => by omega⟩
  case round =>
    obtain ⟨x, y, hxy, hyl, rfl, rfl, HG, HL, HH⟩ := hrel
    by_cases hlt : x < y
    · have hx2 : (x + y) / 2 < fs.length := by omega
      obtain ⟨b, off, cap', u, hva, hb, hp⟩ := (HV.out.now HG.out).at ((x + y) / 2) hx2
      cases hva
      obtain ⟨pv, pd⟩ := u
      have y0 := hp.n; have y1 := hp.d; have y2 := hp.s
      have HCm := hide (compareName_any pv pd (.slice na n.length ncap) fs[(x + y) / 2].s fs[(x + y) / 2].n n wr hp.rn hp.sn ((HN.out.keep HG.out).wideF HG.out.size) (HD.out.byt _ (List.getElem_mem hx2)).1 HB.out)
      obtain ⟨pa, pcap, hpv, hq1, hq2⟩ := hp.sn
      obtain ⟨qa, qcap, hqv, hr1, hr2⟩ := hp.sd
      simp only at hpv hqv
      subst hpv hqv
      clear hp
      have hxi : (x : Int) < y := by omega
      have hm : (((x + y) / 2 : Nat) : Int) = ((x : Int) + y) / 2 := by omega
      by_cases hc : cmpB fs[(x + y) / 2].n n < 0
      · have HL2 : Hid (∀ k (hk : k < fs.length), k < (x + y) / 2 + 1 → ltB fs[k].n n = true) := fun k hk hkx => by
          by_cases e : k = (x + y) / 2
          · subst e; exact (cmpB_lt _ _).1 hc
          · exact ltB_trans _ _ _ (HA.out k ((x + y) / 2) (by omega) hx2) ((cmpB_lt _ _).1 hc)
        generalize cmpB fs[(x + y) / 2].n n = c at *
        go_wp2_with fail
        refine HCm.out.mono ?_
        rintro e w1 ⟨rfl, g⟩
        have HG1 : Hid (w.grownBy w1 none) := grown_trans HG.out g
        clear g
        go_wp2
        go_roundw
        case rel => exact ⟨(x + y) / 2 + 1, y, by omega, hyl, by rw [← hm]; go_num, rfl, HG1, HL2, HH⟩
        case measure => simp only [intOf]; omega
      · have HH2 : Hid (∀ k (hk : k < fs.length), (x + y) / 2 ≤ k → ltB fs[k].n n = false) := fun k hk hkx => by
          have h1 : ltB fs[(x + y) / 2].n n = false := by
            rw [Bool.eq_false_iff]; exact fun e => hc ((cmpB_lt _ _).2 e)
          by_cases e : k = (x + y) / 2
          · subst e; exact h1
          · rw [Bool.eq_false_iff]
            intro e2
            have := ltB_trans _ _ _ (HA.out ((x + y) / 2) k (by omega) hk) e2
            rw [h1] at this; cases this
        generalize cmpB fs[(x + y) / 2].n n = c at *
        go_wp2_with fail
        refine HCm.out.mono ?_
        rintro e w1 ⟨rfl, g⟩
        have HG1 : Hid (w.grownBy w1 none) := grown_trans HG.out g
        clear g
        go_wp2
        go_roundw
        case rel => exact ⟨x, (x + y) / 2, by omega, by omega, rfl, by rw [← hm], HG1, HL, HH2⟩
        case measure => simp only [intOf]; omega
    · have hxy2 : x = y := by omega
      subst hxy2
      by_cases hxl : x < fs.length
      · obtain ⟨b, off, cap', u, hva, hb, hp⟩ := (HV.out.now HG.out).at x hxl
        cases hva
        obtain ⟨pv, pd⟩ := u
        have y0 := hp.n; have y1 := hp.d; have y2 := hp.s
        have HCm := hide (fun (w' : World) (g : wr.grownBy w' none) => compareName_any pv pd (.slice na n.length ncap) fs[x].s fs[x].n n w' ((hp.rn.keep g).wideF g.size) hp.sn (((HN.out.keep HG.out).keep g).wideF (Nat.le_trans HG.out.size g.size)) (HD.out.byt _ (List.getElem_mem hxl)).1 HB.out)
        obtain ⟨pa, pcap, hpv, hq1, hq2⟩ := hp.sn
        obtain ⟨qa, qcap, hqv, hr1, hr2⟩ := hp.sd
        simp only at hpv hqv
        subst hpv hqv
        clear hp
        have hxi : (x : Int) < fs.length := by omega
        have HP : Hid (Pos fs n x) := ⟨hyl, HL.out, HH.out⟩
        by_cases hc : cmpB fs[x].n n = 0
        · have HF : Hid (decide (∃ hi : x < fs.length, fs[x].n = n) = true) := by
            unfold Hid; rw [decide_eq_true_eq]; exact ⟨hxl, (cmpB_eq _ _).1 hc⟩
          rw [hc] at HCm
          clear hc
          go_wp2_with fail
          refine (HCm.out _ (World.grownBy.refl _ _)).mono ?_
          rintro e w1 ⟨rfl, g⟩
          go_wp2
          go_ret2
          exact ⟨x, by rw [HF.out]; rfl, HP.out, grown_trans HG.out g⟩
        · have HF : Hid (decide (∃ hi : x < fs.length, fs[x].n = n) = false) := by
            unfold Hid; rw [decide_eq_false_iff_not]; rintro ⟨_, e⟩; exact hc ((cmpB_eq _ _).2 e)
          generalize cmpB fs[x].n n = c at *
          go_wp2_with fail
          refine (HCm.out _ (World.grownBy.refl _ _)).mono ?_
          rintro e w1 ⟨rfl, g⟩
          go_wp2
          go_ret2
          exact ⟨x, by rw [HF.out, ← decide_eq_false hc]; rfl, HP.out, grown_trans HG.out g⟩
      · have HP : Hid (Pos fs n x) := ⟨hyl, HL.out, HH.out⟩
        have HF : Hid (decide (∃ hi : x < fs.length, fs[x].n = n) = false) := by
          unfold Hid; rw [decide_eq_false_iff_not]; rintro ⟨e, _⟩; omega
        go_wp2
        go_ret2
        exact ⟨x, by rw [HF.out]; rfl, HP.out, HG.out⟩

end Go.Proofs.YtkkcnpokobndcaaDoor
