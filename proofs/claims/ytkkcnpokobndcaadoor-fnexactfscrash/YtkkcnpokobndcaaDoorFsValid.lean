import Derived.Test.YtkkcnpokobndcaaDoorFsStr
import Derived.Handy
import Derived.Deep.RegionWith
namespace Go.Proofs.YtkkcnpokobndcaaDoor
open Go.RowKit

set_option maxHeartbeats 400000 in
theorem nameOK_spec (a : Option Addr) (n : List Int) (cap : Nat) (w : World) (hn : n.length ≤ 9223372036854775807) :
    Calls Tryd.prog 29 #[.slice a n.length cap] w fun e w' => e = .returned (.bool (nameOK n)) ∧ w = w' := by
  by_cases h : 1 ≤ n.length
  · have HF : Hid (nameOK n = decide (n.length ≤ 100)) := by unfold Hid nameOK; simp [h]
    by_cases h2 : n.length ≤ 100
    · go_enter Tryd.func29, Tryd.ntmps29
      go_wp2
      go_ret
      have h3 : (n.length : Int) ≤ 100 := by omega
      exact ⟨by rw [HF.out, decide_eq_true h2]; simp [h3], rfl⟩
    · go_enter Tryd.func29, Tryd.ntmps29
      go_wp2
      go_ret
      have h3 : ¬ (n.length : Int) ≤ 100 := by omega
      exact ⟨by rw [HF.out, decide_eq_false h2]; simp [h3], rfl⟩
  · have HF : Hid (nameOK n = false) := by unfold Hid nameOK; simp; omega
    go_enter Tryd.func29, Tryd.ntmps29
    go_wp2
    go_ret
    exact ⟨by rw [HF.out]; rfl, rfl⟩

/-- What is known of a law's file system: no list too long, bytes. -/
structure Fss (fs : List Fl) : Prop where
  len : fs.length ≤ 1048576
  tlen : ∀ p ∈ fs, p.n.length ≤ 1048576 ∧ p.d.length ≤ 1048576
  byt : ∀ p ∈ fs, Byt p.n ∧ Byt p.d

set_option maxHeartbeats 4000000 in
set_option maxRecDepth 100000 in
theorem specValid_any (v : Value) (fs : List Fl) (w : World) (hv : RdF w.heap.size w v fs) (hd : Fss fs) :
    Calls Tryd.prog 28 #[.agg #[v]] w fun e w' => e = .returned (.bool (validF fs)) ∧ w.grownBy w' none := by
  obtain ⟨a, cap, hv0, hcap, hmax, _⟩ := id hv
  have hlen := hd.len
  by_cases hl : 50 < fs.length
  · have HF := hide (valid_long hl)
    subst hv0
    clear hv
    go_enter Tryd.func28, Tryd.ntmps28
    go_wp2
    go_ret
    exact ⟨by rw [HF.out]; rfl, World.grownBy_alloc _ _ _⟩
  · have HV : Hid (RdF w.heap.size w v fs) := hv
    have HD : Hid (Fss fs) := hd
    subst hv0
    clear hv hd
    go_enter Tryd.func28, Tryd.ntmps28
    go_wp2
    have HC : Hid (∀ wr : World, (w.alloc (.cells #[.slice a fs.length cap] 31)).grownBy wr none → wr.cell? ⟨w.heap.size, 0, none⟩ = some (.slice a fs.length cap)) := fun wr g => g.cell (by simp [go_sem]) (by simp)
    go_loopw [3] (fun i wr => ∃ k : Nat, k ≤ fs.length ∧ i = .int .i64 k ∧ Hid ((List.range k).all (okAt fs) = true) ∧ (w.alloc (.cells #[.slice a fs.length cap] 31)).grownBy wr none) (fun i _ => fs.length - (intOf i).toNat)
    case atStart => exact ⟨0, Nat.zero_le _, rfl, by simp [Hid], World.grownBy.refl _ _⟩
    case round =>
      obtain ⟨k, hk, rfl, HA, hgr⟩ := hrel
      have hfc := HC.out wr hgr
      have hgw : w.grownBy wr none := grown_trans (World.grownBy_alloc _ _ _) hgr
      have HG : Hid (w.grownBy wr none) := hgw
      by_cases hlt : k < fs.length
      · obtain ⟨b, off, cap', x, hva, hb, hp⟩ := (HV.out.now hgw).at k hlt
        cases hva
        obtain ⟨nv, dv⟩ := x
        have z0 := hp.n; have z1 := hp.d; have z2 := hp.s
        obtain ⟨na, ncap, hnv, hn1, hn2⟩ := hp.sn
        obtain ⟨da, dcap, hdv, hd1, hd2⟩ := hp.sd
        simp only at hnv hdv
        unfold maxLen at hn2 hd2
        have HNm := hide (fun w => nameOK_spec na fs[k].n ncap w (by omega))
        by_cases hno : nameOK fs[k].n = true
        · rw [hno] at HNm
          by_cases hsf : 0 ≤ fs[k].s ∧ fs[k].s ≤ (fs[k].d.length : Int)
          · have hok : okF fs[k] = true := by unfold okF; rw [hno, decide_eq_true hsf]; rfl
            obtain ⟨hs0, hs1⟩ := hsf
            by_cases hk0 : k = 0
            · subst hk0
              have HN : Hid ((List.range (0 + 1)).all (okAt fs) = true) := all_rangeS HA.out (by rw [okAt_zero hlt]; exact hok)
              subst hnv hdv
              clear hp hno hok
              simp only [Nat.zero_mul, Nat.add_zero] at z0 z1 z2
              generalize fs[0] = p at *
              go_wp2_with (go_at_call 29; refine (HNm.out _).mono ?_; rintro e w1 ⟨rfl, rfl⟩)
              go_quiet (fail)
              go_wp2
              go_roundw
              case rel => exact ⟨0 + 1, by omega, by go_num, HN, grown_trans hgr (grown_drewN (World.grownBy_alloc _ _ _) _)⟩
              case measure => simp [intOf]; omega
            · obtain ⟨j, rfl⟩ : ∃ j, k = j + 1 := ⟨k - 1, by omega⟩
              obtain ⟨b', off', cap'', x', hva', hb', hp'⟩ := (HV.out.now hgw).at j (by omega)
              cases hva'
              obtain ⟨pv, pd⟩ := x'
              have y0 := hp'.n; have y1 := hp'.d; have y2 := hp'.s
              obtain ⟨pa, pcap, hpv, hq1, hq2⟩ := hp'.sn
              simp only at hpv
              have k1 := fun m => conv_str (hp.rn.keep (grown_drewN (World.grownBy_alloc wr (.cells #[nv, dv, .int .i64 fs[j + 1].s] 49) none) m))
              have k2 := fun m => conv_str (hp'.rn.keep (grown_drewN (World.grownBy_alloc wr (.cells #[nv, dv, .int .i64 fs[j + 1].s] 49) none) m))
              have hj0 : (0 : Int) < (j : Int) + 1 := by omega
              have hfc2 := (World.grownBy_alloc wr (.cells #[nv, dv, .int .i64 fs[j + 1].s] 49) none).cell hfc (by simp)
              have y0' := (World.grownBy_alloc wr (.cells #[nv, dv, .int .i64 fs[j + 1].s] 49) none).cell y0 (by simp)
              have HL := lessStr (HD.out.byt _ (List.getElem_mem (show j < fs.length by omega))).1 (HD.out.byt _ (List.getElem_mem hlt)).1
              by_cases hle : ltB (fs[j]'(by omega)).n fs[j + 1].n = true
              · have HN : Hid ((List.range (j + 1 + 1)).all (okAt fs) = true) := all_rangeS HA.out (by rw [okAt_succ hlt, hok, hle]; rfl)
                rw [hle] at HL
                subst hnv hdv hpv
                clear hp hp' hno hok hle
                generalize fs[j + 1] = p at *
                generalize fs[j] = p' at *
                go_wp2_with (go_at_call 29; refine (HNm.out _).mono ?_; rintro e w1 ⟨rfl, rfl⟩)
                go_quiet (fail)
                go_wp2
                go_roundw
                case rel => exact ⟨j + 1 + 1, by omega, by go_num, HN, grown_trans hgr (grown_drewN (World.grownBy_alloc _ _ _) _)⟩
                case measure => simp [intOf]; omega
              · have HB : Hid (validF fs = false) := valid_not (j + 1) hlt (by rw [okAt_succ hlt]; simp [hle])
                rw [show ltB (fs[j]'(by omega)).n fs[j + 1].n = false by simpa using hle] at HL
                subst hnv hdv hpv
                clear hp hp' hno hok hle
                generalize fs[j + 1] = p at *
                generalize fs[j] = p' at *
                go_wp2_with (go_at_call 29; refine (HNm.out _).mono ?_; rintro e w1 ⟨rfl, rfl⟩)
                go_quiet (fail)
                go_wp2
                go_ret
                exact ⟨by rw [HB.out]; rfl, grown_trans HG.out (grown_drewN (World.grownBy_alloc _ _ _) _)⟩
          · have HB : Hid (validF fs = false) := valid_not k hlt (by cases k with | zero => rw [okAt_zero hlt, okF]; simp [hsf] | succ j => rw [okAt_succ hlt, okF]; simp [hsf])
            subst hnv hdv
            clear hp hno
            generalize fs[k] = p at *
            by_cases hs0 : 0 ≤ p.s
            · have hs1 : (p.d.length : Int) < p.s := by omega
              go_wp2_with (go_at_call 29; refine (HNm.out _).mono ?_; rintro e w1 ⟨rfl, rfl⟩)
              go_ret
              exact ⟨by rw [HB.out]; rfl, grown_trans HG.out (World.grownBy_alloc _ _ _)⟩
            · go_wp2_with (go_at_call 29; refine (HNm.out _).mono ?_; rintro e w1 ⟨rfl, rfl⟩)
              go_ret
              exact ⟨by rw [HB.out]; rfl, grown_trans HG.out (World.grownBy_alloc _ _ _)⟩
        · have HB : Hid (validF fs = false) := valid_not k hlt (by cases k with | zero => rw [okAt_zero hlt, okF]; simp [hno] | succ j => rw [okAt_succ hlt, okF]; simp [hno])
          rw [show nameOK fs[k].n = false by simpa using hno] at HNm
          subst hnv hdv
          clear hp hno
          generalize fs[k] = p at *
          go_wp2_with (go_at_call 29; refine (HNm.out _).mono ?_; rintro e w1 ⟨rfl, rfl⟩)
          go_ret
          exact ⟨by rw [HB.out]; rfl, grown_trans HG.out (World.grownBy_alloc _ _ _)⟩
      · have HF : Hid (validF fs = true) := valid_all (by omega) (by have := HA.out; rw [show k = fs.length by omega] at this; exact this)
        go_wp2
        go_ret
        exact ⟨by rw [HF.out]; rfl, HG.out⟩

end Go.Proofs.YtkkcnpokobndcaaDoor
