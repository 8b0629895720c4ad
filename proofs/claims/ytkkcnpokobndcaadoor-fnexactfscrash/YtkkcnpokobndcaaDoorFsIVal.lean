import Derived.Test.YtkkcnpokobndcaaDoorFsCmp
import Derived.Test.YtkkcnpokobndcaaDoorFsValid
import Derived.Test.YtkkcnpokobndcaaDoorOrdG
namespace Go.Proofs.YtkkcnpokobndcaaDoor
open Go.RowKit

set_option maxHeartbeats 400000 in
theorem canBeName_any (a : Option Addr) (n : List Int) (cap : Nat) (w : World) (hn : n.length ≤ 9223372036854775807) :
    Calls Tryd.prog 51 #[.slice a n.length cap] w fun e w' => e = .returned (.bool (nameOK n)) ∧ w = w' := by
  by_cases h : 1 ≤ n.length
  · have HF : Hid (nameOK n = decide (n.length ≤ 100)) := by unfold Hid nameOK; simp [h]
    have h0 : (0 : Int) < (n.length : Int) := by omega
    by_cases h2 : n.length ≤ 100
    · go_enter Tryd.func51, Tryd.ntmps51
      go_wp2
      go_ret
      have h3 : (n.length : Int) ≤ 100 := by omega
      exact ⟨by rw [HF.out, decide_eq_true h2]; simp [h3], rfl⟩
    · go_enter Tryd.func51, Tryd.ntmps51
      go_wp2
      go_ret
      have h3 : ¬ (n.length : Int) ≤ 100 := by omega
      exact ⟨by rw [HF.out, decide_eq_false h2]; simp [h3], rfl⟩
  · have HF : Hid (nameOK n = false) := by unfold Hid nameOK; simp; omega
    have h0 : ¬ (0 : Int) < (n.length : Int) := by omega
    go_enter Tryd.func51, Tryd.ntmps51
    go_wp2
    go_ret
    exact ⟨by rw [HF.out]; rfl, rfl⟩

def within (s d : Int) : Bool := decide (0 ≤ s ∧ s ≤ d)
set_option maxHeartbeats 400000 in
theorem isWithin_any (s d : Int) (w : World) :
    Calls Tryd.prog 52 #[.int .i64 s, .int .i64 d] w fun e w' => e = .returned (.bool (within s d)) ∧ w = w' := by
  by_cases h : 0 ≤ s
  · have HF : Hid (within s d = decide (s ≤ d)) := by unfold Hid within; simp [h]
    by_cases h2 : s ≤ d
    · go_enter Tryd.func52, Tryd.ntmps52
      go_wp2
      go_ret
      exact ⟨by rw [HF.out, decide_eq_true h2]; rfl, rfl⟩
    · go_enter Tryd.func52, Tryd.ntmps52
      go_wp2
      go_ret
      exact ⟨by rw [HF.out, decide_eq_false (show ¬ s ≤ d by omega)]; rfl, rfl⟩
  · have HF : Hid (within s d = false) := by unfold Hid within; simp [h]
    go_enter Tryd.func52, Tryd.ntmps52
    go_wp2
    go_ret
    exact ⟨by rw [HF.out]; rfl, rfl⟩

set_option maxHeartbeats 4000000 in
set_option maxRecDepth 100000 in
theorem implValid_any (v : Value) (fs : List Fl) (w : World) (hv : RdF w.heap.size w v fs) (hd : Fss fs) :
    Calls Tryd.prog 33 #[.agg #[v]] w fun e w' => e = .returned (.bool (validF fs)) ∧ w.grownBy w' none := by
  obtain ⟨a, cap, hv0, hcap, hmax, _⟩ := id hv
  have hlen := hd.len
  by_cases hl : 50 < fs.length
  · have HF := hide (valid_long hl)
    subst hv0
    clear hv
    go_enter Tryd.func33, Tryd.ntmps33
    go_wp2
    go_ret
    exact ⟨by rw [HF.out]; rfl, World.grownBy_alloc _ _ _⟩
  · have HV : Hid (RdF w.heap.size w v fs) := hv
    have HD : Hid (Fss fs) := hd
    subst hv0
    clear hv hd
    go_enter Tryd.func33, Tryd.ntmps33
    go_wp2
    have HC : Hid (∀ wr : World, (w.alloc (.cells #[.slice a fs.length cap] 31)).grownBy wr none → wr.cell? ⟨w.heap.size, 0, none⟩ = some (.slice a fs.length cap)) := fun wr g => g.cell (by simp [go_sem]) (by simp)
    go_loopw [12] (fun i wr => ∃ k : Nat, k ≤ fs.length ∧ i = .int .i64 k ∧ Hid ((List.range k).all (okAt fs) = true) ∧ (w.alloc (.cells #[.slice a fs.length cap] 31)).grownBy wr none) (fun i _ => fs.length - (intOf i).toNat)
    case atStart => exact ⟨0, Nat.zero_le _, rfl, by simp [Hid], World.grownBy.refl _ _⟩
    case round =>
      obtain ⟨k, hk, rfl, HA, hgr⟩ := hrel
      have hfc := HC.out wr hgr
      have hgw : w.grownBy wr none := grown_trans (World.grownBy_alloc _ _ _) hgr
      have HG : Hid (w.grownBy wr none) := hgw
      have HGR := hide hgr
      clear hgr
      by_cases hlt : k < fs.length
      · obtain ⟨b, off, cap', x, hva, hb, hp⟩ := (HV.out.now hgw).at k hlt
        cases hva
        obtain ⟨nv, dv⟩ := x
        have z0 := hp.n; have z1 := hp.d; have z2 := hp.s
        obtain ⟨na, ncap, hnv, hn1, hn2⟩ := hp.sn
        obtain ⟨da, dcap, hdv, hd1, hd2⟩ := hp.sd
        simp only at hnv hdv
        unfold maxLen at hn2 hd2
        have HNm := hide (fun w => canBeName_any na fs[k].n ncap w (by omega))
        have HWi := hide (fun w => isWithin_any fs[k].s fs[k].d.length w)
        by_cases hno : nameOK fs[k].n = true
        · rw [hno] at HNm
          by_cases hsf : 0 ≤ fs[k].s ∧ fs[k].s ≤ (fs[k].d.length : Int)
          · have hok : okF fs[k] = true := by unfold okF; rw [hno, decide_eq_true hsf]; rfl
            rw [show within fs[k].s fs[k].d.length = true from decide_eq_true hsf] at HWi
            obtain ⟨hs0, hs1⟩ := hsf
            by_cases hk0 : k = 0
            · subst hk0
              have HN : Hid ((List.range (0 + 1)).all (okAt fs) = true) := all_rangeS HA.out (by rw [okAt_zero hlt]; exact hok)
              subst hnv hdv
              clear hp hno hok
              simp only [Nat.zero_mul, Nat.add_zero] at z0 z1 z2
              generalize fs[0] = p at *
              go_wp2_with fail
              refine (HNm.out _).mono ?_; rintro e w1 ⟨rfl, rfl⟩
              go_wp2_with fail
              refine (HWi.out _).mono ?_; rintro e w1 ⟨rfl, rfl⟩
              go_wp2
              go_quiet (fail)
              go_wp2
              go_roundw
              case rel => exact ⟨0 + 1, by omega, by go_num, HN, grown_trans HGR.out (grown_drewN (World.grownBy_alloc _ _ _) _)⟩
              case measure => simp [intOf]; omega
            · obtain ⟨j, rfl⟩ : ∃ j, k = j + 1 := ⟨k - 1, by omega⟩
              obtain ⟨b', off', cap'', x', hva', hb', hp'⟩ := (HV.out.now hgw).at j (by omega)
              cases hva'
              obtain ⟨pv, pd⟩ := x'
              have y0 := hp'.n; have y1 := hp'.d; have y2 := hp'.s
              have HCm := hide (fun (w' : World) (g : wr.grownBy w' none) => compareName_any pv pd nv (fs[j]'(by omega)).s (fs[j]'(by omega)).n fs[j + 1].n w' ((hp'.rn.keep g).wideF g.size) hp'.sn ((hp.rn.keep g).wideF g.size) (HD.out.byt _ (List.getElem_mem (show j < fs.length by omega))).1 (HD.out.byt _ (List.getElem_mem hlt)).1)
              obtain ⟨pa, pcap, hpv, hq1, hq2⟩ := hp'.sn
              obtain ⟨qa, qcap, hqv, hr1, hr2⟩ := hp'.sd
              simp only at hpv hqv
              have hj0 : (0 : Int) < (j : Int) + 1 := by omega
              have hj1 : (j : Int) < (fs.length : Int) := by omega
              have hj2 : (j : Int) + 1 - 1 = (j : Int) := by omega
              have hj3 : (0 : Int) ≤ (j : Int) := by omega
              have hj4 : ((j : Int)).toNat = j := by omega
              have hjw : IntKind.i64.wrap (j : Int) = (j : Int) := by rw [IntKind.wrap_i64]; omega
              have hfc2 := (World.grownBy_alloc wr (.cells #[nv, dv, .int .i64 fs[j + 1].s] 49) none).cell hfc (by simp)
              have y0' := (World.grownBy_alloc wr (.cells #[nv, dv, .int .i64 fs[j + 1].s] 49) none).cell y0 (by simp)
              have y1' := (World.grownBy_alloc wr (.cells #[nv, dv, .int .i64 fs[j + 1].s] 49) none).cell y1 (by simp)
              have y2' := (World.grownBy_alloc wr (.cells #[nv, dv, .int .i64 fs[j + 1].s] 49) none).cell y2 (by simp)
              by_cases hle : ltB (fs[j]'(by omega)).n fs[j + 1].n = true
              · have HN : Hid ((List.range (j + 1 + 1)).all (okAt fs) = true) := all_rangeS HA.out (by rw [okAt_succ hlt, hok, hle]; rfl)
                have hcm := (cmpB_lt _ _).2 hle
                subst hnv hdv hpv hqv
                clear hp hp' hno hok hle
                generalize fs[j + 1] = p at *
                generalize fs[j] = p' at *
                generalize cmpB p'.n p.n = c at *
                go_wp2_with fail
                refine (HNm.out _).mono ?_; rintro e w1 ⟨rfl, rfl⟩
                go_wp2_with fail
                refine (HWi.out _).mono ?_; rintro e w1 ⟨rfl, rfl⟩
                go_wp2
                obtain ⟨I, hI⟩ : ∃ I : World → Prop, I = (fun W : World => W.cell? ⟨w.heap.size, 0, none⟩ = some (.slice (some ⟨b, off, none⟩) fs.length cap) ∧ W.cell? ⟨b, off + j * 3, none⟩ = some (.slice pa p'.n.length pcap) ∧ W.cell? ⟨b, off + j * 3 + 1, none⟩ = some (.slice qa p'.d.length qcap) ∧ W.cell? ⟨b, off + j * 3 + 2, none⟩ = some (.int .i64 p'.s) ∧ W.cell? ⟨wr.heap.size, 0, none⟩ = some (.slice na p.n.length ncap)) := ⟨_, rfl⟩
                have HI0 : I (wr.alloc (.cells #[.slice na p.n.length ncap, .slice da p.d.length dcap, .int .i64 p.s] 49)).drew := by rw [hI]; exact ⟨hfc2, y0', y1', y2', by simp [go_sem]⟩
                refine region_anyI I (fun _ => false) (by kernel_rfl) ?_
                show anyI _ _ _ _ _ _ 14 (Array.replicate 14 false) _ _
                refine anyI_take (i := 0) (.int .i64 ((j : Int) + 1)) rfl (by kernel_rfl) (by kernel_rfl) (by kernel_rfl) (by kernel_rfl) (fun _ _ _ h => h) HI0 (yldI rfl (fun W hW => by rw [hI] at hW; obtain ⟨c1, c2, c3, c4, c5⟩ := hW; go_simp)) ?_
                refine anyI_take (i := 1) (.bool true) rfl (by kernel_rfl) (by kernel_rfl) (by kernel_rfl) (by kernel_rfl) (fun _ _ _ h => h) HI0 (yldI rfl (fun W hW => by rw [hI] at hW; obtain ⟨c1, c2, c3, c4, c5⟩ := hW; go_simp)) ?_
                refine anyI_take (i := 2) (.bool true) rfl (by kernel_rfl) (by kernel_rfl) (by kernel_rfl) (by kernel_rfl) (fun _ _ _ h => h) HI0 (yldI rfl (fun W hW => by rw [hI] at hW; obtain ⟨c1, c2, c3, c4, c5⟩ := hW; go_simp)) ?_
                refine anyI_take (i := 3) (.pointer (some ⟨w.heap.size, 0, none⟩)) rfl (by kernel_rfl) (by kernel_rfl) (by kernel_rfl) (by kernel_rfl) (fun _ _ _ h => h) HI0 (yldG (by go_simp) (fun W hW => by rw [hI] at hW; obtain ⟨c1, c2, c3, c4, c5⟩ := hW; go_simp)) ?_
                refine anyI_take (i := 4) (.slice (some ⟨b, off, none⟩) fs.length cap) rfl (by kernel_rfl) (by kernel_rfl) (by kernel_rfl) (by kernel_rfl) (fun _ _ _ h => h) HI0 (yldG (by go_simp) (fun W hW => by rw [hI] at hW; obtain ⟨c1, c2, c3, c4, c5⟩ := hW; go_simp)) ?_
                refine anyI_take (i := 5) (.int .i64 ((j : Int) + 1)) rfl (by kernel_rfl) (by kernel_rfl) (by kernel_rfl) (by kernel_rfl) (fun _ _ _ h => h) HI0 (yldG (by go_simp) (fun W hW => by rw [hI] at hW; obtain ⟨c1, c2, c3, c4, c5⟩ := hW; go_simp)) ?_
                refine anyI_take (i := 6) (.int .i64 (j : Int)) rfl (by kernel_rfl) (by kernel_rfl) (by kernel_rfl) (by kernel_rfl) (fun _ _ _ h => h) HI0 (yldG (by go_simp) (fun W hW => by rw [hI] at hW; obtain ⟨c1, c2, c3, c4, c5⟩ := hW; go_simp; try exact hjw)) ?_
                refine anyI_take (i := 7) (.pointer (some ⟨b, off + j * 3, none⟩)) rfl (by kernel_rfl) (by kernel_rfl) (by kernel_rfl) (by kernel_rfl) (fun _ _ _ h => h) HI0 (yldG (by go_simp) (fun W hW => by rw [hI] at hW; obtain ⟨c1, c2, c3, c4, c5⟩ := hW; go_simp)) ?_
                refine anyI_take (i := 8) (.agg #[.slice pa p'.n.length pcap, .slice qa p'.d.length qcap, .int .i64 p'.s]) rfl (by kernel_rfl) (by kernel_rfl) (by kernel_rfl) (by kernel_rfl) (fun _ _ _ h => h) HI0 (yldG (by go_simp) (fun W hW => by rw [hI] at hW; obtain ⟨c1, c2, c3, c4, c5⟩ := hW; go_simp)) ?_
                refine anyI_take (i := 9) (.pointer (some ⟨wr.heap.size, 0, none⟩)) rfl (by kernel_rfl) (by kernel_rfl) (by kernel_rfl) (by kernel_rfl) (fun _ _ _ h => h) HI0 (yldG (by go_simp) (fun W hW => by rw [hI] at hW; obtain ⟨c1, c2, c3, c4, c5⟩ := hW; go_simp)) ?_
                refine anyI_take (i := 10) (.slice na p.n.length ncap) rfl (by kernel_rfl) (by kernel_rfl) (by kernel_rfl) (by kernel_rfl) (fun _ _ _ h => h) HI0 (yldG (by go_simp) (fun W hW => by rw [hI] at hW; obtain ⟨c1, c2, c3, c4, c5⟩ := hW; go_simp)) ?_
                generalize hG : Act.put _ _ _ = A11
                refine anyI_one (i := 11) (by kernel_rfl) ?_
                simp [Act.put] at hG
                subst hG
                refine wpOp_callG rfl (by go_simp) (by go_simp) (HCm.out ((wr.alloc (.cells #[.slice na p.n.length ncap, .slice da p.d.length dcap, .int .i64 p.s] 49)).drew) (grown_drewG (World.grownBy_alloc _ _ _))) ?_
                rintro e w1 ⟨rfl, g⟩
                have HI1 : I w1 := by
                  rw [hI] at HI0 ⊢
                  obtain ⟨c1, c2, c3, c4, c5⟩ := HI0
                  exact ⟨g.cell c1 (by simp), g.cell c2 (by simp), g.cell c3 (by simp), g.cell c4 (by simp), g.cell c5 (by simp)⟩
                refine ⟨_, rfl, .inr HI1, ?_⟩
                refine anyI_one (i := 12) (by kernel_rfl) (wpOp_valG (v := .bool false) rfl (by go_simp) (by go_simp) ⟨.inr HI1, ?_⟩)
                refine anyI_one (i := 13) (by kernel_rfl) (wpOp_val (v := .bool false) rfl rfl (by go_simp) ⟨.inr HI1, ?_⟩)
                refine anyI_done (by kernel_rfl) ?_ _
                clear HI0 HI1
                subst hI
                go_wp2
                all_goals go_roundw
                all_goals first | exact ⟨j + 1 + 1, by omega, by go_num, HN, grown_trans HGR.out (grown_trans (grown_drewG (World.grownBy_alloc _ _ _)) g)⟩ | (simp [intOf]; omega)
              · have HB : Hid (validF fs = false) := valid_not (j + 1) hlt (by rw [okAt_succ hlt]; simp [hle])
                have hcm : ¬ cmpB (fs[j]'(by omega)).n fs[j + 1].n < 0 := fun h => hle ((cmpB_lt _ _).1 h)
                subst hnv hdv hpv hqv
                clear hp hp' hno hok hle
                generalize fs[j + 1] = p at *
                generalize fs[j] = p' at *
                generalize cmpB p'.n p.n = c at *
                go_wp2_with fail
                refine (HNm.out _).mono ?_; rintro e w1 ⟨rfl, rfl⟩
                go_wp2_with fail
                refine (HWi.out _).mono ?_; rintro e w1 ⟨rfl, rfl⟩
                go_wp2
                obtain ⟨I, hI⟩ : ∃ I : World → Prop, I = (fun W : World => W.cell? ⟨w.heap.size, 0, none⟩ = some (.slice (some ⟨b, off, none⟩) fs.length cap) ∧ W.cell? ⟨b, off + j * 3, none⟩ = some (.slice pa p'.n.length pcap) ∧ W.cell? ⟨b, off + j * 3 + 1, none⟩ = some (.slice qa p'.d.length qcap) ∧ W.cell? ⟨b, off + j * 3 + 2, none⟩ = some (.int .i64 p'.s) ∧ W.cell? ⟨wr.heap.size, 0, none⟩ = some (.slice na p.n.length ncap)) := ⟨_, rfl⟩
                have HI0 : I (wr.alloc (.cells #[.slice na p.n.length ncap, .slice da p.d.length dcap, .int .i64 p.s] 49)).drew := by rw [hI]; exact ⟨hfc2, y0', y1', y2', by simp [go_sem]⟩
                refine region_anyI I (fun _ => false) (by kernel_rfl) ?_
                show anyI _ _ _ _ _ _ 14 (Array.replicate 14 false) _ _
                refine anyI_take (i := 0) (.int .i64 ((j : Int) + 1)) rfl (by kernel_rfl) (by kernel_rfl) (by kernel_rfl) (by kernel_rfl) (fun _ _ _ h => h) HI0 (yldI rfl (fun W hW => by rw [hI] at hW; obtain ⟨c1, c2, c3, c4, c5⟩ := hW; go_simp)) ?_
                refine anyI_take (i := 1) (.bool true) rfl (by kernel_rfl) (by kernel_rfl) (by kernel_rfl) (by kernel_rfl) (fun _ _ _ h => h) HI0 (yldI rfl (fun W hW => by rw [hI] at hW; obtain ⟨c1, c2, c3, c4, c5⟩ := hW; go_simp)) ?_
                refine anyI_take (i := 2) (.bool true) rfl (by kernel_rfl) (by kernel_rfl) (by kernel_rfl) (by kernel_rfl) (fun _ _ _ h => h) HI0 (yldI rfl (fun W hW => by rw [hI] at hW; obtain ⟨c1, c2, c3, c4, c5⟩ := hW; go_simp)) ?_
                refine anyI_take (i := 3) (.pointer (some ⟨w.heap.size, 0, none⟩)) rfl (by kernel_rfl) (by kernel_rfl) (by kernel_rfl) (by kernel_rfl) (fun _ _ _ h => h) HI0 (yldG (by go_simp) (fun W hW => by rw [hI] at hW; obtain ⟨c1, c2, c3, c4, c5⟩ := hW; go_simp)) ?_
                refine anyI_take (i := 4) (.slice (some ⟨b, off, none⟩) fs.length cap) rfl (by kernel_rfl) (by kernel_rfl) (by kernel_rfl) (by kernel_rfl) (fun _ _ _ h => h) HI0 (yldG (by go_simp) (fun W hW => by rw [hI] at hW; obtain ⟨c1, c2, c3, c4, c5⟩ := hW; go_simp)) ?_
                refine anyI_take (i := 5) (.int .i64 ((j : Int) + 1)) rfl (by kernel_rfl) (by kernel_rfl) (by kernel_rfl) (by kernel_rfl) (fun _ _ _ h => h) HI0 (yldG (by go_simp) (fun W hW => by rw [hI] at hW; obtain ⟨c1, c2, c3, c4, c5⟩ := hW; go_simp)) ?_
                refine anyI_take (i := 6) (.int .i64 (j : Int)) rfl (by kernel_rfl) (by kernel_rfl) (by kernel_rfl) (by kernel_rfl) (fun _ _ _ h => h) HI0 (yldG (by go_simp) (fun W hW => by rw [hI] at hW; obtain ⟨c1, c2, c3, c4, c5⟩ := hW; go_simp; try exact hjw)) ?_
                refine anyI_take (i := 7) (.pointer (some ⟨b, off + j * 3, none⟩)) rfl (by kernel_rfl) (by kernel_rfl) (by kernel_rfl) (by kernel_rfl) (fun _ _ _ h => h) HI0 (yldG (by go_simp) (fun W hW => by rw [hI] at hW; obtain ⟨c1, c2, c3, c4, c5⟩ := hW; go_simp)) ?_
                refine anyI_take (i := 8) (.agg #[.slice pa p'.n.length pcap, .slice qa p'.d.length qcap, .int .i64 p'.s]) rfl (by kernel_rfl) (by kernel_rfl) (by kernel_rfl) (by kernel_rfl) (fun _ _ _ h => h) HI0 (yldG (by go_simp) (fun W hW => by rw [hI] at hW; obtain ⟨c1, c2, c3, c4, c5⟩ := hW; go_simp)) ?_
                refine anyI_take (i := 9) (.pointer (some ⟨wr.heap.size, 0, none⟩)) rfl (by kernel_rfl) (by kernel_rfl) (by kernel_rfl) (by kernel_rfl) (fun _ _ _ h => h) HI0 (yldG (by go_simp) (fun W hW => by rw [hI] at hW; obtain ⟨c1, c2, c3, c4, c5⟩ := hW; go_simp)) ?_
                refine anyI_take (i := 10) (.slice na p.n.length ncap) rfl (by kernel_rfl) (by kernel_rfl) (by kernel_rfl) (by kernel_rfl) (fun _ _ _ h => h) HI0 (yldG (by go_simp) (fun W hW => by rw [hI] at hW; obtain ⟨c1, c2, c3, c4, c5⟩ := hW; go_simp)) ?_
                generalize hG : Act.put _ _ _ = A11
                refine anyI_one (i := 11) (by kernel_rfl) ?_
                simp [Act.put] at hG
                subst hG
                refine wpOp_callG rfl (by go_simp) (by go_simp) (HCm.out ((wr.alloc (.cells #[.slice na p.n.length ncap, .slice da p.d.length dcap, .int .i64 p.s] 49)).drew) (grown_drewG (World.grownBy_alloc _ _ _))) ?_
                rintro e w1 ⟨rfl, g⟩
                have HI1 : I w1 := by
                  rw [hI] at HI0 ⊢
                  obtain ⟨c1, c2, c3, c4, c5⟩ := HI0
                  exact ⟨g.cell c1 (by simp), g.cell c2 (by simp), g.cell c3 (by simp), g.cell c4 (by simp), g.cell c5 (by simp)⟩
                refine ⟨_, rfl, .inr HI1, ?_⟩
                refine anyI_one (i := 12) (by kernel_rfl) (wpOp_valG (v := .bool true) rfl (by go_simp) (by go_simp) ⟨.inr HI1, ?_⟩)
                refine anyI_one (i := 13) (by kernel_rfl) (wpOp_val (v := .bool true) rfl rfl (by go_simp) ⟨.inr HI1, ?_⟩)
                refine anyI_done (by kernel_rfl) ?_ _
                clear HI0 HI1
                subst hI
                go_wp2
                all_goals go_ret
                all_goals exact ⟨by rw [HB.out]; rfl, grown_trans HG.out (grown_trans (grown_drewG (World.grownBy_alloc _ _ _)) g)⟩
          · have HB : Hid (validF fs = false) := valid_not k hlt (by cases k with | zero => rw [okAt_zero hlt, okF]; simp [hsf] | succ j => rw [okAt_succ hlt, okF]; simp [hsf])
            rw [show within fs[k].s fs[k].d.length = false from decide_eq_false hsf] at HWi
            subst hnv hdv
            clear hp hno hsf
            generalize fs[k] = p at *
            go_wp2_with fail
            refine (HNm.out _).mono ?_; rintro e w1 ⟨rfl, rfl⟩
            go_wp2_with fail
            refine (HWi.out _).mono ?_; rintro e w1 ⟨rfl, rfl⟩
            go_wp2
            go_ret
            exact ⟨by rw [HB.out]; rfl, grown_trans HG.out (World.grownBy_alloc _ _ _)⟩
        · have HB : Hid (validF fs = false) := valid_not k hlt (by cases k with | zero => rw [okAt_zero hlt, okF]; simp [hno] | succ j => rw [okAt_succ hlt, okF]; simp [hno])
          rw [show nameOK fs[k].n = false by simpa using hno] at HNm
          subst hnv hdv
          clear hp hno
          generalize fs[k] = p at *
          go_wp2_with fail
          refine (HNm.out _).mono ?_; rintro e w1 ⟨rfl, rfl⟩
          go_wp2
          go_ret
          exact ⟨by rw [HB.out]; rfl, grown_trans HG.out (World.grownBy_alloc _ _ _)⟩
      · have HF : Hid (validF fs = true) := valid_all (by omega) (by have := HA.out; rw [show k = fs.length by omega] at this; exact this)
        go_wp2
        go_ret
        exact ⟨by rw [HF.out]; rfl, HG.out⟩

end Go.Proofs.YtkkcnpokobndcaaDoor
