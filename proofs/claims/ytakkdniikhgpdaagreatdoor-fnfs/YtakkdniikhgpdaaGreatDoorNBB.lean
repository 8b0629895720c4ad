import Derived.Maps.AppendAt
import Derived.Lib.BufferMore
import Derived.Deep.Slices
import Derived.Test.YtakkdniikhgpdaaGreatDoorMAG
import Derived.Test.YtakkdniikhgpdaaGreatDoorMAJ
import Derived.Test.YtakkdniikhgpdaaGreatDoorMAS
import Derived.Test.YtakkdniikhgpdaaGreatDoorNAU
namespace Go.Proofs.YtakkdniikhgpdaaGreatDoor
open Go.RowKit

set_option maxHeartbeats 400000 in
theorem canBeName_any (a : Option Addr) (n : List Int) (cap : Nat) (w : World) (hn : n.length ≤ 9223372036854775807) :
    Calls Tryz.prog 45 #[.slice a n.length cap] w fun e w' => e = .returned (.bool (nameOK n)) ∧ w = w' := by
  by_cases h : 1 ≤ n.length
  · have HF : Hid (nameOK n = decide (n.length ≤ 100)) := by unfold Hid nameOK; simp [h]
    have h0 : (0 : Int) < (n.length : Int) := by omega
    by_cases h2 : n.length ≤ 100
    · go_enter Tryz.func45, Tryz.ntmps45
      go_wp2
      go_ret
      have h3 : (n.length : Int) ≤ 100 := by omega
      exact ⟨by rw [HF.out, decide_eq_true h2]; simp [h3], rfl⟩
    · go_enter Tryz.func45, Tryz.ntmps45
      go_wp2
      go_ret
      have h3 : ¬ (n.length : Int) ≤ 100 := by omega
      exact ⟨by rw [HF.out, decide_eq_false h2]; simp [h3], rfl⟩
  · have HF : Hid (nameOK n = false) := by unfold Hid nameOK; simp; omega
    have h0 : ¬ (0 : Int) < (n.length : Int) := by omega
    go_enter Tryz.func45, Tryz.ntmps45
    go_wp2
    go_ret
    exact ⟨by rw [HF.out]; rfl, rfl⟩

def within (s d : Int) : Bool := decide (0 ≤ s ∧ s ≤ d)
set_option maxHeartbeats 400000 in
theorem isWithin_any (s d : Int) (w : World) :
    Calls Tryz.prog 46 #[.int .i64 s, .int .i64 d] w fun e w' => e = .returned (.bool (within s d)) ∧ w = w' := by
  by_cases h : 0 ≤ s
  · have HF : Hid (within s d = decide (s ≤ d)) := by unfold Hid within; simp [h]
    by_cases h2 : s ≤ d
    · go_enter Tryz.func46, Tryz.ntmps46
      go_wp2
      go_ret
      exact ⟨by rw [HF.out, decide_eq_true h2]; rfl, rfl⟩
    · go_enter Tryz.func46, Tryz.ntmps46
      go_wp2
      go_ret
      exact ⟨by rw [HF.out, decide_eq_false (show ¬ s ≤ d by omega)]; rfl, rfl⟩
  · have HF : Hid (within s d = false) := by unfold Hid within; simp [h]
    go_enter Tryz.func46, Tryz.ntmps46
    go_wp2
    go_ret
    exact ⟨by rw [HF.out]; rfl, rfl⟩

set_option maxHeartbeats 4000000 in
set_option maxRecDepth 100000 in
theorem implValid_any (v : Value) (fs : List Fl) (w : World) (hv : RdF w.heap.size w v fs) (hd : Fss fs) :
    Calls Tryz.prog 29 #[.agg #[v]] w fun e w' => e = .returned (.bool (validF fs)) ∧ w.grownBy w' none := by
  obtain ⟨a, cap, hv0, hcap, hmax, _⟩ := id hv
  have hlen := hd.len
  by_cases hl : 50 < fs.length
  · have HF := hide (valid_long hl)
    subst hv0
    clear hv
    go_enter Tryz.func29, Tryz.ntmps29
    go_wp2
    go_ret
    exact ⟨by rw [HF.out]; rfl, World.grownBy_alloc _ _ _⟩
  · have HV : Hid (RdF w.heap.size w v fs) := hv
    have HD : Hid (Fss fs) := hd
    subst hv0
    clear hv hd
    go_enter Tryz.func29, Tryz.ntmps29
    go_wp2
    have HC : Hid (∀ wr : World, (w.alloc (.cells #[.slice a fs.length cap] 25)).grownBy wr none → wr.cell? ⟨w.heap.size, 0, none⟩ = some (.slice a fs.length cap)) := fun wr g => g.cell (by simp [go_sem]) (by simp)
    go_loopw [12] (fun i wr => ∃ k : Nat, k ≤ fs.length ∧ i = .int .i64 k ∧ Hid ((List.range k).all (okAt fs) = true) ∧ (w.alloc (.cells #[.slice a fs.length cap] 25)).grownBy wr none) (fun i _ => fs.length - (intOf i).toNat)
    case atStart => exact ⟨0, Nat.zero_le _, rfl, by simp [Hid], World.grownBy.refl _ _⟩
    case round =>
      obtain ⟨k, hk, rfl, HA, hgr⟩ := hrel
      have hfc := HC.out wr hgr
      have hgw : w.grownBy wr none := grown_trans (World.grownBy_alloc _ _ _) hgr
      have HG : Hid (w.grownBy wr none) := hgw
      have HGR := hide hgr
      clear hgr
      by_cases hlt : k < fs.length
      · obtain ⟨b, off, cap', x, hva, hb, hp⟩ := (HV.out.now hgw).at k hlt
        cases hva
        obtain ⟨nv, dv⟩ := x
        have z0 := hp.n; have z1 := hp.d; have z2 := hp.s
        obtain ⟨na, ncap, hnv, hn1, hn2⟩ := hp.sn
        obtain ⟨da, dcap, hdv, hd1, hd2⟩ := hp.sd
        simp only at hnv hdv
        unfold maxLen at hn2 hd2
        have HNm := hide (fun w => canBeName_any na fs[k].n ncap w (by omega))
        have HWi := hide (fun w => isWithin_any fs[k].s fs[k].d.length w)
        by_cases hno : nameOK fs[k].n = true
        · rw [hno] at HNm
          by_cases hsf : 0 ≤ fs[k].s ∧ fs[k].s ≤ (fs[k].d.length : Int)
          · have hok : okF fs[k] = true := by unfold okF; rw [hno, decide_eq_true hsf]; rfl
            rw [show within fs[k].s fs[k].d.length = true from decide_eq_true hsf] at HWi
            obtain ⟨hs0, hs1⟩ := hsf
            by_cases hk0 : k = 0
            · subst hk0
              have HN : Hid ((List.range (0 + 1)).all (okAt fs) = true) := all_rangeS HA.out (by rw [okAt_zero hlt]; exact hok)
              subst hnv hdv
              clear hp hno hok
              simp only [Nat.zero_mul, Nat.add_zero] at z0 z1 z2
              generalize fs[0] = p at *
              go_wp2_with fail
              refine (HNm.out _).mono ?_; rintro e w1 ⟨rfl, rfl⟩
              go_wp2_with fail
              refine (HWi.out _).mono ?_; rintro e w1 ⟨rfl, rfl⟩
              go_wp2
              go_quiet (fail)
              go_wp2
              go_roundw
              case rel => exact ⟨0 + 1, by omega, by go_num, HN, grown_trans HGR.out (grown_drewN (World.grownBy_alloc _ _ _) _)⟩
              case measure => simp [intOf]; omega
            · obtain ⟨j, rfl⟩ : ∃ j, k = j + 1 := ⟨k - 1, by omega⟩
              obtain ⟨b', off', cap'', x', hva', hb', hp'⟩ := (HV.out.now hgw).at j (by omega)
              cases hva'
              obtain ⟨pv, pd⟩ := x'
              have y0 := hp'.n; have y1 := hp'.d; have y2 := hp'.s
              have HCm := hide (fun (w' : World) (g : wr.grownBy w' none) => compareName_any pv pd nv (fs[j]'(by omega)).s (fs[j]'(by omega)).n fs[j + 1].n w' ((hp'.rn.keep g).wideF g.size) hp'.sn ((hp.rn.keep g).wideF g.size) (HD.out.byt _ (List.getElem_mem (show j < fs.length by omega))).1 (HD.out.byt _ (List.getElem_mem hlt)).1)
              obtain ⟨pa, pcap, hpv, hq1, hq2⟩ := hp'.sn
              obtain ⟨qa, qcap, hqv, hr1, hr2⟩ := hp'.sd
              simp only at hpv hqv
              have hj0 : (0 : Int) < (j : Int) + 1 := by omega
              have hj1 : (j : Int) < (fs.length : Int) := by omega
              have hj2 : (j : Int) + 1 - 1 = (j : Int) := by omega
              have hj3 : (0 : Int) ≤ (j : Int) := by omega
              have hj4 : ((j : Int)).toNat = j := by omega
              have hjw : IntKind.i64.wrap (j : Int) = (j : Int) := by rw [IntKind.wrap_i64]; omega
              have hfc2 := (World.grownBy_alloc wr (.cells #[nv, dv, .int .i64 fs[j + 1].s] 45) none).cell hfc (by simp)
              have y0' := (World.grownBy_alloc wr (.cells #[nv, dv, .int .i64 fs[j + 1].s] 45) none).cell y0 (by simp)
              have y1' := (World.grownBy_alloc wr (.cells #[nv, dv, .int .i64 fs[j + 1].s] 45) none).cell y1 (by simp)
              have y2' := (World.grownBy_alloc wr (.cells #[nv, dv, .int .i64 fs[j + 1].s] 45) none).cell y2 (by simp)
              by_cases hle : ltB (fs[j]'(by omega)).n fs[j + 1].n = true
              · have HN : Hid ((List.range (j + 1 + 1)).all (okAt fs) = true) := all_rangeS HA.out (by rw [okAt_succ hlt, hok, hle]; rfl)
                have hcm := (cmpB_lt _ _).2 hle
                subst hnv hdv hpv hqv
                clear hp hp' hno hok hle
                generalize fs[j + 1] = p at *
                generalize fs[j] = p' at *
                generalize cmpB p'.n p.n = c at *
                go_wp2_with fail
                refine (HNm.out _).mono ?_; rintro e w1 ⟨rfl, rfl⟩
                go_wp2_with fail
                refine (HWi.out _).mono ?_; rintro e w1 ⟨rfl, rfl⟩
                go_wp2
                obtain ⟨I, hI⟩ : ∃ I : World → Prop, I = (fun W : World => W.cell? ⟨w.heap.size, 0, none⟩ = some (.slice (some ⟨b, off, none⟩) fs.length cap) ∧ W.cell? ⟨b, off + j * 3, none⟩ = some (.slice pa p'.n.length pcap) ∧ W.cell? ⟨b, off + j * 3 + 1, none⟩ = some (.slice qa p'.d.length qcap) ∧ W.cell? ⟨b, off + j * 3 + 2, none⟩ = some (.int .i64 p'.s) ∧ W.cell? ⟨wr.heap.size, 0, none⟩ = some (.slice na p.n.length ncap)) := ⟨_, rfl⟩
                have HI0 : I (wr.alloc (.cells #[.slice na p.n.length ncap, .slice da p.d.length dcap, .int .i64 p.s] 45)).drew := by rw [hI]; exact ⟨hfc2, y0', y1', y2', by simp [go_sem]⟩
                refine region_anyI I (fun _ => false) (by kernel_rfl) ?_
                show anyI _ _ _ _ _ _ 14 (Array.replicate 14 false) _ _
                refine anyI_take (i := 0) (.int .i64 ((j : Int) + 1)) rfl (by kernel_rfl) (by kernel_rfl) (by kernel_rfl) (by kernel_rfl) (fun _ _ _ h => h) HI0 (yldI rfl (fun W hW => by rw [hI] at hW; obtain ⟨c1, c2, c3, c4, c5⟩ := hW; go_simp)) ?_
                refine anyI_take (i := 1) (.bool true) rfl (by kernel_rfl) (by kernel_rfl) (by kernel_rfl) (by kernel_rfl) (fun _ _ _ h => h) HI0 (yldI rfl (fun W hW => by rw [hI] at hW; obtain ⟨c1, c2, c3, c4, c5⟩ := hW; go_simp)) ?_
                refine anyI_take (i := 2) (.bool true) rfl (by kernel_rfl) (by kernel_rfl) (by kernel_rfl) (by kernel_rfl) (fun _ _ _ h => h) HI0 (yldI rfl (fun W hW => by rw [hI] at hW; obtain ⟨c1, c2, c3, c4, c5⟩ := hW; go_simp)) ?_
                refine anyI_take (i := 3) (.pointer (some ⟨w.heap.size, 0, none⟩)) rfl (by kernel_rfl) (by kernel_rfl) (by kernel_rfl) (by kernel_rfl) (fun _ _ _ h => h) HI0 (yldG (by go_simp) (fun W hW => by rw [hI] at hW; obtain ⟨c1, c2, c3, c4, c5⟩ := hW; go_simp)) ?_
                refine anyI_take (i := 4) (.slice (some ⟨b, off, none⟩) fs.length cap) rfl (by kernel_rfl) (by kernel_rfl) (by kernel_rfl) (by kernel_rfl) (fun _ _ _ h => h) HI0 (yldG (by go_simp) (fun W hW => by rw [hI] at hW; obtain ⟨c1, c2, c3, c4, c5⟩ := hW; go_simp)) ?_
                refine anyI_take (i := 5) (.int .i64 ((j : Int) + 1)) rfl (by kernel_rfl) (by kernel_rfl) (by kernel_rfl) (by kernel_rfl) (fun _ _ _ h => h) HI0 (yldG (by go_simp) (fun W hW => by rw [hI] at hW; obtain ⟨c1, c2, c3, c4, c5⟩ := hW; go_simp)) ?_
                refine anyI_take (i := 6) (.int .i64 (j : Int)) rfl (by kernel_rfl) (by kernel_rfl) (by kernel_rfl) (by kernel_rfl) (fun _ _ _ h => h) HI0 (yldG (by go_simp) (fun W hW => by rw [hI] at hW; obtain ⟨c1, c2, c3, c4, c5⟩ := hW; go_simp; try exact hjw)) ?_
                refine anyI_take (i := 7) (.pointer (some ⟨b, off + j * 3, none⟩)) rfl (by kernel_rfl) (by kernel_rfl) (by kernel_rfl) (by kernel_rfl) (fun _ _ _ h => h) HI0 (yldG (by go_simp) (fun W hW => by rw [hI] at hW; obtain ⟨c1, c2, c3, c4, c5⟩ := hW; go_simp)) ?_
                refine anyI_take (i := 8) (.agg #[.slice pa p'.n.length pcap, .slice qa p'.d.length qcap, .int .i64 p'.s]) rfl (by kernel_rfl) (by kernel_rfl) (by kernel_rfl) (by kernel_rfl) (fun _ _ _ h => h) HI0 (yldG (by go_simp) (fun W hW => by rw [hI] at hW; obtain ⟨c1, c2, c3, c4, c5⟩ := hW; go_simp)) ?_
                refine anyI_take (i := 9) (.pointer (some ⟨wr.heap.size, 0, none⟩)) rfl (by kernel_rfl) (by kernel_rfl) (by kernel_rfl) (by kernel_rfl) (fun _ _ _ h => h) HI0 (yldG (by go_simp) (fun W hW => by rw [hI] at hW; obtain ⟨c1, c2, c3, c4, c5⟩ := hW; go_simp)) ?_
                refine anyI_take (i := 10) (.slice na p.n.length ncap) rfl (by kernel_rfl) (by kernel_rfl) (by kernel_rfl) (by kernel_rfl) (fun _ _ _ h => h) HI0 (yldG (by go_simp) (fun W hW => by rw [hI] at hW; obtain ⟨c1, c2, c3, c4, c5⟩ := hW; go_simp)) ?_
                generalize hG : Act.put _ _ _ = A11
                refine anyI_one (i := 11) (by kernel_rfl) ?_
                simp [Act.put] at hG
                subst hG
                refine wpOp_callG rfl (by go_simp) (by go_simp) (HCm.out ((wr.alloc (.cells #[.slice na p.n.length ncap, .slice da p.d.length dcap, .int .i64 p.s] 45)).drew) (grown_drewG (World.grownBy_alloc _ _ _))) ?_
                rintro e w1 ⟨rfl, g⟩
                have HI1 : I w1 := by
                  rw [hI] at HI0 ⊢
                  obtain ⟨c1, c2, c3, c4, c5⟩ := HI0
                  exact ⟨g.cell c1 (by simp), g.cell c2 (by simp), g.cell c3 (by simp), g.cell c4 (by simp), g.cell c5 (by simp)⟩
                refine ⟨_, rfl, .inr HI1, ?_⟩
                refine anyI_one (i := 12) (by kernel_rfl) (wpOp_valG (v := .bool false) rfl (by go_simp) (by go_simp) ⟨.inr HI1, ?_⟩)
                refine anyI_one (i := 13) (by kernel_rfl) (wpOp_val (v := .bool false) rfl rfl (by go_simp) ⟨.inr HI1, ?_⟩)
                refine anyI_done (by kernel_rfl) ?_ _
                clear HI0 HI1
                subst hI
                go_wp2
                all_goals go_roundw
                all_goals first | exact ⟨j + 1 + 1, by omega, by go_num, HN, grown_trans HGR.out (grown_trans (grown_drewG (World.grownBy_alloc _ _ _)) g)⟩ | (simp [intOf]; omega)
              · have HB : Hid (validF fs = false) := valid_not (j + 1) hlt (by rw [okAt_succ hlt]; simp [hle])
                have hcm : ¬ cmpB (fs[j]'(by omega)).n fs[j + 1].n < 0 := fun h => hle ((cmpB_lt _ _).1 h)
                subst hnv hdv hpv hqv
                clear hp hp' hno hok hle
                generalize fs[j + 1] = p at *
                generalize fs[j] = p' at *
                generalize cmpB p'.n p.n = c at *
                go_wp2_with fail
                refine (HNm.out _).mono ?_; rintro e w1 ⟨rfl, rfl⟩
                go_wp2_with fail
                refine (HWi.out _).mono ?_; rintro e w1 ⟨rfl, rfl⟩
                go_wp2
                obtain ⟨I, hI⟩ : ∃ I : World → Prop, I = (fun W : World => W.cell? ⟨w.heap.size, 0, none⟩ = some (.slice (some ⟨b, off, none⟩) fs.length cap) ∧ W.cell? ⟨b, off + j * 3, none⟩ = some (.slice pa p'.n.length pcap) ∧ W.cell? ⟨b, off + j * 3 + 1, none⟩ = some (.slice qa p'.d.length qcap) ∧ W.cell? ⟨b, off + j * 3 + 2, none⟩ = some (.int .i64 p'.s) ∧ W.cell? ⟨wr.heap.size, 0, none⟩ = some (.slice na p.n.length ncap)) := ⟨_, rfl⟩
                have HI0 : I (wr.alloc (.cells #[.slice na p.n.length ncap, .slice da p.d.length dcap, .int .i64 p.s] 45)).drew := by rw [hI]; exact ⟨hfc2, y0', y1', y2', by simp [go_sem]⟩
                refine region_anyI I (fun _ => false) (by kernel_rfl) ?_
                show anyI _ _ _ _ _ _ 14 (Array.replicate 14 false) _ _
                refine anyI_take (i := 0) (.int .i64 ((j : Int) + 1)) rfl (by kernel_rfl) (by kernel_rfl) (by kernel_rfl) (by kernel_rfl) (fun _ _ _ h => h) HI0 (yldI rfl (fun W hW => by rw [hI] at hW; obtain ⟨c1, c2, c3, c4, c5⟩ := hW; go_simp)) ?_
                refine anyI_take (i := 1) (.bool true) rfl (by kernel_rfl) (by kernel_rfl) (by kernel_rfl) (by kernel_rfl) (fun _ _ _ h => h) HI0 (yldI rfl (fun W hW => by rw [hI] at hW; obtain ⟨c1, c2, c3, c4, c5⟩ := hW; go_simp)) ?_
                refine anyI_take (i := 2) (.bool true) rfl (by kernel_rfl) (by kernel_rfl) (by kernel_rfl) (by kernel_rfl) (fun _ _ _ h => h) HI0 (yldI rfl (fun W hW => by rw [hI] at hW; obtain ⟨c1, c2, c3, c4, c5⟩ := hW; go_simp)) ?_
                refine anyI_take (i := 3) (.pointer (some ⟨w.heap.size, 0, none⟩)) rfl (by kernel_rfl) (by kernel_rfl) (by kernel_rfl) (by kernel_rfl) (fun _ _ _ h => h) HI0 (yldG (by go_simp) (fun W hW => by rw [hI] at hW; obtain ⟨c1, c2, c3, c4, c5⟩ := hW; go_simp)) ?_
                refine anyI_take (i := 4) (.slice (some ⟨b, off, none⟩) fs.length cap) rfl (by kernel_rfl) (by kernel_rfl) (by kernel_rfl) (by kernel_rfl) (fun _ _ _ h => h) HI0 (yldG (by go_simp) (fun W hW => by rw [hI] at hW; obtain ⟨c1, c2, c3, c4, c5⟩ := hW; go_simp)) ?_
                refine anyI_take (i := 5) (.int .i64 ((j : Int) + 1)) rfl (by kernel_rfl) (by kernel_rfl) (by kernel_rfl) (by kernel_rfl) (fun _ _ _ h => h) HI0 (yldG (by go_simp) (fun W hW => by rw [hI] at hW; obtain ⟨c1, c2, c3, c4, c5⟩ := hW; go_simp)) ?_
                refine anyI_take (i := 6) (.int .i64 (j : Int)) rfl (by kernel_rfl) (by kernel_rfl) (by kernel_rfl) (by kernel_rfl) (fun _ _ _ h => h) HI0 (yldG (by go_simp) (fun W hW => by rw [hI] at hW; obtain ⟨c1, c2, c3, c4, c5⟩ := hW; go_simp; try exact hjw)) ?_
                refine anyI_take (i := 7) (.pointer (some ⟨b, off + j * 3, none⟩)) rfl (by kernel_rfl) (by kernel_rfl) (by kernel_rfl) (by kernel_rfl) (fun _ _ _ h => h) HI0 (yldG (by go_simp) (fun W hW => by rw [hI] at hW; obtain ⟨c1, c2, c3, c4, c5⟩ := hW; go_simp)) ?_
                refine anyI_take (i := 8) (.agg #[.slice pa p'.n.length pcap, .slice qa p'.d.length qcap, .int .i64 p'.s]) rfl (by kernel_rfl) (by kernel_rfl) (by kernel_rfl) (by kernel_rfl) (fun _ _ _ h => h) HI0 (yldG (by go_simp) (fun W hW => by rw [hI] at hW; obtain ⟨c1, c2, c3, c4, c5⟩ := hW; go_simp)) ?_
                refine anyI_take (i := 9) (.pointer (some ⟨wr.heap.size, 0, none⟩)) rfl (by kernel_rfl) (by kernel_rfl) (by kernel_rfl) (by kernel_rfl) (fun _ _ _ h => h) HI0 (yldG (by go_simp) (fun W hW => by rw [hI] at hW; obtain ⟨c1, c2, c3, c4, c5⟩ := hW; go_simp)) ?_
                refine anyI_take (i := 10) (.slice na p.n.length ncap) rfl (by kernel_rfl) (by kernel_rfl) (by kernel_rfl) (by kernel_rfl) (fun _ _ _ h => h) HI0 (yldG (by go_simp) (fun W hW => by rw [hI] at hW; obtain ⟨c1, c2, c3, c4, c5⟩ := hW; go_simp)) ?_
                generalize hG : Act.put _ _ _ = A11
                refine anyI_one (i := 11) (by kernel_rfl) ?_
                simp [Act.put] at hG
                subst hG
                refine wpOp_callG rfl (by go_simp) (by go_simp) (HCm.out ((wr.alloc (.cells #[.slice na p.n.length ncap, .slice da p.d.length dcap, .int .i64 p.s] 45)).drew) (grown_drewG (World.grownBy_alloc _ _ _))) ?_
                rintro e w1 ⟨rfl, g⟩
                have HI1 : I w1 := by
                  rw [hI] at HI0 ⊢
                  obtain ⟨c1, c2, c3, c4, c5⟩ := HI0
                  exact ⟨g.cell c1 (by simp), g.cell c2 (by simp), g.cell c3 (by simp), g.cell c4 (by simp), g.cell c5 (by simp)⟩
                refine ⟨_, rfl, .inr HI1, ?_⟩
                refine anyI_one (i := 12) (by kernel_rfl) (wpOp_valG (v := .bool true) rfl (by go_simp) (by go_simp) ⟨.inr HI1, ?_⟩)
                refine anyI_one (i := 13) (by kernel_rfl) (wpOp_val (v := .bool true) rfl rfl (by go_simp) ⟨.inr HI1, ?_⟩)
                refine anyI_done (by kernel_rfl) ?_ _
                clear HI0 HI1
                subst hI
                go_wp2
                all_goals go_ret
                all_goals exact ⟨by rw [HB.out]; rfl, grown_trans HG.out (grown_trans (grown_drewG (World.grownBy_alloc _ _ _)) g)⟩
          · have HB : Hid (validF fs = false) := valid_not k hlt (by cases k with | zero => rw [okAt_zero hlt, okF]; simp [hsf] | succ j => rw [okAt_succ hlt, okF]; simp [hsf])
            rw [show within fs[k].s fs[k].d.length = false from decide_eq_false hsf] at HWi
            subst hnv hdv
            clear hp hno hsf
            generalize fs[k] = p at *
            go_wp2_with fail
            refine (HNm.out _).mono ?_; rintro e w1 ⟨rfl, rfl⟩
            go_wp2_with fail
            refine (HWi.out _).mono ?_; rintro e w1 ⟨rfl, rfl⟩
            go_wp2
            go_ret
            exact ⟨by rw [HB.out]; rfl, grown_trans HG.out (World.grownBy_alloc _ _ _)⟩
        · have HB : Hid (validF fs = false) := valid_not k hlt (by cases k with | zero => rw [okAt_zero hlt, okF]; simp [hno] | succ j => rw [okAt_succ hlt, okF]; simp [hno])
          rw [show nameOK fs[k].n = false by simpa using hno] at HNm
          subst hnv hdv
          clear hp hno
          generalize fs[k] = p at *
          go_wp2_with fail
          refine (HNm.out _).mono ?_; rintro e w1 ⟨rfl, rfl⟩
          go_wp2
          go_ret
          exact ⟨by rw [HB.out]; rfl, grown_trans HG.out (World.grownBy_alloc _ _ _)⟩
      · have HF : Hid (validF fs = true) := valid_all (by omega) (by have := HA.out; rw [show k = fs.length by omega] at this; exact this)
        go_wp2
        go_ret
        exact ⟨by rw [HF.out]; rfl, HG.out⟩

end Go.Proofs.YtakkdniikhgpdaaGreatDoor

namespace Go.Proofs.YtakkdniikhgpdaaGreatDoor
open Go.RowKit
attribute [-go_sem] Builtin.append_

/-- An empty row that has just been laid. -/
theorem row_newF (w : World) (e : TypeId) (size : Nat) : (w.alloc (Obj.cells #[] e)).ownsRow w.heap.size e size (.slice (some ⟨w.heap.size, 0, none⟩) 0 0) 0 [] :=
  ⟨by simp, .inr ⟨w.heap.size, 0, #[], rfl, Nat.le_refl _, by show (w.heap.push _)[w.heap.size]? = _; simp, Nat.le_refl _, by unfold maxLen; omega, by simp, by simp⟩⟩

set_option maxHeartbeats 1000000 in
set_option maxRecDepth 100000 in
theorem bytesClone_any (v : Value) (zs : List Int) (w : World) (hv : RdB w.heap.size w v zs) (hn : zs.length ≤ 4194304) :
    Calls Tryz.prog 49 #[v] w fun e w' => ∃ v', e = .returned v' ∧ OwB w.heap.size w' v' zs ∧ w.grownBy w' none := by
  obtain ⟨a, cap, hv0, hr⟩ := id hv
  cases a with
  | none =>
    have hz : zs = [] := by
      rcases zs with _ | ⟨z, zs⟩
      · rfl
      · obtain ⟨b, off, ha, _⟩ := hr (by simp); cases ha
    subst hz hv0
    clear hv hr
    have hnil : ∀ w : World, (binOp .eql 22 (.slice none 0 cap) (.slice none 0 0)).run Tryz.prog w = .ok (.bool true) w := fun w => Lib.run_eql_slice_nil_nil w _ _ Tryz.underlying22
    simp only [List.length_nil]
    go_enter Tryz.func49, Tryz.ntmps49
    go_wp2
    go_ret
    exact ⟨_, rfl, ⟨by simp, .inl ⟨rfl, rfl⟩⟩, World.grownBy.refl _ _⟩
  | some ad =>
    subst hv0
    have hnil : ∀ w : World, (binOp .eql 22 (.slice (some ad) zs.length cap) (.slice none 0 0)).run Tryz.prog w = .ok (.bool false) w := fun w => Lib.run_eql_slice_some_nil w _ _ _ Tryz.underlying22
    obtain ⟨v', w', hrun, o', g', _⟩ := append_bytesF w.heap.size w.heap.size (w.alloc (Obj.cells #[] 5)) (.slice (some ⟨w.heap.size, 0, none⟩) 0 0) (.slice (some ad) zs.length cap) [] zs (by simpa [OwB, Ow] using row_newF w 5 1) (hv.keep (World.grownBy_alloc _ _ _)) (by simp) (by simp; omega)
    simp only [List.nil_append] at o'
    have g2 : w.grownBy w' none := grown_new (World.grownBy_alloc w (Obj.cells #[] 5) none) g' (fun j e => by cases e; exact Nat.le_refl _)
    clear hv hr g'
    go_enter Tryz.func49, Tryz.ntmps49
    go_wp2
    go_ret
    exact ⟨_, rfl, o', g2⟩

/-- The cells of files that are read. -/
theorem rdF_cells {B : Nat} {w : World} {v : Value} {fs : List Fl} (h : RdF B w v fs) : ∃ (a : Option Addr) (cap : Nat) (xs : List (Value × Value)), v = .slice a fs.length cap ∧ xs.length = fs.length ∧
    (∀ ad, a = some ad → ∀ j u, (cellsF fs xs)[j]? = some u → w.cell? (ad.add j) = some u) ∧ (a = none → fs = []) ∧
    (∀ (j : Nat) (p : Fl) (x : Value × Value), fs[j]? = some p → xs[j]? = some x → RdB B w x.1 p.n ∧ Sl x.1 p.n.length ∧ RdB B w x.2 p.d ∧ Sl x.2 p.d.length) := by
  obtain ⟨a, cap, hv, h1, h2, hh⟩ := h
  by_cases h0 : fs = []
  · subst h0
    exact ⟨a, cap, [], hv, rfl, fun ad _ j u hj => by simp [cellsF] at hj, fun _ => rfl, fun j p x hp => by simp at hp⟩
  · obtain ⟨b, off, ha, hb, hc⟩ := hh h0
    have each : ∀ j, j < fs.length → ∃ x : Value × Value, ∀ p, fs[j]? = some p → FlAt B w b (off + j * 3) p x := fun j hj => by
      obtain ⟨x, hx⟩ := hc j fs[j] (by simp [hj])
      exact ⟨x, fun p hp => by simp [hj] at hp; subst hp; exact hx⟩
    haveI : Inhabited (Value × Value) := ⟨(.bool false, .bool false)⟩
    obtain ⟨q, hq⟩ := Deep.choose_lt each
    refine ⟨a, cap, (List.range fs.length).map q, hv, by simp, fun ad had j u hj => ?_, fun e => (by rw [ha] at e; cases e), fun j p x hp hx => ?_⟩
    · rw [ha] at had
      cases had
      have hjl := (List.getElem?_eq_some_iff.1 hj).1
      rw [cellsF_len _ _ (by simp)] at hjl
      obtain ⟨i, r, rfl, hr3⟩ : ∃ i r, j = i * 3 + r ∧ r < 3 := ⟨j / 3, j % 3, by omega, by omega⟩
      have hi : i < fs.length := by omega
      have hpi : fs[i]? = some fs[i] := by simp [hi]
      obtain ⟨x, hx, c0, c1, c2⟩ := cellsF_at fs ((List.range fs.length).map q) i _ (by simp) hpi
      have hxq : q i = x := by simpa [hi] using hx
      have hf := hq i hi _ hpi
      rw [hxq] at hf
      rw [Addr.add_lit, ← Nat.add_assoc]
      match r, hr3 with
      | 0, _ => rw [Nat.add_zero, c0] at hj; cases hj; exact hf.n
      | 1, _ => rw [c1] at hj; cases hj; exact hf.d
      | 2, _ => rw [c2] at hj; cases hj; exact hf.s
    · have hj := (List.getElem?_eq_some_iff.1 hp).1
      have hxq : q j = x := by simpa [hj] using hx
      have hf := hq j hj p hp
      rw [hxq] at hf
      exact ⟨hf.rn, hf.sn, hf.rd, hf.sd⟩

theorem cellsF_one : ∀ (fs : List Fl) (xs : List (Value × Value)), (∀ (j : Nat) (p : Fl) (x : Value × Value), fs[j]? = some p → xs[j]? = some x → Sl x.1 p.n.length ∧ Sl x.2 p.d.length) → ∀ u ∈ cellsF fs xs, u.oneCell' = true
  | [], _, _, u, hu => by simp [cellsF] at hu
  | _ :: _, [], _, u, hu => by simp [cellsF] at hu
  | p :: ps, x :: xs, h, u, hu => by
    have h0 := h 0 p x rfl rfl
    obtain ⟨⟨a1, c1, e1, _⟩, ⟨a2, c2, e2, _⟩⟩ := h0
    simp only [cellsF, List.mem_cons] at hu
    rcases hu with rfl | rfl | rfl | hu
    · rw [e1]; rfl
    · rw [e2]; rfl
    · rfl
    · exact cellsF_one ps xs (fun j q y hq hy => h (j + 1) q y (by simpa using hq) (by simpa using hy)) u hu


set_option maxHeartbeats 1000000 in
set_option maxRecDepth 100000 in
theorem filesClone_any (v : Value) (fs : List Fl) (w : World) (hv : RdF w.heap.size w v fs) (hn : fs.length ≤ 1048576) :
    Calls Tryz.prog 48 #[v] w fun e w' => ∃ v', e = .returned v' ∧ RoF w.heap.size w.heap.size w' v' fs ∧ w.grownBy w' none := by
  obtain ⟨a, cap, xs, hv0, hl, hcel, hnone, htx⟩ := rdF_cells hv
  cases a with
  | none =>
    obtain rfl := hnone rfl
    subst hv0
    clear hv hcel htx
    have hnil : ∀ w : World, (binOp .eql 23 (.slice none 0 cap) (.slice none 0 0)).run Tryz.prog w = .ok (.bool true) w := fun w => Lib.run_eql_slice_nil_nil w _ _ Tryz.underlying23
    simp only [List.length_nil]
    go_enter Tryz.func48, Tryz.ntmps48
    go_wp2
    go_ret
    exact ⟨_, rfl, RoF.nil _ _ _, World.grownBy.refl _ _⟩
  | some ad =>
    subst hv0
    have hnil : ∀ w : World, (binOp .eql 23 (.slice (some ad) fs.length cap) (.slice none 0 0)).run Tryz.prog w = .ok (.bool false) w := fun w => Lib.run_eql_slice_some_nil w _ _ _ Tryz.underlying23
    obtain ⟨i0, hi, hz0, hz1, hz2⟩ := info_parts infoFl
    obtain ⟨v', w', hrun, h3, h4, _, h5⟩ := run_append_own_at (P := Tryz.prog) (w.alloc (Obj.cells #[] 45)) w.heap.size 23 23 45 i0 (.agg #[.slice none 0 0, .slice none 0 0, .int .i64 0]) 3 56 Tryz.underlying23 hi hz0 hz1 hz2 rfl (by decide)
      (.slice (some ⟨w.heap.size, 0, none⟩) 0 0) 0 [] (row_newF w 45 3) ad fs.length cap (cellsF fs xs) (cellsF_len fs xs hl) (fun j u hj => (World.grownBy_alloc w (Obj.cells #[] 45) none).cell (hcel ad rfl j u hj) (by simp))
      (cellsF_one fs xs (fun j p x hp hx => ⟨(htx j p x hp hx).2.1, (htx j p x hp hx).2.2.2⟩)) (by unfold maxLen; omega) (by omega) (by simp)
    have g2 : w.grownBy w' none := grown_new (World.grownBy_alloc w (Obj.cells #[] 45) none) h4 (fun j e => by cases e; exact Nat.le_refl _)
    have hro : RoF w.heap.size w.heap.size w' v' fs := by
      refine ⟨xs, hl, by simpa using h3, fun j p x hp hx => ?_⟩
      obtain ⟨r1, r2, r3, r4⟩ := htx j p x hp hx
      exact ⟨r1.keep g2, r2, r3.keep g2, r4⟩
    clear hv hcel htx h3 h4 h5 hl
    go_enter Tryz.func48, Tryz.ntmps48
    go_wp2
    go_ret
    exact ⟨_, rfl, hro, g2⟩

end Go.Proofs.YtakkdniikhgpdaaGreatDoor

namespace Go.Proofs.YtakkdniikhgpdaaGreatDoor
open Go.RowKit

/-- Two cells of a file are set. -/
theorem cellsF_set2 : ∀ (L : List Fl) (xs : List (Value × Value)) (k : Nat) (u1 u2 : Value), xs.length = L.length → k < L.length → cellsF L (xs.set k (u1, u2)) = ((cellsF L xs).set (k * 3) u1).set (k * 3 + 1) u2
  | _ :: _, _ :: _, 0, u1, u2, _, _ => by simp [cellsF]
  | p :: L, x :: xs, k + 1, u1, u2, h, hk => by
    simp only [List.length_cons, Nat.add_right_cancel_iff] at h
    have ih := cellsF_set2 L xs k u1 u2 h (by simpa using hk)
    simp only [List.set_cons_succ, cellsF, ih]
    rw [show (k + 1) * 3 = k * 3 + 3 by omega, show k * 3 + 3 + 1 = k * 3 + 1 + 3 by omega]
    simp
  | [], _, _, _, _, _, hk => by simp at hk
  | _ :: _, [], _, _, _, h, _ => by simp at h

/-- One more file, whose texts lie behind C. -/
theorem TxF.snoc2 {B C : Nat} {w : World} {g : Option Nat} {fs : List Fl} {xs : List (Value × Value)} {p : Fl} {x : Value × Value} (h : TxF B w g fs xs) (hBC : B ≤ C) (hlow : ∀ v ∈ pairs xs, ∀ k, v.ownBlock = some k → k < C) (hgs : ∀ k, g = some k → k < C)
    (o1 : OwB C w x.1 p.n) (o2 : OwB C w x.2 p.d) (ha : Apt x.1 x.2) : TxF B w g (fs ++ [p]) (xs ++ [x]) := by
  have hl := h.len
  refine ⟨by simp [hl], fun j q u h1 h2 => ?_, ?_⟩
  · by_cases hj : j < fs.length
    · rw [List.getElem?_append_left hj] at h1
      rw [List.getElem?_append_left (by omega)] at h2
      exact h.own j q u h1 h2
    · have hj2 : j = fs.length := by
        have := (List.getElem?_eq_some_iff.1 h1).1
        simp at this; omega
      subst hj2
      simp at h1
      rw [← hl] at h2
      simp at h2
      subst h1 h2
      refine ⟨row_base hBC o1, row_base hBC o2, fun k hk => ⟨fun e => ?_, fun e => ?_⟩⟩
      · have := World.ownsRow.lt o1 _ e; have := hgs k hk; omega
      · have := World.ownsRow.lt o2 _ e; have := hgs k hk; omega
  · rw [pairs_snoc, List.pairwise_append]
    refine ⟨h.apart, by simpa using ha, ?_⟩
    intro a hm b hb k hk hk2
    have h1 := hlow a hm k hk
    simp only [List.mem_cons, List.not_mem_nil, or_false] at hb
    rcases hb with rfl | rfl
    · have := World.ownsRow.lt o1 _ hk2; omega
    · have := World.ownsRow.lt o2 _ hk2; omega

/-- A row of files of one's own from block T on: the first k files' texts are of their own, the others' read below T. -/
def Mix (T : Nat) (w : World) (v : Value) (fs : List Fl) (k : Nat) : Prop :=
  ∃ xs : List (Value × Value), xs.length = fs.length ∧ w.ownsRow T 45 3 v fs.length (cellsF fs xs) ∧ TxF T w v.ownBlock (fs.take k) (xs.take k) ∧
    ∀ (j : Nat) (p : Fl) (x : Value × Value), k ≤ j → fs[j]? = some p → xs[j]? = some x → RdB T w x.1 p.n ∧ Sl x.1 p.n.length ∧ RdB T w x.2 p.d ∧ Sl x.2 p.d.length

theorem RoF.mix {T : Nat} {w : World} {v : Value} {fs : List Fl} (h : RoF T T w v fs) : Mix T w v fs 0 := by
  obtain ⟨xs, hl, ho, hx⟩ := h
  exact ⟨xs, hl, ho, ⟨by simp, fun j p x h _ => by simp at h, by simp [pairs]⟩, fun j p x _ hp hxj => hx j p x hp hxj⟩
theorem Mix.all {T : Nat} {w : World} {v : Value} {fs : List Fl} (h : Mix T w v fs fs.length) : OwF T w v fs := by
  obtain ⟨xs, hl, ho, ht, _⟩ := h
  rw [List.take_length, ← hl, List.take_length] at ht
  exact ⟨xs, ho, ht⟩
theorem Mix.low {T : Nat} {w : World} {v : Value} {fs : List Fl} {k : Nat} (h : Mix T w v fs k) : ∀ j, v.ownBlock = some j → T ≤ j ∧ j < w.heap.size := by
  obtain ⟨xs, hl, ho, _⟩ := h
  exact fun j hj => World.ownsRow.lt ho j hj

theorem Mix.step {T : Nat} {w : World} {g cap : Nat} {fs : List Fl} {k : Nat} (h : Mix T w (.slice (some ⟨g, 0, none⟩) fs.length cap) fs k) (hk : k < fs.length) (hT : T ≤ w.heap.size) :
    ∃ nv dv : Value, w.cell? ⟨g, k * 3, none⟩ = some nv ∧ w.frozen? ⟨g, k * 3, none⟩ = false ∧ RdB T w nv fs[k].n ∧ Sl nv fs[k].n.length ∧ w.cell? ⟨g, k * 3 + 1, none⟩ = some dv ∧ w.frozen? ⟨g, k * 3 + 1, none⟩ = false ∧ RdB T w dv fs[k].d ∧ Sl dv fs[k].d.length ∧
      ∀ (w1 w3 : World) (n1 d1 : Value), w.grownBy w1 none → OwB w.heap.size w1 n1 fs[k].n → (w1.setCell ⟨g, k * 3, none⟩ n1).grownBy w3 none → OwB (w1.setCell ⟨g, k * 3, none⟩ n1).heap.size w3 d1 fs[k].d →
        Mix T (w3.setCell ⟨g, k * 3 + 1, none⟩ d1) (.slice (some ⟨g, 0, none⟩) fs.length cap) fs (k + 1) := by
  obtain ⟨xs, hl, ho, ht, hx⟩ := h
  have hp : fs[k]? = some fs[k] := by simp [hk]
  obtain ⟨x, hxk, c0, c1, c2⟩ := cellsF_at fs xs k fs[k] hl hp
  obtain ⟨r1, s1, r2, s2⟩ := hx k fs[k] x (Nat.le_refl _) hp hxk
  have hgl := World.ownsRow.lt ho g rfl
  refine ⟨x.1, x.2, ?_, World.ownsRow.frozenAt ho _, r1, s1, ?_, World.ownsRow.frozenAt ho _, r2, s2, ?_⟩
  · rw [World.ownsRow.cellAt ho (k * 3) (by omega), c0]
  · rw [World.ownsRow.cellAt ho (k * 3 + 1) (by omega), c1]
  intro w1 w3 n1 d1 g1 o1 g3 o3
  have hs1 := g1.size
  have hs3 := g3.size
  have hss : (w1.setCell ⟨g, k * 3, none⟩ n1).heap.size = w1.heap.size := by simp
  rw [hss] at hs3 o3
  have gs1 := grown_setF w1 ⟨g, k * 3, none⟩ n1
  have gs3 := grown_setF w3 ⟨g, k * 3 + 1, none⟩ d1
  -- the row
  have ho1 : w1.ownsRow T 45 3 (.slice (some ⟨g, 0, none⟩) fs.length cap) fs.length (cellsF fs xs) := World.ownsRow.kept ho g1 (.inr (by simp [Value.ownBlock]))
  have ho2 := (World.ownsRow.stored ho1 (k * 3) n1).1
  have ho3 := World.ownsRow.kept ho2 g3 (.inr (by simp [Value.ownBlock]))
  have ho4 := (World.ownsRow.stored ho3 (k * 3 + 1) d1).1
  rw [← cellsF_set2 fs xs k n1 d1 hl hk] at ho4
  -- the texts
  have ht4 : TxF T (w3.setCell ⟨g, k * 3 + 1, none⟩ d1) (some g) (fs.take k) (xs.take k) := (((ht.keep g1).set (k * 3) n1).keep g3).set (k * 3 + 1) d1
  have on : OwB w.heap.size (w3.setCell ⟨g, k * 3 + 1, none⟩ d1) n1 fs[k].n := by
    refine Ow.setF (Ow.later (Ow.setF o1 ⟨g, k * 3, none⟩ n1 hgl.2) g3) ⟨g, k * 3 + 1, none⟩ d1 hgl.2
  have od : OwB w.heap.size (w3.setCell ⟨g, k * 3 + 1, none⟩ d1) d1 fs[k].d := Ow.setF (row_base hs1 o3) ⟨g, k * 3 + 1, none⟩ d1 hgl.2
  have hap : Apt n1 d1 := fun i e1 e2 => by have := World.ownsRow.lt o1 _ e1; have := World.ownsRow.lt o3 _ e2; omega
  refine ⟨xs.set k (n1, d1), by simp [hl], ho4, ?_, fun j p y hj hpj hy => ?_⟩
  · have e1 : fs.take (k + 1) = fs.take k ++ [fs[k]] := by rw [List.take_add_one]; simp [hk]
    have e2 : (xs.set k (n1, d1)).take (k + 1) = xs.take k ++ [(n1, d1)] := by
      rw [List.take_add_one, List.take_set_of_le (Nat.le_refl k)]
      simp [hl, hk]
    rw [e1, e2]
    exact ht4.snoc2 hT (fun v hv i hi => (ht.lt hv hi).2) (fun i hi => by cases hi; exact hgl.2) on od hap
  · rw [List.getElem?_set_ne (by omega)] at hy
    obtain ⟨q1, q2, q3, q4⟩ := hx j p y (by omega) hpj hy
    have tr : ∀ (v : Value) (zs : List Int), RdB T w v zs → RdB T (w3.setCell ⟨g, k * 3 + 1, none⟩ d1) v zs := fun v zs hv =>
      (((hv.keep g1).beside gs1 (fun i e => by cases e; exact hgl.1)).keep g3).beside gs3 (fun i e => by cases e; exact hgl.1)
    exact ⟨tr _ _ q1, q2, tr _ _ q3, q4⟩

end Go.Proofs.YtakkdniikhgpdaaGreatDoor

namespace Go.Proofs.YtakkdniikhgpdaaGreatDoor
open Go.RowKit

set_option maxHeartbeats 8000000 in
set_option maxRecDepth 100000 in
theorem copyFiles_any (v : Value) (fs : List Fl) (w : World) (hv : RdF w.heap.size w v fs) (hd : Fss fs) :
    Calls Tryz.prog 30 #[.agg #[v]] w fun e w' => ∃ (wr : World) (v' : Value), e = .returned (.pointer (some ⟨wr.heap.size, 0, none⟩)) ∧ OwF (w.heap.size + 1) wr v' fs ∧ w.grownBy wr none ∧ w' = wr.alloc (.cells #[v'] 81) := by
  obtain ⟨a, cap, hv0, _⟩ := id hv
  have HCl := hide (fun w' (g : w.grownBy w' none) => filesClone_any v fs w' (hv.now g) hd.len)
  have HT := hide hd.tlen
  have hlen := hd.len
  subst hv0
  clear hv hd
  go_enter Tryz.func30, Tryz.ntmps30
  go_wp2_with fail
  refine (HCl.out _ (World.grownBy_alloc _ _ _)).mono ?_
  rintro e w1 ⟨rv, rfl, o1, g1⟩
  rw [World.size_alloc] at o1
  have hs1 : w.heap.size + 1 ≤ w1.heap.size := by have := g1.size; rw [World.size_alloc] at this; exact this
  have HG1 : Hid (w.grownBy w1 none) := grown_trans (World.grownBy_alloc _ _ _) g1
  obtain ⟨ra, rcap, hrv, _⟩ := o1.rd hs1
  subst hrv
  have HM := hide o1.mix
  clear o1 g1
  go_wp2
  go_loopw [10] (fun i wr => ∃ (k : Nat), k ≤ fs.length ∧ i = .int .i64 k ∧ Hid (w.grownBy wr none) ∧ w.heap.size + 1 ≤ wr.heap.size ∧ Hid (Mix (w.heap.size + 1) wr (.slice ra fs.length rcap) fs k)) (fun i _ => fs.length - (intOf i).toNat)
  case atStart => exact ⟨0, Nat.zero_le _, rfl, HG1, hs1, HM⟩
  case round =>
    obtain ⟨k, hk, rfl, HGr, hsz, HMr⟩ := hrel
    by_cases hlt : k < fs.length
    · obtain ⟨g, rfl⟩ : ∃ g, ra = some ⟨g, 0, none⟩ := by
        obtain ⟨xs, hl, ho, _⟩ := HMr.out
        rcases ho.2 with ⟨h', h2⟩ | ⟨g, cap', cur, h', _⟩
        · omega
        · simp only [Value.slice.injEq] at h'; exact ⟨g, h'.1⟩
      have hgl := HMr.out.low g rfl
      obtain ⟨nv, dv, c0, f0, r0, s0, c1, f1, r1, s1, hst⟩ := HMr.out.step hlt hsz
      have HST := hide hst
      have hpt := HT.out fs[k] (List.getElem_mem hlt)
      have HC1 := hide (bytesClone_any nv fs[k].n wr (r0.wideF hsz) (by omega))
      have HC2 := hide (fun (w2 : World) (r : RdB w2.heap.size w2 dv fs[k].d) => bytesClone_any dv fs[k].d w2 r (by omega))
      have R1 := hide r1
      obtain ⟨na, ncap, hnv, _, _⟩ := s0
      obtain ⟨da, dcap, hdv, _, _⟩ := s1
      subst hnv hdv
      have hpl : (k : Int) < fs.length := by omega
      clear hst r0 r1
      generalize fs[k] = p at *
      go_wp2_with fail
      refine HC1.out.mono ?_
      rintro e w2 ⟨n1, rfl, o2, g2⟩
      obtain ⟨nb, ncap2, hn1, _, _⟩ := o2.sl
      subst hn1
      have c0b := (grown_bothF g2 c0 f0)
      have c1b := (grown_bothF g2 c1 f1)
      obtain ⟨c0c, f0c⟩ := c0b
      obtain ⟨c1c, f1c⟩ := c1b
      have hs2 := g2.size
      have G2 := hide g2
      have O2 := hide o2
      clear g2 o2
      go_wp2_with fail
      have g3a : w2.grownBy (w2.setCell ⟨g, k * 3, none⟩ (.slice nb p.n.length ncap2)) (some g) := grown_setF _ _ _
      refine (HC2.out _ (((R1.out.keep G2.out).beside g3a (fun i e => by cases e; exact hgl.1)).wideF (by simp; omega))).mono ?_
      rintro e w3 ⟨d1, rfl, o3, g3⟩
      obtain ⟨db, dcap2, hd1, _, _⟩ := o3.sl
      subst hd1
      have c1d : (w2.setCell ⟨g, k * 3, none⟩ (.slice nb p.n.length ncap2)).cell? ⟨g, k * 3 + 1, none⟩ = some (.slice da p.d.length dcap) := by simp [go_sem, c1c]
      have f1d : (w2.setCell ⟨g, k * 3, none⟩ (.slice nb p.n.length ncap2)).frozen? ⟨g, k * 3 + 1, none⟩ = false := by simp [go_sem, f1c]
      obtain ⟨c1e, f1e⟩ := grown_bothF g3 c1d f1d
      have HM2 : Hid (Mix (w.heap.size + 1) (w3.setCell ⟨g, k * 3 + 1, none⟩ (.slice db p.d.length dcap2)) (.slice (some ⟨g, 0, none⟩) fs.length rcap) fs (k + 1)) := HST.out _ _ _ _ G2.out O2.out g3 o3
      have HG4 : Hid (w.grownBy (w3.setCell ⟨g, k * 3 + 1, none⟩ (.slice db p.d.length dcap2)) none) := by
        have e1 := grown_new (grown_trans HGr.out G2.out) g3a (fun j e => by cases e; omega)
        exact grown_new (grown_trans e1 g3) (grown_setF _ _ _) (fun j e => by cases e; show _ ≤ g; omega)
      have hs4 : w.heap.size + 1 ≤ (w3.setCell ⟨g, k * 3 + 1, none⟩ (.slice db p.d.length dcap2)).heap.size := by
        have := g3.size
        simp only [World.size_setCell] at this ⊢
        omega
      clear g3 o3 g3a
      go_wp2
      go_roundw
      case rel => exact ⟨k + 1, by omega, by go_num, HG4, hs4, HM2⟩
      case measure => simp [intOf]; omega
    · have hkn : k = fs.length := by omega
      subst hkn
      go_wp2
      go_ret
      exact ⟨wr, _, rfl, HMr.out.all, HGr.out, rfl⟩

end Go.Proofs.YtakkdniikhgpdaaGreatDoor

namespace Go.Proofs.YtakkdniikhgpdaaGreatDoor
open Go.RowKit

/-- What is left of 'left' behind n; below nought: -1. -/
def szBF (n : Nat) (left : Int) : Int := if left - n < 0 then -1 else left - n
theorem szB_bdF (n : Nat) (left : Int) (h1 : left ≤ 1048576) : -1 ≤ szBF n left ∧ szBF n left ≤ 1048576 := by
  unfold szBF; split <;> omega
theorem szB_pos {n : Nat} {left : Int} (h : ¬ szBF n left < 0) : szBF n left = left - n ∧ (n : Int) ≤ left := by
  unfold szBF at h ⊢; split at h <;> simp_all <;> omega
theorem szB_neg {n : Nat} {left : Int} (h : left < n) : szBF n left = -1 := by unfold szBF; rw [if_pos (by omega)]

/-- The bytes of all files. -/
def tot : List Fl → Nat
  | [] => 0
  | f :: fs => f.n.length + f.d.length + tot fs
theorem tot_take : ∀ (fs : List Fl) (k : Nat) (hk : k < fs.length), tot (fs.take (k + 1)) = tot (fs.take k) + (fs[k].n.length + fs[k].d.length)
  | f :: fs, 0, _ => by simp [tot]
  | f :: fs, k + 1, h => by
    have := tot_take fs k (by simpa using h)
    simp only [List.take_succ_cons, tot, this, List.getElem_cons_succ]
    omega
theorem tot_le : ∀ (fs : List Fl) (k : Nat), tot (fs.take k) ≤ tot fs
  | [], k => by simp
  | f :: fs, 0 => by simp [tot]
  | f :: fs, k + 1 => by have := tot_le fs k; simp only [List.take_succ_cons, tot]; omega
theorem tot_mem : ∀ (fs : List Fl) (f : Fl), f ∈ fs → f.n.length + f.d.length ≤ tot fs
  | g :: fs, f, h => by
    simp only [List.mem_cons] at h
    rcases h with rfl | h
    · simp only [tot]; omega
    · have := tot_mem fs f h; simp only [tot]; omega

end Go.Proofs.YtakkdniikhgpdaaGreatDoor

