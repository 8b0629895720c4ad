import Derived.Handy
import Derived.Deep.RegionWith
import Derived.Test.YtalkhnhhaiigiaaGreatDoorMAI
namespace Go.Proofs.YtalkhnhhaiigiaaGreatDoor
open Go.RowKit

/-- The ends of a line. -/
def lnE (p : Int) : Bool := decide (p = 10 ∨ p = 13 ∨ p = 8232 ∨ p = 8233)

set_option maxHeartbeats 1000000 in
theorem l4lineEnd_any (p : Int) (w : World) : Calls Tryz.prog 91 #[.int .i64 p] w fun e w' => e = .returned (.bool (lnE p)) ∧ w = w' := by
  by_cases h1 : p = 10
  · subst h1
    go_enter Tryz.func91, Tryz.ntmps91
    go_wp2
    go_ret
    exact ⟨rfl, rfl⟩
  · by_cases h2 : p = 13
    · subst h2
      go_enter Tryz.func91, Tryz.ntmps91
      go_wp2
      go_ret
      exact ⟨rfl, rfl⟩
    · by_cases h3 : p = 8232
      · subst h3
        go_enter Tryz.func91, Tryz.ntmps91
        go_wp2
        go_ret
        exact ⟨rfl, rfl⟩
      · by_cases h4 : p = 8233
        · subst h4
          go_enter Tryz.func91, Tryz.ntmps91
          go_wp2
          go_ret
          exact ⟨rfl, rfl⟩
        · have HF : Hid (lnE p = false) := by unfold Hid lnE; simp [h1, h2, h3, h4]
          have e1 : (p == 10) = false := by simpa using h1
          have e2 : (p == 13) = false := by simpa using h2
          have e3 : (p == 8232) = false := by simpa using h3
          have e4 : (p == 8233) = false := by simpa using h4
          go_enter Tryz.func91, Tryz.ntmps91
          go_wp2
          go_ret
          exact ⟨by rw [HF.out]; first | rfl | simp [h4], rfl⟩

/-- The point at a place is in order. -/
def cAt (b : Bool) (ps : List Int) (i : Nat) : Bool :=
  !(lnE (ps[i]?.getD 0) && (!decide (ps[i]?.getD 0 = 10) || !b)) && !(b && (decide (0 < i) && (decide (ps[i]?.getD 0 = 47) && decide (ps[i - 1]?.getD 0 = 42))))
def comS (c : Cm) : Bool := decide ((decR c.t).2.1 = 0) && (List.range (decR c.t).1.length).all (cAt c.b (decR c.t).1)

set_option maxHeartbeats 4000000 in
set_option maxRecDepth 100000 in
theorem l5commentOK_any (tv : Value) (c : Cm) (w : World) (hv : RdB w.heap.size w tv c.t) (hs : Sl tv c.t.length) (hb : Bys c.t) (hn : c.t.length ≤ 1048576) :
    Calls Tryz.prog 61 #[.agg #[.bool c.b, tv]] w fun e w' => e = .returned (.bool (comS c)) ∧ w.grownBy w' none := by
  have HD := hide (fun (w' : World) (g : w.grownBy w' none) => specDecodeText_any tv c.t w' ((hv.keep g).wideC g.size) hb hn)
  have hpl := pts_len c.t.length c.t
  obtain ⟨a, cap, hv0, _, _⟩ := id hs
  subst hv0
  clear hv hs
  go_enter Tryz.func61, Tryz.ntmps61
  go_wp2_with fail
  refine (HD.out _ (World.grownBy_alloc _ _ _)).mono ?_
  rintro e w1 ⟨v1, rfl, o1, g1⟩
  have hc0 : w1.cell? ⟨w.heap.size, 0, none⟩ = some (.bool c.b) := g1.cell (by simp [go_sem]) (by simp)
  have G1 : Hid (w.grownBy w1 none) := grown_trans (World.grownBy_alloc _ _ _) g1
  obtain ⟨b1, cap1, hv1, hl1, hm1⟩ := o1.sl
  have R1 := hide o1.rd
  subst hv1
  clear o1 g1
  by_cases hz : (decR c.t).2.1 = 0
  · have hz' : ((decR c.t).2.1 == 0) = true := by simpa using hz
    rw [hz]
    have HZ := hide hz
    have hpn : (decR c.t).1.length ≤ 1048576 := by
      unfold decR
      split
      · simp only
        omega
      · simp
    obtain ⟨ps, hps⟩ : ∃ ps, ps = (decR c.t).1 := ⟨_, rfl⟩
    have HP := hide hps
    rw [← hps] at R1 hl1 hpn ⊢
    clear hz' hz hps hpl
    go_wp2
    go_loopw [6] (fun i wr => ∃ (k : Nat), k ≤ ps.length ∧ i = .int .i64 k ∧ Hid ((List.range k).all (cAt c.b ps) = true) ∧ w1.grownBy wr none) (fun i _ => ps.length - (intOf i).toNat)
    case atStart => exact ⟨0, Nat.zero_le _, rfl, by simp [Hid], World.grownBy.refl _ _⟩
    case round =>
      obtain ⟨k, hk, rfl, HA, hgr⟩ := hrel
      have R1 := hide (R1.out.keep hgr)
      have hc0 := hgr.cell hc0 (by simp)
      have G1 : Hid (w.grownBy wr none) := grown_trans G1.out hgr
      have HGR := hide hgr
      clear hgr
      by_cases hlt : k < ps.length
      · obtain ⟨a', cap', hva, hrr⟩ := R1.out
        obtain ⟨b, off, ha', hbl, hcl⟩ := hrr (fun e => by rw [e] at hlt; simp at hlt)
        have hb1 : b1 = some ⟨b, off, none⟩ := by simp only [Value.slice.injEq] at hva; rw [hva.1]; exact ha'
        subst hb1
        have hck := hcl k hlt
        have hkl : (k : Int) < ps.length := by omega
        have HL := hide (fun w => l4lineEnd_any (ps[k]?.getD 0) w)
        have bad : cAt c.b ps k = false → Hid (comS c = false) := fun h => by
          unfold Hid comS
          rw [← HP.out, Bool.and_eq_false_iff]
          right
          rw [List.all_eq_false]
          exact ⟨k, by simpa using hlt, by rw [h]; simp⟩
        have good : cAt c.b ps k = true → Hid ((List.range (k + 1)).all (cAt c.b ps) = true) := fun h => by
          unfold Hid
          rw [List.range_succ, List.all_append, HA.out]
          simp [h]
        by_cases hl : lnE (ps[k]?.getD 0) = true
        · rw [hl] at HL
          by_cases h10 : ps[k]?.getD 0 = 10
          · rw [h10] at hck HL
            by_cases hb : c.b = true
            · have HN := good (by unfold cAt; rw [h10, hb]; simp)
              rw [hb] at hc0
              clear hb
              clear bad good hl hcl hrr hva
              by_cases hk0 : k = 0
              · subst hk0
                simp only [Nat.add_zero] at hck
                go_wp2_with fail
                refine (HL.out _).mono ?_
                rintro e w2 ⟨rfl, rfl⟩
                go_wp2
                go_roundw
                case rel => exact ⟨0 + 1, by omega, by go_num, HN, HGR.out⟩
                case measure => simp [intOf]; omega
              · have hk1 : (0 : Int) < k := by omega
                go_wp2_with fail
                refine (HL.out _).mono ?_
                rintro e w2 ⟨rfl, rfl⟩
                go_wp2
                go_roundw
                case rel => exact ⟨k + 1, by omega, by go_num, HN, HGR.out⟩
                case measure => simp [intOf]; omega
            · have hbf : c.b = false := by simpa using hb
              have HF := bad (by unfold cAt; rw [h10, hbf]; simp [lnE])
              rw [hbf] at hc0
              clear hb hbf
              clear bad good hl hcl hrr hva
              go_wp2_with fail
              refine (HL.out _).mono ?_
              rintro e w2 ⟨rfl, rfl⟩
              go_wp2
              go_ret
              exact ⟨by rw [HF.out]; rfl, G1.out⟩
          · have HF := bad (by unfold cAt; rw [hl]; simp [h10])
            clear bad good hl hcl hrr hva
            generalize ps[k]?.getD 0 = p at *
            go_wp2_with fail
            refine (HL.out _).mono ?_
            rintro e w2 ⟨rfl, rfl⟩
            go_wp2
            go_ret
            exact ⟨by rw [HF.out]; rfl, G1.out⟩
        · have hlf : lnE (ps[k]?.getD 0) = false := by simpa using hl
          rw [hlf] at HL
          by_cases hb : c.b = true
          · by_cases hk0 : k = 0
            · have HN := good (by unfold cAt; rw [hlf, hk0]; simp)
              subst hk0
              rw [hb] at hc0
              clear hb
              clear bad good hl hlf hcl hrr hva
              simp only [Nat.add_zero] at hck
              generalize ps[0]?.getD 0 = p at *
              go_wp2_with fail
              refine (HL.out _).mono ?_
              rintro e w2 ⟨rfl, rfl⟩
              go_wp2
              go_roundw
              case rel => exact ⟨0 + 1, by omega, by go_num, HN, HGR.out⟩
              case measure => simp [intOf]; omega
            · have hk1 : (0 : Int) < k := by omega
              obtain ⟨j, rfl⟩ : ∃ j, k = j + 1 := ⟨k - 1, by omega⟩
              have hcj := hcl j (by omega)
              by_cases h47 : ps[j + 1]?.getD 0 = 47
              · by_cases h42 : ps[j]?.getD 0 = 42
                · have HF := bad (by unfold cAt; rw [hlf, hb, h47]; simp [h42])
                  rw [hb] at hc0
                  clear hb
                  rw [h47] at hck HL
                  rw [h42] at hcj
                  clear bad good hl hlf hcl hrr hva
                  go_wp2_with fail
                  refine (HL.out _).mono ?_
                  rintro e w2 ⟨rfl, rfl⟩
                  go_wp2
                  go_ret
                  exact ⟨by rw [HF.out]; rfl, G1.out⟩
                · have HN := good (by unfold cAt; rw [hlf]; simp [h42])
                  rw [hb] at hc0
                  clear hb
                  rw [h47] at hck HL
                  have h42b : (ps[j]?.getD 0 == 42) = false := by simpa using h42
                  clear bad good hl hlf hcl hrr hva
                  generalize ps[j]?.getD 0 = q at *
                  go_wp2_with fail
                  refine (HL.out _).mono ?_
                  rintro e w2 ⟨rfl, rfl⟩
                  go_wp2
                  go_roundw
                  case rel => exact ⟨j + 1 + 1, by omega, by go_num, HN, HGR.out⟩
                  case measure => simp [intOf]; omega
              · have HN := good (by unfold cAt; rw [hlf]; simp [h47])
                rw [hb] at hc0
                clear hb
                have h47b : (ps[j + 1]?.getD 0 == 47) = false := by simpa using h47
                clear bad good hl hlf hcl hrr hva hcj
                generalize ps[j + 1]?.getD 0 = p at *
                go_wp2_with fail
                refine (HL.out _).mono ?_
                rintro e w2 ⟨rfl, rfl⟩
                go_wp2
                go_roundw
                case rel => exact ⟨j + 1 + 1, by omega, by go_num, HN, HGR.out⟩
                case measure => simp [intOf]; omega
          · have hbf : c.b = false := by simpa using hb
            have HN := good (by unfold cAt; rw [hlf, hbf]; simp)
            rw [hbf] at hc0
            clear hb hbf
            clear bad good hl hlf hcl hrr hva
            generalize ps[k]?.getD 0 = p at *
            go_wp2_with fail
            refine (HL.out _).mono ?_
            rintro e w2 ⟨rfl, rfl⟩
            go_wp2
            go_roundw
            case rel => exact ⟨k + 1, by omega, by go_num, HN, HGR.out⟩
            case measure => simp [intOf]; omega
      · have HF : Hid (comS c = true) := by
          unfold Hid comS
          rw [HZ.out, ← HP.out]
          have := HA.out
          rw [show k = ps.length by omega] at this
          rw [this]; rfl
        go_wp2
        go_ret
        exact ⟨by rw [HF.out]; rfl, G1.out⟩
  · have HF : Hid (comS c = false) := by unfold Hid comS; simp [hz]
    generalize (decR c.t).2.1 = z at *
    go_wp2
    go_ret
    exact ⟨by rw [HF.out]; rfl, G1.out⟩

end Go.Proofs.YtalkhnhhaiigiaaGreatDoor

namespace Go.Proofs.YtalkhnhhaiigiaaGreatDoor
open Go.RowKit

theorem all_take {α : Type} (f : α → Bool) (cs : List α) (k : Nat) (hk : k < cs.length) (h : (cs.take k).all f = true) (h2 : f cs[k] = true) : (cs.take (k + 1)).all f = true := by
  rw [List.take_add_one, List.getElem?_eq_getElem hk, List.all_append, h]
  simp [h2]
theorem all_bad {α : Type} (f : α → Bool) (cs : List α) (k : Nat) (hk : k < cs.length) (h2 : f cs[k] = false) : cs.all f = false := by
  rw [List.all_eq_false]
  exact ⟨cs[k], List.getElem_mem hk, by rw [h2]; simp⟩

/-- What is known of comments: not too long, bytes. -/
def CsOk (cs : List Cm) : Prop := ∀ c ∈ cs, c.t.length ≤ 1048576 ∧ Bys c.t

set_option maxHeartbeats 4000000 in
set_option maxRecDepth 100000 in
theorem l5commentsOK_any (v : Value) (cs : List Cm) (w : World) (hv : RdC w.heap.size w v cs) (hn : cs.length ≤ 1048576) (ho : CsOk cs) :
    Calls Tryz.prog 34 #[v] w fun e w' => e = .returned (.bool (cs.all comS)) ∧ w.grownBy w' none := by
  obtain ⟨a, cap, hv0, _⟩ := id hv
  have HV := hide hv
  have HO := hide ho
  subst hv0
  clear hv ho
  go_enter Tryz.func34, Tryz.ntmps34
  go_wp2
  go_loopw [3] (fun i wr => ∃ k : Nat, k ≤ cs.length ∧ i = .int .i64 k ∧ Hid ((cs.take k).all comS = true) ∧ w.grownBy wr none) (fun i _ => cs.length - (intOf i).toNat)
  case atStart => exact ⟨0, Nat.zero_le _, rfl, by simp [Hid], World.grownBy.refl _ _⟩
  case round =>
    obtain ⟨k, hk, rfl, HA, hgr⟩ := hrel
    by_cases hlt : k < cs.length
    · obtain ⟨b, off, cap', tv, hva, hb, hp⟩ := (HV.out.keep hgr).at k hlt
      cases hva
      have z0 := hp.k; have z1 := hp.t
      obtain ⟨h1, h2⟩ := HO.out cs[k] (List.getElem_mem hlt)
      have HC := hide (l5commentOK_any tv cs[k] wr (hp.rd.wideC hgr.size) hp.sl h2 h1)
      obtain ⟨ta, tcap, htv, _, _⟩ := hp.sl
      have HG := hide hgr
      subst htv
      clear hp h2 hgr
      cases hc : comS cs[k] with
      | true =>
        have HN := hide (all_take comS cs k hlt HA.out hc)
        rw [hc] at HC
        clear hc
        generalize cs[k] = p at *
        go_wp2_with fail
        refine HC.out.mono ?_
        rintro e w1 ⟨rfl, g1⟩
        have HG1 := hide (grown_trans HG.out g1)
        clear g1
        go_wp2
        go_roundw
        case rel => exact ⟨k + 1, by omega, by go_num, HN, HG1.out⟩
        case measure => simp [intOf]; omega
      | false =>
        have HF := hide (all_bad comS cs k hlt hc)
        rw [hc] at HC
        clear hc
        generalize cs[k] = p at *
        go_wp2_with fail
        refine HC.out.mono ?_
        rintro e w1 ⟨rfl, g1⟩
        have HG1 := hide (grown_trans HG.out g1)
        clear g1
        go_wp2
        go_ret
        exact ⟨by rw [HF.out]; rfl, HG1.out⟩
    · have HF : Hid (cs.all comS = true) := by
        have := HA.out
        rw [show k = cs.length by omega, List.take_length] at this
        exact this
      have HG := hide hgr
      go_wp2
      go_ret
      exact ⟨by rw [HF.out]; rfl, HG.out⟩

set_option maxHeartbeats 1000000 in
theorem l5unitsOK_any (v : Value) (zs : List Int) (w : World) (hv : RdI w.heap.size w v zs) (hn : zs.length ≤ 2097152) :
    Calls Tryz.prog 62 #[v] w fun e w' => e = .returned (.bool (zs.all isUn)) ∧ w.grownBy w' none := by
  obtain ⟨a, cap, hv0, _⟩ := id hv
  have HC := hide (specFromUnits_any v zs w hv hn)
  subst hv0
  clear hv
  cases h : zs.all isUn with
  | true =>
    have e1 : (fuR zs).2 = 0 := by unfold fuR; rw [h]; rfl
    rw [e1] at HC
    go_enter Tryz.func62, Tryz.ntmps62
    go_wp2_with fail
    refine HC.out.mono ?_
    rintro e w1 ⟨v1, rfl, o1, g1⟩
    go_wp2
    go_ret
    exact ⟨rfl, g1⟩
  | false =>
    have e1 : (fuR zs).2 = 1 := by unfold fuR; rw [h]; rfl
    rw [e1] at HC
    go_enter Tryz.func62, Tryz.ntmps62
    go_wp2_with fail
    refine HC.out.mono ?_
    rintro e w1 ⟨v1, rfl, o1, g1⟩
    go_wp2
    go_ret
    exact ⟨rfl, g1⟩

end Go.Proofs.YtalkhnhhaiigiaaGreatDoor

