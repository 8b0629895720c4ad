import Derived.Test.YthcjmmpkgljjhaaGreatDoorMAG
import Derived.Test.YthcjmmpkgljjhaaGreatDoorMAT
import Derived.Test.YthcjmmpkgljjhaaGreatDoorMAY
import Derived.Test.YthcjmmpkgljjhaaGreatDoorMBC
namespace Go.Proofs.YthcjmmpkgljjhaaGreatDoor
open Go.RowKit

/-- The model's answer. -/
def validS (t : Tre) : Bool :=
  decide (1 ≤ t.nodes.length) && (decide (t.nodes.length ≤ 4000) && ((decide (sumR t.nodes + sumC t.tail ≤ 100000) && decide (sumK t.nodes + t.tail.length ≤ 4000)) && (t.tail.all comS && (t.nodes.all nodeB && decide (placeOf t.nodes.length (endL t.nodes.length 201 false t.nodes) = (t.nodes.length : Int))))))

set_option maxHeartbeats 4000000 in
set_option maxRecDepth 100000 in
theorem specValidTree_any (nv tv : Value) (t : Tre) (w : World) (hv : RdT' w.heap.size w nv tv t) (ho : TreOk t) (hR : sumR t.nodes + sumC t.tail ≤ 1048576) (hK : sumK t.nodes + t.tail.length ≤ 1048576) :
    Calls Tryz.prog 13 #[.agg #[nv, tv]] w fun e w' => e = .returned (.bool (validS t)) ∧ w.grownBy w' none := by
  obtain ⟨hvn, hvt⟩ := id hv
  obtain ⟨na, ncap, hn0, _⟩ := id hvn
  obtain ⟨ta, tcap, ht0, _⟩ := id hvt
  have HN := hide hvn
  have HO := hide ho
  have hl := ho.l
  have HSm : Hid (∀ w', w.grownBy w' none → _) := fun w' (g : w.grownBy w' none) => l5small_any nv tv t w' ⟨(hvn.keep g).wide g.size, (hvt.keep g).wide g.size⟩ hR hK ho.l
  have HCm : Hid (∀ w', w.grownBy w' none → _) := fun w' (g : w.grownBy w' none) => l5commentsOK_any tv t.tail w' ((hvt.keep g).wide g.size) ho.t.1 ho.t.2
  have HEn : Hid ((∀ p ∈ t.nodes, p.k < 5 → p.cnt = 0) → ∀ w', w.grownBy w' none → _) := fun hc w' (g : w.grownBy w' none) => l5end_any t ho.l hc (fun p hp => (ho.n p hp).2) 200 (by omega) 0 false nv tv w' (Nat.zero_le _) ⟨(hvn.keep g).wide g.size, (hvt.keep g).wide g.size⟩
  have gA : w.grownBy (w.alloc (Obj.cells #[nv, tv] 30)) none := World.grownBy_alloc _ _ _
  have GA := hide gA
  subst hn0 ht0
  clear hv hvn hvt ho gA
  by_cases h1 : t.nodes.length < 1
  · have HF : Hid (validS t = false) := by unfold Hid validS; rw [decide_eq_false (by omega)]; rfl
    have h1' : (t.nodes.length : Int) < 1 := by omega
    go_enter Tryz.func13, Tryz.ntmps13
    go_wp2
    go_ret
    exact ⟨by rw [HF.out]; rfl, GA.out⟩
  by_cases h2 : 4000 < t.nodes.length
  · have HF : Hid (validS t = false) := by unfold Hid validS; rw [decide_eq_false (show ¬ t.nodes.length ≤ 4000 by omega)]; simp
    have h1' : ¬ (t.nodes.length : Int) < 1 := by omega
    have h2' : (4000 : Int) < t.nodes.length := by omega
    go_enter Tryz.func13, Tryz.ntmps13
    go_wp2
    go_ret
    exact ⟨by rw [HF.out]; rfl, GA.out⟩
  have h1' : ¬ (t.nodes.length : Int) < 1 := by omega
  have h2' : ¬ (4000 : Int) < t.nodes.length := by omega
  have HV1 : Hid (validS t = ((decide (sumR t.nodes + sumC t.tail ≤ 100000) && decide (sumK t.nodes + t.tail.length ≤ 4000)) && (t.tail.all comS && (t.nodes.all nodeB && decide (placeOf t.nodes.length (endL t.nodes.length 201 false t.nodes) = (t.nodes.length : Int)))))) := by
    unfold Hid validS; rw [decide_eq_true (show 1 ≤ t.nodes.length by omega), decide_eq_true (show t.nodes.length ≤ 4000 by omega)]; simp only [Bool.true_and]
  go_enter Tryz.func13, Tryz.ntmps13
  go_wp2_with fail
  refine (HSm.out _ GA.out).mono ?_
  rintro e w1 ⟨rfl, g1⟩
  have c0 : w1.cell? ⟨w.heap.size, 0, none⟩ = some (.slice na t.nodes.length ncap) := g1.cell (by simp [go_sem]) (by simp)
  have c1 : w1.cell? ⟨w.heap.size, 1, none⟩ = some (.slice ta t.tail.length tcap) := g1.cell (by simp [go_sem]) (by simp)
  have G1 := hide (grown_trans GA.out g1)
  clear g1 HSm
  generalize (decide (sumR t.nodes + sumC t.tail ≤ 100000) && decide (sumK t.nodes + t.tail.length ≤ 4000)) = sm at *
  cases sm with
  | false =>
    go_wp2
    go_ret
    exact ⟨by rw [HV1.out]; rfl, G1.out⟩
  | true =>
    rw [Bool.true_and] at HV1
    go_wp2_with fail
    refine (HCm.out _ G1.out).mono ?_
    rintro e w2 ⟨rfl, g2⟩
    have c2 := g2.cell c0 (by simp)
    have c3 := g2.cell c1 (by simp)
    have G2 := hide (grown_trans G1.out g2)
    clear g2 HCm c0 c1
    generalize t.tail.all comS = cm at *
    cases cm with
    | false =>
      go_wp2
      go_ret
      exact ⟨by rw [HV1.out]; rfl, G2.out⟩
    | true =>
      rw [Bool.true_and] at HV1
      go_wp2
      go_loopw [3] (fun i wr => ∃ k : Nat, k ≤ t.nodes.length ∧ i = .int .i64 k ∧ Hid ((t.nodes.take k).all nodeB = true) ∧ w2.grownBy wr none) (fun i _ => t.nodes.length - (intOf i).toNat)
      case atStart => exact ⟨0, Nat.zero_le _, rfl, by simp [Hid], World.grownBy.refl _ _⟩
      case round =>
        obtain ⟨k, hk, rfl, HA, hgr⟩ := hrel
        have c4 := hgr.cell c2 (by simp)
        have c5 := hgr.cell c3 (by simp)
        have hgw := grown_trans G2.out hgr
        by_cases hlt : k < t.nodes.length
        · obtain ⟨b, off, cap', lv, kv, xv, uv, tlv, hva, hb, hp⟩ := (HN.out.keep hgw).at k hlt
          cases hva
          have z0 := hp.k; have z1 := hp.lead; have z2 := hp.mem; have z3 := hp.key; have z4 := hp.text; have z5 := hp.units; have z6 := hp.cnt; have z7 := hp.tail
          have HC := hide (l5nodeOK_any t.nodes[k] lv kv xv uv tlv w.heap.size wr hgw.size hp.rl hp.rk hp.sk hp.rx hp.sx hp.ru hp.su hp.rt (HO.out.n _ (List.getElem_mem hlt)).1)
          obtain ⟨la, lcap, hlv, _, _⟩ := hp.rl.sl
          obtain ⟨qa, qcap, hqv, _, _⟩ := hp.rt.sl
          obtain ⟨ka, kcap, hkv, _, _⟩ := hp.sk
          obtain ⟨xa, xcap, hxv, _, _⟩ := hp.sx
          obtain ⟨ua, ucap, huv, _, _⟩ := hp.su
          have HG := hide hgr
          have HW := hide hgw
          subst hlv hqv hkv hxv huv
          clear hp hgr hgw
          cases hc : nodeB t.nodes[k] with
          | true =>
            have HNx := hide (all_takeI nodeB t.nodes k hlt HA.out hc)
            rw [hc] at HC
            clear hc
            generalize t.nodes[k] = p at *
            go_wp2_with fail
            refine HC.out.mono ?_
            rintro e w4 ⟨rfl, g4⟩
            have HG1 := hide (grown_trans HG.out g4)
            clear g4
            go_wp2
            go_roundw
            case rel => exact ⟨k + 1, by omega, by go_num, HNx, HG1.out⟩
            case measure => simp [intOf]; omega
          | false =>
            have HF : Hid (validS t = false) := by unfold Hid; rw [HV1.out, all_badI nodeB t.nodes k hlt hc]; rfl
            rw [hc] at HC
            clear hc
            generalize t.nodes[k] = p at *
            go_wp2_with fail
            refine HC.out.mono ?_
            rintro e w4 ⟨rfl, g4⟩
            have HG1 := hide (grown_trans HW.out g4)
            clear g4
            go_wp2
            go_ret
            exact ⟨by rw [HF.out]; rfl, HG1.out⟩
        · have hall : t.nodes.all nodeB = true := by
            have := HA.out
            rw [show k = t.nodes.length by omega, List.take_length] at this
            exact this
          have hcz : ∀ p ∈ t.nodes, p.k < 5 → p.cnt = 0 := fun p hp h5 => by
            have h := (nodeB_is p).1 (List.all_eq_true.1 hall p hp)
            exact (h.2.2.2.2.2.2.2.2.2.1 h5).1
          have HV2 : Hid (validS t = decide (placeOf t.nodes.length (endL t.nodes.length 201 false t.nodes) = (t.nodes.length : Int))) := by
            unfold Hid; rw [HV1.out, hall, Bool.true_and]
          have gd : wr.grownBy wr.drew none := ⟨rfl, rfl, rfl, Nat.le_refl _, fun _ _ _ => rfl⟩
          have HE := hide (HEn.out hcz wr.drew (grown_trans hgw gd))
          rw [List.drop_zero] at HE
          have HW := hide (grown_trans hgw gd)
          have c6 := gd.cell c4 (by simp)
          have c7 := gd.cell c5 (by simp)
          clear hgw hgr hcz hall HEn gd
          generalize placeOf t.nodes.length (endL t.nodes.length 201 false t.nodes) = pl at *
          go_wp2
          obtain ⟨I, hI⟩ : ∃ I : World → Prop, I = (fun W : World => W.cell? ⟨w.heap.size, 0, none⟩ = some (.slice na t.nodes.length ncap) ∧ W.cell? ⟨w.heap.size, 1, none⟩ = some (.slice ta t.tail.length tcap)) := ⟨_, rfl⟩
          have HI0 : I wr.drew := by rw [hI]; exact ⟨c6, c7⟩
          refine region_anyI I (fun _ => false) (by kernel_rfl) ?_
          show anyI _ _ _ _ _ _ 7 (Array.replicate 7 false) _ _
          refine anyI_take (i := 0) (.agg #[.slice na t.nodes.length ncap, .slice ta t.tail.length tcap]) rfl (by kernel_rfl) (by kernel_rfl) (by kernel_rfl) (by kernel_rfl) (fun _ _ _ h => h) HI0 (yldI rfl (fun W hW => by rw [hI] at hW; obtain ⟨h1, h2⟩ := hW; go_simp)) ?_
          refine anyI_take (i := 2) (.pointer (some ⟨w.heap.size, 0, none⟩)) rfl (by kernel_rfl) (by kernel_rfl) (by kernel_rfl) (by kernel_rfl) (fun _ _ _ h => h) HI0 (yldI rfl (fun W hW => by rw [hI] at hW; obtain ⟨h1, h2⟩ := hW; go_simp)) ?_
          refine anyI_take (i := 3) (.slice na t.nodes.length ncap) rfl (by kernel_rfl) (by kernel_rfl) (by kernel_rfl) (by kernel_rfl) (fun _ _ _ h => h) HI0 (yldI rfl (fun W hW => by rw [hI] at hW; obtain ⟨h1, h2⟩ := hW; go_simp)) ?_
          refine anyI_take (i := 4) (.int .i64 t.nodes.length) rfl (by kernel_rfl) (by kernel_rfl) (by kernel_rfl) (by kernel_rfl) (fun _ _ _ h => h) HI0 (yldI rfl (fun W hW => by rw [hI] at hW; obtain ⟨h1, h2⟩ := hW; go_simp)) ?_
          refine anyI_one (i := 1) (by kernel_rfl) (wpOp_call rfl rfl (by go_simp) HE.out ?_)
          rintro e w6 ⟨rfl, g⟩
          have G6 := hide (grown_trans HW.out g)
          have HI1 : I w6 := by rw [hI]; exact ⟨g.cell c6 (by simp), g.cell c7 (by simp)⟩
          clear g
          refine ⟨_, rfl, .inr HI1, ?_⟩
          refine anyI_one (i := 5) (by kernel_rfl) (wpOp_val (v := .bool (decide (pl = (t.nodes.length : Int)))) rfl rfl (by go_simp; rfl) ⟨.inr HI1, ?_⟩)
          refine anyI_one (i := 6) (by kernel_rfl) (wpOp_val (v := .bool (decide (pl = (t.nodes.length : Int)))) rfl rfl (by go_simp) ⟨.inr HI1, ?_⟩)
          refine anyI_done (by kernel_rfl) ?_ _
          clear HI0 HI1
          subst hI
          go_wp2
          go_ret
          exact ⟨by rw [HV2.out]; rfl, G6.out⟩
end Go.Proofs.YthcjmmpkgljjhaaGreatDoor

