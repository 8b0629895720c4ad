import Derived.Handy
import Derived.Test.YthcjmmpkgljjhaaGreatDoorMAG
import Derived.Test.YthcjmmpkgljjhaaGreatDoorMAX
namespace Go.Proofs.YthcjmmpkgljjhaaGreatDoor
open Go.RowKit

theorem loopN_add {σ : Type} (f : σ → Option σ) : ∀ (a b : Nat) (s : σ), loopN f (a + b) s = (loopN f a s).bind (loopN f b)
  | 0, b, s => by simp [loopN]
  | a + 1, b, s => by
    rw [show a + 1 + b = (a + b) + 1 by omega]
    simp only [loopN]
    cases f s with
    | none => rfl
    | some s' => exact loopN_add f a b s'
theorem loopN_succ {σ : Type} (f : σ → Option σ) (k : Nat) (s : σ) : loopN f (k + 1) s = (loopN f k s).bind f := by
  rw [loopN_add f k 1 s]
  cases loopN f k s with
  | none => rfl
  | some s' => simp only [Option.bind_some, loopN]; cases f s' <;> rfl

theorem end_suffix (len d : Nat) (m : Bool) (ns : List Nod) (hl : ns.length ≤ len) (j : Nat) (R : List Nod) (h : endL len d m (ns.drop j) = some R) : ∃ i, i ≤ ns.length ∧ R = ns.drop i := by
  have hw := end_walk len d m (ns.drop j) (by simp; omega)
  rw [h] at hw
  obtain ⟨P, r⟩ := (walk_splits triv d m).2 (ns.drop j) R hw.symm
  have h1 : ns = (ns.take j ++ P) ++ R := by rw [List.append_assoc, ← r, List.take_append_drop]
  generalize ns.take j ++ P = A at h1
  refine ⟨A.length, by rw [h1]; simp, by rw [h1]; simp⟩

/-- The place behind, or -1. -/
def placeOf (len : Nat) : Option (List Nod) → Int
  | none => -1
  | some R => len - R.length

set_option maxHeartbeats 8000000 in
set_option maxRecDepth 100000 in
theorem l5end_any (t : Tre) (hn : t.nodes.length ≤ 1048576) (hc : ∀ p ∈ t.nodes, p.k < 5 → p.cnt = 0) (hb : ∀ p ∈ t.nodes, -9223372036854775808 ≤ p.cnt ∧ p.cnt ≤ 9223372036854775807) : ∀ (d : Nat), d ≤ 201 → ∀ (i : Nat) (m : Bool) (nv tv : Value) (w : World), i ≤ t.nodes.length → RdT' w.heap.size w nv tv t →
    Calls Tryz.prog 32 #[.agg #[nv, tv], .int .i64 i, .bool m, .int .i64 d] w fun e w' => e = .returned (.int .i64 (placeOf t.nodes.length (endL t.nodes.length (d + 1) m (t.nodes.drop i)))) ∧ w.grownBy w' none := by
  intro d
  induction d using Nat.strongRecOn with
  | ind d ih =>
    intro hd i m nv tv w hi hv
    obtain ⟨hvn, hvt⟩ := id hv
    obtain ⟨na, ncap, hn0, _⟩ := id hvn
    obtain ⟨ta, tcap, ht0, _⟩ := id hvt
    have HV := hide hv
    have IH := hide ih
    subst hn0 ht0
    clear hvn hvt hv ih
    by_cases hlt : i < t.nodes.length
    · obtain ⟨b, off, cap', lv, kv, xv, uv, tlv, hva, hb0, hp⟩ := HV.out.1.at i hlt
      cases hva
      have z0 := hp.k; have z1 := hp.lead; have z2 := hp.mem; have z3 := hp.key; have z4 := hp.text; have z5 := hp.units; have z6 := hp.cnt; have z7 := hp.tail
      obtain ⟨la, lcap, hlv, _, _⟩ := hp.rl.sl
      obtain ⟨qa, qcap, hqv, _, _⟩ := hp.rt.sl
      obtain ⟨ka, kcap, hkv, _, _⟩ := hp.sk
      obtain ⟨xa, xcap, hxv, _, _⟩ := hp.sx
      obtain ⟨ua, ucap, huv, _, _⟩ := hp.su
      have hcc := hc _ (List.getElem_mem hlt)
      have hbb := hb _ (List.getElem_mem hlt)
      have hdr : t.nodes.drop i = t.nodes[i] :: t.nodes.drop (i + 1) := List.drop_eq_getElem_cons hlt
      have aw : ∀ (n : Nat), w.grownBy ((w.alloc (Obj.cells #[.slice (some ⟨b, off, none⟩) t.nodes.length ncap, .slice ta t.tail.length tcap] 30)).drewN n) none := fun n => grown_drewN (World.grownBy_alloc _ _ _) n
      have z2' := (World.grownBy_alloc w (Obj.cells #[.slice (some ⟨b, off, none⟩) t.nodes.length ncap, .slice ta t.tail.length tcap] 30) none).cell z2 (by simp)
      by_cases hm : t.nodes[i].mem = m
      · subst hm
        have hres : endL t.nodes.length (d + 1) t.nodes[i].mem (t.nodes.drop i) = if ((t.nodes.length : Int) < t.nodes[i].cnt ∨ (5 ≤ t.nodes[i].k ∧ d = 0)) then none else loopN (endL t.nodes.length d (decide (t.nodes[i].k = 6))) t.nodes[i].cnt.toNat (t.nodes.drop (i + 1)) := by
          rw [hdr]; simp only [endL, ne_eq, not_true_eq_false, if_false]
        subst hlv hqv hkv hxv huv
        clear hp
        by_cases hst : (t.nodes.length : Int) < t.nodes[i].cnt ∨ (5 ≤ t.nodes[i].k ∧ d = 0)
        · rw [if_pos hst] at hres
          have HE : Hid (placeOf t.nodes.length (endL t.nodes.length (d + 1) t.nodes[i].mem (t.nodes.drop i)) = -1) := by unfold Hid; rw [hres]; rfl
          clear hres hdr
          generalize t.nodes[i] = p at *
          by_cases hgt : (t.nodes.length : Int) < p.cnt
          · go_enter Tryz.func32, Tryz.ntmps32
            go_wp2
            go_ret
            exact ⟨by rw [HE.out]; rfl, grown_trans (World.grownBy_alloc _ _ _) (World.grownBy_alloc _ _ _)⟩
          · obtain ⟨hk5, hd0⟩ := hst.resolve_left hgt
            subst hd0
            go_enter Tryz.func32, Tryz.ntmps32
            go_wp2
            go_ret
            exact ⟨by rw [HE.out]; rfl, grown_trans (World.grownBy_alloc _ _ _) (World.grownBy_alloc _ _ _)⟩
        · rw [if_neg hst] at hres
          obtain ⟨hst1, hst2⟩ := not_or.1 hst
          have hst1' : t.nodes[i].cnt ≤ t.nodes.length := by omega
          have hd1 : 5 ≤ t.nodes[i].k → d ≠ 0 := fun h e => hst2 ⟨h, e⟩
          have HRes := hide hres
          have HCC := hide hcc
          clear hres hdr hst hst1 hst2 hcc
          have hps := hbb.1
          have hpl := hbb.2
          generalize t.nodes[i] = p at *
          by_cases hk5 : 5 ≤ p.k
          · have hdn := hd1 hk5
            have hdp : (0 : Int) < d := by omega
            have hdd : ((d : Int) == 0) = false := by simp; omega
            go_enter Tryz.func32, Tryz.ntmps32
            go_wp2
            have HC : Hid (∀ wr : World, ((w.alloc (Obj.cells #[.slice (some ⟨b, off, none⟩) t.nodes.length ncap, .slice ta t.tail.length tcap] 30)).alloc (Obj.cells #[.int .i64 p.k, .slice la p.lead.length lcap, .bool p.mem, .slice ka p.key.length kcap, .slice xa p.text.length xcap, .slice ua p.units.length ucap, .int .i64 p.cnt, .slice qa p.tail.length qcap] 42)).grownBy wr none → (wr.cell? ⟨w.heap.size, 0, none⟩ = some (.slice (some ⟨b, off, none⟩) t.nodes.length ncap) ∧ wr.cell? ⟨w.heap.size, 1, none⟩ = some (.slice ta t.tail.length tcap)) ∧ wr.cell? ⟨w.heap.size + 1, 0, none⟩ = some (.int .i64 p.k) ∧ wr.cell? ⟨w.heap.size + 1, 6, none⟩ = some (.int .i64 p.cnt)) := fun wr g =>
              ⟨⟨g.cell (by simp [go_sem]) (by simp), g.cell (by simp [go_sem]) (by simp)⟩, g.cell (by simp [go_sem]) (by simp), g.cell (by simp [go_sem]) (by simp)⟩
            go_loopw [10, 11] (fun at' kk wr => ∃ k j : Nat, kk = .int .i64 k ∧ at' = .int .i64 j ∧ (k : Int) ≤ p.cnt.toNat ∧ j ≤ t.nodes.length ∧ Hid (loopN (endL t.nodes.length d (decide (p.k = 6))) k (t.nodes.drop (i + 1)) = some (t.nodes.drop j)) ∧ ((w.alloc (Obj.cells #[.slice (some ⟨b, off, none⟩) t.nodes.length ncap, .slice ta t.tail.length tcap] 30)).alloc (Obj.cells #[.int .i64 p.k, .slice la p.lead.length lcap, .bool p.mem, .slice ka p.key.length kcap, .slice xa p.text.length xcap, .slice ua p.units.length ucap, .int .i64 p.cnt, .slice qa p.tail.length qcap] 42)).grownBy wr none) (fun _ kk _ => p.cnt.toNat - (intOf kk).toNat)
            case atStart => exact ⟨0, i + 1, rfl, by go_num, by omega, by omega, rfl, World.grownBy.refl _ _⟩
            case round =>
              obtain ⟨k, j, rfl, rfl, hk, hj, HL, hgr⟩ := hrel
              obtain ⟨⟨y0, y1⟩, y2, y3⟩ := HC.out wr hgr
              have hgw := grown_trans (grown_trans (World.grownBy_alloc w _ none) (World.grownBy_alloc _ _ none)) hgr
              by_cases hkc : (k : Int) < p.cnt
              · have CI := hide (IH.out (d - 1) (by omega) (by omega) j (decide (p.k = 6)) (.slice (some ⟨b, off, none⟩) t.nodes.length ncap) (.slice ta t.tail.length tcap) wr hj ⟨(HV.out.1.keep hgw).wide hgw.size, (HV.out.2.keep hgw).wide hgw.size⟩)
                rw [show d - 1 + 1 = d by omega, show ((d - 1 : Nat) : Int) = (d : Int) - 1 by omega] at CI
                have HG := hide hgw
                have HGr := hide hgr
                clear hgr hgw
                cases hend : endL t.nodes.length d (decide (p.k = 6)) (t.nodes.drop j) with
                | none =>
                  rw [hend] at CI
                  have HE : Hid (placeOf t.nodes.length (endL t.nodes.length (d + 1) p.mem (t.nodes.drop i)) = -1) := by
                    unfold Hid
                    rw [HRes.out, show p.cnt.toNat = k + ((p.cnt.toNat - k - 1) + 1) by omega, loopN_add, HL.out, Option.bind_some]
                    simp only [loopN, hend, Option.bind_none, placeOf]
                  clear hend
                  go_wp2_with fail
                  refine CI.out.mono ?_
                  rintro e w2 ⟨rfl, g2⟩
                  simp only [placeOf]
                  go_wp2
                  go_ret
                  exact ⟨by rw [HE.out]; rfl, grown_trans HG.out g2⟩
                | some R =>
                  rw [hend] at CI
                  obtain ⟨j', hj', hR⟩ := end_suffix t.nodes.length d _ t.nodes (Nat.le_refl _) j R hend
                  subst hR
                  have hpl2 : placeOf t.nodes.length (some (t.nodes.drop j')) = (j' : Int) := by simp only [placeOf, List.length_drop]; omega
                  rw [hpl2] at CI
                  have HL2 : Hid (loopN (endL t.nodes.length d (decide (p.k = 6))) (k + 1) (t.nodes.drop (i + 1)) = some (t.nodes.drop j')) := by
                    unfold Hid; rw [loopN_succ, HL.out, Option.bind_some]; exact hend
                  clear hend hpl2
                  go_wp2_with fail
                  refine CI.out.mono ?_
                  rintro e w2 ⟨rfl, g2⟩
                  go_wp2
                  go_roundw
                  case rel => exact ⟨k + 1, j', by go_num, rfl, by omega, hj', HL2, grown_trans HGr.out g2⟩
                  case measure => simp [intOf]; omega
              · have hkn : p.cnt.toNat = k := by omega
                have HE : Hid (placeOf t.nodes.length (endL t.nodes.length (d + 1) p.mem (t.nodes.drop i)) = j) := by
                  unfold Hid; rw [HRes.out, hkn, HL.out]; simp only [placeOf, List.length_drop]; omega
                have HG := hide hgw
                clear hgr hgw hkn
                go_wp2
                go_ret
                exact ⟨by rw [HE.out]; rfl, HG.out⟩
          · have hc0 := HCC.out (by omega)
            have HE : Hid (placeOf t.nodes.length (endL t.nodes.length (d + 1) p.mem (t.nodes.drop i)) = (i : Int) + 1) := by
              unfold Hid; rw [HRes.out, hc0]; simp only [Int.toNat_zero, loopN, placeOf, List.length_drop]; omega
            rw [hc0] at z6
            go_enter Tryz.func32, Tryz.ntmps32
            go_wp2
            refine wp_loop_rounds 1 ?_
            rw [rounds_succ]
            go_wp2
            go_ret
            exact ⟨by rw [HE.out]; rfl, grown_trans (World.grownBy_alloc _ _ _) (World.grownBy_alloc _ _ _)⟩
      · have HE : Hid (placeOf t.nodes.length (endL t.nodes.length (d + 1) m (t.nodes.drop i)) = -1) := by
          unfold Hid; rw [hdr]; simp [endL, hm, placeOf]
        have hmm : t.nodes[i].mem = !m := by cases hq : t.nodes[i].mem <;> cases m <;> simp_all
        rw [hmm] at z2
        clear z2'
        subst hlv hqv hkv hxv huv
        clear hp hm hmm hcc hbb hdr
        generalize t.nodes[i] = p at *
        cases m <;>
        · simp only [Bool.not_true, Bool.not_false] at z2
          go_enter Tryz.func32, Tryz.ntmps32
          go_wp2
          go_ret
          exact ⟨by rw [HE.out]; rfl, World.grownBy_alloc _ _ _⟩
    · have HE : Hid (placeOf t.nodes.length (endL t.nodes.length (d + 1) m (t.nodes.drop i)) = -1) := by
        unfold Hid; rw [List.drop_eq_nil_of_le (by omega)]; rfl
      have hi2 : (t.nodes.length : Int) ≤ i := by omega
      go_enter Tryz.func32, Tryz.ntmps32
      go_wp2
      go_ret
      exact ⟨by rw [HE.out]; rfl, World.grownBy_alloc _ _ _⟩

end Go.Proofs.YthcjmmpkgljjhaaGreatDoor

