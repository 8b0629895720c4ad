import Derived.Handy
import Derived.Test.YtalkhnhhaiigiaaGreatDoorMAD
import Derived.Test.YtalkhnhhaiigiaaGreatDoorMAF
import Derived.Test.YtalkhnhhaiigiaaGreatDoorMAI
import Derived.Test.YtalkhnhhaiigiaaGreatDoorMAJ
import Derived.Test.YtalkhnhhaiigiaaGreatDoorMAM
import Derived.Test.YtalkhnhhaiigiaaGreatDoorMAO
namespace Go.Proofs.YtalkhnhhaiigiaaGreatDoor
open Go.RowKit

theorem loopN_add {σ : Type} (f : σ → Option σ) : ∀ (a b : Nat) (s : σ), loopN f (a + b) s = (loopN f a s).bind (loopN f b)
  | 0, b, s => by simp [loopN]
  | a + 1, b, s => by
    rw [show a + 1 + b = (a + b) + 1 by omega]
    simp only [loopN]
    cases f s with
    | none => rfl
    | some s' => exact loopN_add f a b s'
theorem loopN_succ {σ : Type} (f : σ → Option σ) (k : Nat) (s : σ) : loopN f (k + 1) s = (loopN f k s).bind f := by
  rw [loopN_add f k 1 s]
  cases loopN f k s with
  | none => rfl
  | some s' => simp only [Option.bind_some, loopN]; cases f s' <;> rfl

theorem end_suffix (len d : Nat) (m : Bool) (ns : List Nod) (hl : ns.length ≤ len) (j : Nat) (R : List Nod) (h : endL len d m (ns.drop j) = some R) : ∃ i, i ≤ ns.length ∧ R = ns.drop i := by
  have hw := end_walk len d m (ns.drop j) (by simp; omega)
  rw [h] at hw
  obtain ⟨P, r⟩ := (walk_splits triv d m).2 (ns.drop j) R hw.symm
  have h1 : ns = (ns.take j ++ P) ++ R := by rw [List.append_assoc, ← r, List.take_append_drop]
  generalize ns.take j ++ P = A at h1
  refine ⟨A.length, by rw [h1]; simp, by rw [h1]; simp⟩

/-- The place behind, or -1. -/
def placeOf (len : Nat) : Option (List Nod) → Int
  | none => -1
  | some R => len - R.length

set_option maxHeartbeats 8000000 in
set_option maxRecDepth 100000 in
theorem l5end_any (t : Tre) (hn : t.nodes.length ≤ 1048576) (hc : ∀ p ∈ t.nodes, p.k < 5 → p.cnt = 0) (hb : ∀ p ∈ t.nodes, -9223372036854775808 ≤ p.cnt ∧ p.cnt ≤ 9223372036854775807) : ∀ (d : Nat), d ≤ 201 → ∀ (i : Nat) (m : Bool) (nv tv : Value) (w : World), i ≤ t.nodes.length → RdT' w.heap.size w nv tv t →
    Calls Tryz.prog 36 #[.agg #[nv, tv], .int .i64 i, .bool m, .int .i64 d] w fun e w' => e = .returned (.int .i64 (placeOf t.nodes.length (endL t.nodes.length (d + 1) m (t.nodes.drop i)))) ∧ w.grownBy w' none := by
  intro d
  induction d using Nat.strongRecOn with
  | ind d ih =>
    intro hd i m nv tv w hi hv
    obtain ⟨hvn, hvt⟩ := id hv
    obtain ⟨na, ncap, hn0, _⟩ := id hvn
    obtain ⟨ta, tcap, ht0, _⟩ := id hvt
    have HV := hide hv
    have IH := hide ih
    subst hn0 ht0
    clear hvn hvt hv ih
    by_cases hlt : i < t.nodes.length
    · obtain ⟨b, off, cap', lv, kv, xv, uv, tlv, hva, hb0, hp⟩ := HV.out.1.at i hlt
      cases hva
      have z0 := hp.k; have z1 := hp.lead; have z2 := hp.mem; have z3 := hp.key; have z4 := hp.text; have z5 := hp.units; have z6 := hp.cnt; have z7 := hp.tail
      obtain ⟨la, lcap, hlv, _, _⟩ := hp.rl.sl
      obtain ⟨qa, qcap, hqv, _, _⟩ := hp.rt.sl
      obtain ⟨ka, kcap, hkv, _, _⟩ := hp.sk
      obtain ⟨xa, xcap, hxv, _, _⟩ := hp.sx
      obtain ⟨ua, ucap, huv, _, _⟩ := hp.su
      have hcc := hc _ (List.getElem_mem hlt)
      have hbb := hb _ (List.getElem_mem hlt)
      have hdr : t.nodes.drop i = t.nodes[i] :: t.nodes.drop (i + 1) := List.drop_eq_getElem_cons hlt
      have aw : ∀ (n : Nat), w.grownBy ((w.alloc (Obj.cells #[.slice (some ⟨b, off, none⟩) t.nodes.length ncap, .slice ta t.tail.length tcap] 33)).drewN n) none := fun n => grown_drewN (World.grownBy_alloc _ _ _) n
      have z2' := (World.grownBy_alloc w (Obj.cells #[.slice (some ⟨b, off, none⟩) t.nodes.length ncap, .slice ta t.tail.length tcap] 33) none).cell z2 (by simp)
      by_cases hm : t.nodes[i].mem = m
      · subst hm
        have hres : endL t.nodes.length (d + 1) t.nodes[i].mem (t.nodes.drop i) = if ((t.nodes.length : Int) < t.nodes[i].cnt ∨ (5 ≤ t.nodes[i].k ∧ d = 0)) then none else loopN (endL t.nodes.length d (decide (t.nodes[i].k = 6))) t.nodes[i].cnt.toNat (t.nodes.drop (i + 1)) := by
          rw [hdr]; simp only [endL, ne_eq, not_true_eq_false, if_false]
        subst hlv hqv hkv hxv huv
        clear hp
        by_cases hst : (t.nodes.length : Int) < t.nodes[i].cnt ∨ (5 ≤ t.nodes[i].k ∧ d = 0)
        · rw [if_pos hst] at hres
          have HE : Hid (placeOf t.nodes.length (endL t.nodes.length (d + 1) t.nodes[i].mem (t.nodes.drop i)) = -1) := by unfold Hid; rw [hres]; rfl
          clear hres hdr
          generalize t.nodes[i] = p at *
          by_cases hgt : (t.nodes.length : Int) < p.cnt
          · go_enter Tryz.func36, Tryz.ntmps36
            go_wp2
            go_ret
            exact ⟨by rw [HE.out]; rfl, grown_trans (World.grownBy_alloc _ _ _) (World.grownBy_alloc _ _ _)⟩
          · obtain ⟨hk5, hd0⟩ := hst.resolve_left hgt
            subst hd0
            go_enter Tryz.func36, Tryz.ntmps36
            go_wp2
            go_ret
            exact ⟨by rw [HE.out]; rfl, grown_trans (World.grownBy_alloc _ _ _) (World.grownBy_alloc _ _ _)⟩
        · rw [if_neg hst] at hres
          obtain ⟨hst1, hst2⟩ := not_or.1 hst
          have hst1' : t.nodes[i].cnt ≤ t.nodes.length := by omega
          have hd1 : 5 ≤ t.nodes[i].k → d ≠ 0 := fun h e => hst2 ⟨h, e⟩
          have HRes := hide hres
          have HCC := hide hcc
          clear hres hdr hst hst1 hst2 hcc
          have hps := hbb.1
          have hpl := hbb.2
          generalize t.nodes[i] = p at *
          by_cases hk5 : 5 ≤ p.k
          · have hdn := hd1 hk5
            have hdp : (0 : Int) < d := by omega
            have hdd : ((d : Int) == 0) = false := by simp; omega
            go_enter Tryz.func36, Tryz.ntmps36
            go_wp2
            have HC : Hid (∀ wr : World, ((w.alloc (Obj.cells #[.slice (some ⟨b, off, none⟩) t.nodes.length ncap, .slice ta t.tail.length tcap] 33)).alloc (Obj.cells #[.int .i64 p.k, .slice la p.lead.length lcap, .bool p.mem, .slice ka p.key.length kcap, .slice xa p.text.length xcap, .slice ua p.units.length ucap, .int .i64 p.cnt, .slice qa p.tail.length qcap] 75)).grownBy wr none → (wr.cell? ⟨w.heap.size, 0, none⟩ = some (.slice (some ⟨b, off, none⟩) t.nodes.length ncap) ∧ wr.cell? ⟨w.heap.size, 1, none⟩ = some (.slice ta t.tail.length tcap)) ∧ wr.cell? ⟨w.heap.size + 1, 0, none⟩ = some (.int .i64 p.k) ∧ wr.cell? ⟨w.heap.size + 1, 6, none⟩ = some (.int .i64 p.cnt)) := fun wr g =>
              ⟨⟨g.cell (by simp [go_sem]) (by simp), g.cell (by simp [go_sem]) (by simp)⟩, g.cell (by simp [go_sem]) (by simp), g.cell (by simp [go_sem]) (by simp)⟩
            go_loopw [10, 11] (fun at' kk wr => ∃ k j : Nat, kk = .int .i64 k ∧ at' = .int .i64 j ∧ (k : Int) ≤ p.cnt.toNat ∧ j ≤ t.nodes.length ∧ Hid (loopN (endL t.nodes.length d (decide (p.k = 6))) k (t.nodes.drop (i + 1)) = some (t.nodes.drop j)) ∧ ((w.alloc (Obj.cells #[.slice (some ⟨b, off, none⟩) t.nodes.length ncap, .slice ta t.tail.length tcap] 33)).alloc (Obj.cells #[.int .i64 p.k, .slice la p.lead.length lcap, .bool p.mem, .slice ka p.key.length kcap, .slice xa p.text.length xcap, .slice ua p.units.length ucap, .int .i64 p.cnt, .slice qa p.tail.length qcap] 75)).grownBy wr none) (fun _ kk _ => p.cnt.toNat - (intOf kk).toNat)
            case atStart => exact ⟨0, i + 1, rfl, by go_num, by omega, by omega, rfl, World.grownBy.refl _ _⟩
            case round =>
              obtain ⟨k, j, rfl, rfl, hk, hj, HL, hgr⟩ := hrel
              obtain ⟨⟨y0, y1⟩, y2, y3⟩ := HC.out wr hgr
              have hgw := grown_trans (grown_trans (World.grownBy_alloc w _ none) (World.grownBy_alloc _ _ none)) hgr
              by_cases hkc : (k : Int) < p.cnt
              · have CI := hide (IH.out (d - 1) (by omega) (by omega) j (decide (p.k = 6)) (.slice (some ⟨b, off, none⟩) t.nodes.length ncap) (.slice ta t.tail.length tcap) wr hj ⟨(HV.out.1.keep hgw).wide hgw.size, (HV.out.2.keep hgw).wide hgw.size⟩)
                rw [show d - 1 + 1 = d by omega, show ((d - 1 : Nat) : Int) = (d : Int) - 1 by omega] at CI
                have HG := hide hgw
                have HGr := hide hgr
                clear hgr hgw
                cases hend : endL t.nodes.length d (decide (p.k = 6)) (t.nodes.drop j) with
                | none =>
                  rw [hend] at CI
                  have HE : Hid (placeOf t.nodes.length (endL t.nodes.length (d + 1) p.mem (t.nodes.drop i)) = -1) := by
                    unfold Hid
                    rw [HRes.out, show p.cnt.toNat = k + ((p.cnt.toNat - k - 1) + 1) by omega, loopN_add, HL.out, Option.bind_some]
                    simp only [loopN, hend, Option.bind_none, placeOf]
                  clear hend
                  go_wp2_with fail
                  refine CI.out.mono ?_
                  rintro e w2 ⟨rfl, g2⟩
                  simp only [placeOf]
                  go_wp2
                  go_ret
                  exact ⟨by rw [HE.out]; rfl, grown_trans HG.out g2⟩
                | some R =>
                  rw [hend] at CI
                  obtain ⟨j', hj', hR⟩ := end_suffix t.nodes.length d _ t.nodes (Nat.le_refl _) j R hend
                  subst hR
                  have hpl2 : placeOf t.nodes.length (some (t.nodes.drop j')) = (j' : Int) := by simp only [placeOf, List.length_drop]; omega
                  rw [hpl2] at CI
                  have HL2 : Hid (loopN (endL t.nodes.length d (decide (p.k = 6))) (k + 1) (t.nodes.drop (i + 1)) = some (t.nodes.drop j')) := by
                    unfold Hid; rw [loopN_succ, HL.out, Option.bind_some]; exact hend
                  clear hend hpl2
                  go_wp2_with fail
                  refine CI.out.mono ?_
                  rintro e w2 ⟨rfl, g2⟩
                  go_wp2
                  go_roundw
                  case rel => exact ⟨k + 1, j', by go_num, rfl, by omega, hj', HL2, grown_trans HGr.out g2⟩
                  case measure => simp [intOf]; omega
              · have hkn : p.cnt.toNat = k := by omega
                have HE : Hid (placeOf t.nodes.length (endL t.nodes.length (d + 1) p.mem (t.nodes.drop i)) = j) := by
                  unfold Hid; rw [HRes.out, hkn, HL.out]; simp only [placeOf, List.length_drop]; omega
                have HG := hide hgw
                clear hgr hgw hkn
                go_wp2
                go_ret
                exact ⟨by rw [HE.out]; rfl, HG.out⟩
          · have hc0 := HCC.out (by omega)
            have HE : Hid (placeOf t.nodes.length (endL t.nodes.length (d + 1) p.mem (t.nodes.drop i)) = (i : Int) + 1) := by
              unfold Hid; rw [HRes.out, hc0]; simp only [Int.toNat_zero, loopN, placeOf, List.length_drop]; omega
            rw [hc0] at z6
            go_enter Tryz.func36, Tryz.ntmps36
            go_wp2
            refine wp_loop_rounds 1 ?_
            rw [rounds_succ]
            go_wp2
            go_ret
            exact ⟨by rw [HE.out]; rfl, grown_trans (World.grownBy_alloc _ _ _) (World.grownBy_alloc _ _ _)⟩
      · have HE : Hid (placeOf t.nodes.length (endL t.nodes.length (d + 1) m (t.nodes.drop i)) = -1) := by
          unfold Hid; rw [hdr]; simp [endL, hm, placeOf]
        have hmm : t.nodes[i].mem = !m := by cases hq : t.nodes[i].mem <;> cases m <;> simp_all
        rw [hmm] at z2
        clear z2'
        subst hlv hqv hkv hxv huv
        clear hp hm hmm hcc hbb hdr
        generalize t.nodes[i] = p at *
        cases m <;>
        · simp only [Bool.not_true, Bool.not_false] at z2
          go_enter Tryz.func36, Tryz.ntmps36
          go_wp2
          go_ret
          exact ⟨by rw [HE.out]; rfl, World.grownBy_alloc _ _ _⟩
    · have HE : Hid (placeOf t.nodes.length (endL t.nodes.length (d + 1) m (t.nodes.drop i)) = -1) := by
        unfold Hid; rw [List.drop_eq_nil_of_le (by omega)]; rfl
      have hi2 : (t.nodes.length : Int) ≤ i := by omega
      go_enter Tryz.func36, Tryz.ntmps36
      go_wp2
      go_ret
      exact ⟨by rw [HE.out]; rfl, World.grownBy_alloc _ _ _⟩

end Go.Proofs.YtalkhnhhaiigiaaGreatDoor

namespace Go.Proofs.YtalkhnhhaiigiaaGreatDoor
open Go.RowKit

theorem sumC_take : ∀ (cs : List Cm) (k : Nat) (hk : k < cs.length), sumC (cs.take (k + 1)) = sumC (cs.take k) + cs[k].t.length
  | c :: cs, 0, _ => by simp [sumC]
  | c :: cs, k + 1, h => by
    have := sumC_take cs k (by simpa using h)
    simp only [List.take_succ_cons, sumC, this, List.getElem_cons_succ]
    omega
theorem sumC_le : ∀ (cs : List Cm) (k : Nat), sumC (cs.take k) ≤ sumC cs
  | [], k => by simp
  | c :: cs, 0 => by have := sumC_nonneg (c :: cs); simpa [sumC] using this
  | c :: cs, k + 1 => by have := sumC_le cs k; simp only [List.take_succ_cons, sumC]; omega

set_option maxHeartbeats 2000000 in
set_option maxRecDepth 100000 in
theorem l5size_any (v : Value) (cs : List Cm) (w : World) (hv : RdC w.heap.size w v cs) (hn : cs.length ≤ 1048576) (hs : sumC cs ≤ 1048576) :
    Calls Tryz.prog 60 #[v] w fun e w' => e = .returned (.tuple #[.int .i64 (sumC cs), .int .i64 cs.length]) ∧ w.grownBy w' none := by
  obtain ⟨a, cap, hv0, _⟩ := id hv
  have HV := hide hv
  subst hv0
  clear hv
  go_enter Tryz.func60, Tryz.ntmps60
  go_wp2
  go_loopw [4, 5] (fun n i wr => ∃ k : Nat, k ≤ cs.length ∧ i = .int .i64 k ∧ n = .int .i64 (sumC (cs.take k)) ∧ w.grownBy wr none) (fun _ i _ => cs.length - (intOf i).toNat)
  case atStart => exact ⟨0, Nat.zero_le _, rfl, by simp [sumC], World.grownBy.refl _ _⟩
  case round =>
    obtain ⟨k, hk, rfl, rfl, hgr⟩ := hrel
    by_cases hlt : k < cs.length
    · obtain ⟨b, off, cap', tv, hva, hb, hp⟩ := (HV.out.keep hgr).at k hlt
      cases hva
      have z0 := hp.k; have z1 := hp.t
      obtain ⟨ta, tcap, htv, _, _⟩ := hp.sl
      have HS := hide (sumC_take cs k hlt)
      have h1 := sumC_le cs (k + 1)
      rw [HS.out] at h1
      have h2 := sumC_nonneg (cs.take k)
      subst htv
      clear hp
      generalize cs[k] = p at *
      generalize sumC (cs.take k) = T at *
      go_wp2
      go_roundw
      case rel => exact ⟨k + 1, by omega, by go_num, by rw [HS.out], hgr⟩
      case measure => simp [intOf]; omega
    · have ht : cs.take k = cs := by rw [show k = cs.length by omega, List.take_length]
      rw [ht]
      go_wp2
      go_ret2
      exact ⟨rfl, hgr⟩

theorem sumR_take : ∀ (ns : List Nod) (k : Nat) (hk : k < ns.length), sumR (ns.take (k + 1)) = sumR (ns.take k) + nr ns[k]
  | n :: ns, 0, _ => by simp [sumR]
  | n :: ns, k + 1, h => by
    have := sumR_take ns k (by simpa using h)
    simp only [List.take_succ_cons, sumR, this, List.getElem_cons_succ]
    omega
theorem sumR_le : ∀ (ns : List Nod) (k : Nat), sumR (ns.take k) ≤ sumR ns
  | [], k => by simp
  | n :: ns, 0 => by have := sumR_nonneg (n :: ns); simpa [sumR] using this
  | n :: ns, k + 1 => by have := sumR_le ns k; simp only [List.take_succ_cons, sumR]; omega
theorem sumK_take : ∀ (ns : List Nod) (k : Nat) (hk : k < ns.length), sumK (ns.take (k + 1)) = sumK (ns.take k) + nc ns[k]
  | n :: ns, 0, _ => by simp [sumK]
  | n :: ns, k + 1, h => by
    have := sumK_take ns k (by simpa using h)
    simp only [List.take_succ_cons, sumK, this, List.getElem_cons_succ]
    omega
theorem sumK_le : ∀ (ns : List Nod) (k : Nat), sumK (ns.take k) ≤ sumK ns
  | [], k => by simp
  | n :: ns, 0 => by have := sumK_nonneg (n :: ns); simpa [sumK] using this
  | n :: ns, k + 1 => by have := sumK_le ns k; simp only [List.take_succ_cons, sumK]; omega

set_option maxHeartbeats 4000000 in
set_option maxRecDepth 100000 in
theorem l5small_any (nv tv : Value) (t : Tre) (w : World) (hv : RdT' w.heap.size w nv tv t) (hR : sumR t.nodes + sumC t.tail ≤ 1048576) (hK : sumK t.nodes + t.tail.length ≤ 1048576) (hn : t.nodes.length ≤ 1048576) :
    Calls Tryz.prog 33 #[.agg #[nv, tv]] w fun e w' => e = .returned (.bool (decide (sumR t.nodes + sumC t.tail ≤ 100000) && decide (sumK t.nodes + t.tail.length ≤ 4000))) ∧ w.grownBy w' none := by
  obtain ⟨hvn, hvt⟩ := hv
  obtain ⟨na, ncap, hn0, _⟩ := id hvn
  obtain ⟨ta, tcap, ht0, _⟩ := id hvt
  have n1 := sumR_nonneg t.nodes
  have n2 := sumK_nonneg t.nodes
  have n3 := sumC_nonneg t.tail
  have HSz : Hid (∀ w', w.grownBy w' none → Calls Tryz.prog 60 #[tv] w' fun e w'' => e = .returned (.tuple #[.int .i64 (sumC t.tail), .int .i64 t.tail.length]) ∧ w'.grownBy w'' none) := fun w' g => l5size_any tv t.tail w' ((hvt.keep g).wide g.size) (by omega) (by omega)
  have HV := hide hvn
  subst hn0 ht0
  clear hvn hvt
  go_enter Tryz.func33, Tryz.ntmps33
  go_wp2_with fail
  refine (HSz.out _ (World.grownBy_alloc _ _ _)).mono ?_
  rintro e w1 ⟨rfl, g1⟩
  have c0 : w1.cell? ⟨w.heap.size, 0, none⟩ = some (.slice na t.nodes.length ncap) := g1.cell (by simp [go_sem]) (by simp)
  have G1 := hide (grown_trans (World.grownBy_alloc w (Obj.cells #[.slice na t.nodes.length ncap, .slice ta t.tail.length tcap] 33) none) g1)
  clear g1
  go_wp2
  go_loopw [3, 4, 5] (fun tt cc i wr => ∃ k : Nat, k ≤ t.nodes.length ∧ i = .int .i64 k ∧ tt = .int .i64 (sumC t.tail + sumR (t.nodes.take k)) ∧ cc = .int .i64 (t.tail.length + sumK (t.nodes.take k)) ∧ w1.grownBy wr none) (fun _ _ i _ => t.nodes.length - (intOf i).toNat)
  case atStart => exact ⟨0, Nat.zero_le _, rfl, by simp [sumR], by simp [sumK], World.grownBy.refl _ _⟩
  case round =>
    obtain ⟨k, hk, rfl, rfl, rfl, hgr⟩ := hrel
    have c1 := hgr.cell c0 (by simp)
    have hgw := grown_trans G1.out hgr
    by_cases hlt : k < t.nodes.length
    · obtain ⟨b, off, cap', lv, kv, xv, uv, tlv, hva, hb, hp⟩ := (HV.out.keep hgw).at k hlt
      cases hva
      have z0 := hp.k; have z1 := hp.lead; have z2 := hp.mem; have z3 := hp.key; have z4 := hp.text; have z5 := hp.units; have z6 := hp.cnt; have z7 := hp.tail
      have s1 := sumC_nonneg t.nodes[k].lead
      have s2 := sumC_nonneg t.nodes[k].tail
      have HS := hide (sumR_take t.nodes k hlt)
      have HQ := hide (sumK_take t.nodes k hlt)
      have h1 := sumR_le t.nodes (k + 1)
      have h2 := sumR_nonneg (t.nodes.take k)
      have h3 := sumK_le t.nodes (k + 1)
      have h4 := sumK_nonneg (t.nodes.take k)
      rw [HS.out] at h1
      rw [HQ.out] at h3
      unfold nr at h1
      unfold nc at h3
      have hbs := hgw.size
      have L1 : Hid (∀ w', wr.grownBy w' none → Calls Tryz.prog 60 #[lv] w' fun e w'' => e = .returned (.tuple #[.int .i64 (sumC t.nodes[k].lead), .int .i64 t.nodes[k].lead.length]) ∧ w'.grownBy w'' none) := fun w' g => l5size_any lv t.nodes[k].lead w' ((hp.rl.keep g).wide (Nat.le_trans hbs g.size)) (by omega) (by omega)
      have L2 : Hid (∀ w', wr.grownBy w' none → Calls Tryz.prog 60 #[tlv] w' fun e w'' => e = .returned (.tuple #[.int .i64 (sumC t.nodes[k].tail), .int .i64 t.nodes[k].tail.length]) ∧ w'.grownBy w'' none) := fun w' g => l5size_any tlv t.nodes[k].tail w' ((hp.rt.keep g).wide (Nat.le_trans hbs g.size)) (by omega) (by omega)
      obtain ⟨la, lcap, hlv, _, _⟩ := hp.rl.sl
      obtain ⟨qa, qcap, hqv, _, _⟩ := hp.rt.sl
      obtain ⟨ka, kcap, hkv, _, _⟩ := hp.sk
      obtain ⟨xa, xcap, hxv, _, _⟩ := hp.sx
      obtain ⟨ua, ucap, huv, _, _⟩ := hp.su
      have HNR : Hid (nr t.nodes[k] = t.nodes[k].key.length + t.nodes[k].units.length + t.nodes[k].text.length + (sumC t.nodes[k].lead + sumC t.nodes[k].tail)) := rfl
      have HNC : Hid (nc t.nodes[k] = t.nodes[k].lead.length + t.nodes[k].tail.length) := rfl
      have HG := hide hgr
      subst hlv hqv hkv hxv huv
      clear hp hgr hgw hbs
      generalize t.nodes[k] = p at *
      generalize sumR (t.nodes.take k) = T at *
      generalize sumK (t.nodes.take k) = Q at *
      generalize sumC p.lead = A at *
      generalize sumC p.tail = B at *
      generalize sumC t.tail = C at *
      go_wp2_with fail
      refine (L1.out _ (World.grownBy_alloc _ _ _)).mono ?_
      rintro e w2 ⟨rfl, g2⟩
      have y3 : w2.cell? ⟨wr.heap.size, 3, none⟩ = some (.slice ka p.key.length kcap) := g2.cell (by simp [go_sem]) (by simp)
      have y4 : w2.cell? ⟨wr.heap.size, 4, none⟩ = some (.slice xa p.text.length xcap) := g2.cell (by simp [go_sem]) (by simp)
      have y5 : w2.cell? ⟨wr.heap.size, 5, none⟩ = some (.slice ua p.units.length ucap) := g2.cell (by simp [go_sem]) (by simp)
      have y7 : w2.cell? ⟨wr.heap.size, 7, none⟩ = some (.slice qa p.tail.length qcap) := g2.cell (by simp [go_sem]) (by simp)
      have G2 := hide (grown_trans (World.grownBy_alloc wr _ none) g2)
      clear g2
      go_wp2_with fail
      refine (L2.out _ G2.out).mono ?_
      rintro e w3 ⟨rfl, g3⟩
      have x3 := g3.cell y3 (by simp)
      have x4 := g3.cell y4 (by simp)
      have x5 := g3.cell y5 (by simp)
      have G3 := hide (grown_trans G2.out g3)
      clear g3
      go_wp2
      go_roundw
      case rel => exact ⟨k + 1, by omega, by go_num, by rw [HS.out, HNR.out]; go_num, by rw [HQ.out, HNC.out]; go_num, grown_trans HG.out G3.out⟩
      case measure => simp [intOf]; omega
    · have ht : t.nodes.take k = t.nodes := by rw [show k = t.nodes.length by omega, List.take_length]
      rw [ht]
      have e1 : sumC t.tail + sumR t.nodes = sumR t.nodes + sumC t.tail := by omega
      have e2 : (t.tail.length : Int) + sumK t.nodes = sumK t.nodes + t.tail.length := by omega
      rw [e1, e2]
      have HG := hide hgw
      clear ht e1 e2 hgr hgw
      by_cases hT : sumR t.nodes + sumC t.tail ≤ 100000
      · have HF : Hid (decide (sumR t.nodes + sumC t.tail ≤ 100000) = true) := decide_eq_true hT
        go_wp2
        go_ret
        exact ⟨by rw [HF.out]; rfl, HG.out⟩
      · have HF : Hid (decide (sumR t.nodes + sumC t.tail ≤ 100000) = false) := decide_eq_false hT
        go_wp2
        go_ret
        exact ⟨by rw [HF.out]; rfl, HG.out⟩

end Go.Proofs.YtalkhnhhaiigiaaGreatDoor

namespace Go.Proofs.YtalkhnhhaiigiaaGreatDoor
open Go.RowKit

/-- What the checker's walk knows of the world: the table, the library's number; both lie below B. -/
structure Cx (w : World) (B : Nat) (m : Int) : Prop where
  T : Tab w
  M : w.cell? ⟨1, 0, none⟩ = some (.int .i64 m)
  b : 2 ≤ B
  s : B ≤ w.heap.size
theorem Cx.below {w w' : World} {B : Nat} {m : Int} (h : Cx w B m) (hb : Below B w w') (hs : w.heap.size ≤ w'.heap.size) : Cx w' B m :=
  ⟨h.T.below hb (by have := h.b; omega), (World.cell?_of_block (hb.block 1 (by have := h.b; omega))).trans h.M, h.b, Nat.le_trans h.s hs⟩
theorem bel_row {w w' : World} {B h : Nat} (g : w.grownBy w' (some h)) (hB : B ≤ h) (hs : B ≤ w.heap.size) : Below B w w' := (Below.refl B w).grown g hs (fun k e => by cases e; exact hB)
theorem RdC.below {B k : Nat} {w w' : World} {v : Value} {cs : List Cm} (h : RdC B w v cs) (g : w.grownBy w' (some k)) (hk : B ≤ k) : RdC B w' v cs := h.beside g (fun j e => by cases e; exact hk)

set_option maxHeartbeats 8000000 in
set_option maxRecDepth 100000 in
theorem takeComments_any (h : Nat) (v cv : Value) (cs : List Cm) (c r m : Int) (B : Nat) (w : World) (hk : Ck w h v c r) (hx : Cx w B m) (hv : RdC B w cv cs) (hB : B ≤ h) (hn : cs.length ≤ 1048576) (ho : CsOk cs) (hr : 0 ≤ r ∧ r ≤ 1048576) (hc : -1048576 ≤ c ∧ c ≤ 1048576) :
    Calls Tryz.prog 44 #[.pointer (some ⟨h, 0, none⟩), cv] w fun e w' => ∃ (b : Bool) (c' r' : Int), e = .returned (.bool b) ∧ Ck w' h v c' r' ∧ comP comI cs (c, r) = (if b then some (c', r') else none) ∧ w.grownBy w' (some h) := by
  obtain ⟨a, cap, hv0, _⟩ := id hv
  have a2 := hk.c; have b2 := hk.fc
  have HK : Hid (Ck (w.setCell ⟨h, 1, none⟩ (.int .i64 (c - cs.length))) h v (c - cs.length) r) := hk.setC _
  have HG : Hid (w.grownBy (w.setCell ⟨h, 1, none⟩ (.int .i64 (c - cs.length))) (some h)) := grown_setK w ⟨h, 1, none⟩ _
  have HV := hide (hv.below HG.out hB)
  have HX := hide (hx.below (bel_row HG.out hB hx.s) (by simp))
  have HO := hide ho
  subst hv0
  clear hk hv hx ho
  by_cases hlc : c - (cs.length : Int) < 0
  · have HF : Hid (comP comI cs (c, r) = none) := by unfold Hid comP; rw [if_pos hlc]
    go_enter Tryz.func44, Tryz.ntmps44
    go_wp2
    go_ret
    exact ⟨false, _, _, rfl, HK.out, HF.out, HG.out⟩
  · have hlc2 : (cs.length : Int) ≤ c := by omega
    go_enter Tryz.func44, Tryz.ntmps44
    go_wp2
    obtain ⟨W1, hW1⟩ : ∃ W1, W1 = w.setCell ⟨h, 1, none⟩ (.int .i64 (c - cs.length)) := ⟨_, rfl⟩
    rw [← hW1] at HK HG HV HX ⊢
    clear hW1 a2 b2
    go_loopw [23] (fun i wr => ∃ k : Nat, k ≤ cs.length ∧ i = .int .i64 k ∧ Hid ((cs.take k).all comI = true) ∧ Hid (Ck wr h v (c - cs.length) (r - sumC (cs.take k))) ∧ 0 ≤ r - sumC (cs.take k) ∧ W1.grownBy wr (some h)) (fun i _ => cs.length - (intOf i).toNat)
    case atStart => exact ⟨0, Nat.zero_le _, rfl, by simp [Hid], by simpa [sumC] using HK, by simpa [sumC] using hr.1, World.grownBy.refl _ _⟩
    case round =>
      obtain ⟨k, hk, rfl, HA, HKr, hrk, hgr⟩ := hrel
      have HGr := hide hgr
      have HXr := hide (HX.out.below (bel_row hgr hB HX.out.s) hgr.size)
      have hn0 := sumC_nonneg (cs.take k)
      by_cases hlt : k < cs.length
      · obtain ⟨b, off, cap', tv, hva, hb, hp⟩ := (HV.out.below hgr hB).at k hlt
        cases hva
        have z0 := hp.k; have z1 := hp.t
        obtain ⟨l1, l2⟩ := HO.out cs[k] (List.getElem_mem hlt)
        have hst := sumC_take cs k hlt
        have hle := sumC_le cs (k + 1)
        have hhl := HKr.out.lt
        have gA := World.grownBy_alloc wr (Obj.cells #[.bool cs[k].b, tv] 83) none
        have HT := hide (takeText_any h v none cs[k].t.length 0 (c - cs.length) (r - sumC (cs.take k)) _ (HKr.out.keep gA) l1 (by omega))
        obtain ⟨ta, tcap, htv, s1, s2⟩ := id hp.sl
        have HTt := hide (takeText_any h v ta cs[k].t.length tcap (c - cs.length) (r - sumC (cs.take k)) _ (HKr.out.keep gA) l1 (by omega))
        have GA := hide gA
        have HP := hide hp
        have hkl : (k : Int) < cs.length := by omega
        clear HT gA hp hgr
        by_cases hfit : (cs[k].t.length : Int) ≤ r - sumC (cs.take k)
        · rw [decide_eq_true hfit] at HTt
          have HIs : Hid (∀ w2 : World, (wr.alloc (Obj.cells #[.bool cs[k].b, tv] 83)).grownBy w2 (some h) → Calls Tryz.prog 79 #[.agg #[.bool cs[k].b, tv]] w2 fun e w' => e = .returned (.bool (comI cs[k])) ∧ w2.grownBy w' none) := fun w2 g2 => by
            have X2 := (HXr.out.below (below_of_grown GA.out |>.mono HXr.out.s) GA.out.size).below (bel_row g2 hB (Nat.le_trans HXr.out.s GA.out.size)) g2.size
            exact isComment_any tv cs[k] m w2 ((((HP.out.rd.keep GA.out).beside g2 (fun j e => by cases e; exact hB))).wideC X2.s) l2 l1 HP.out.sl X2.T X2.M
          subst htv
          cases hcm : comI cs[k] with
          | true =>
            have HN := hide (all_takeI comI cs k hlt HA.out hcm)
            have hnx : r - sumC (cs.take k) - (cs[k].t.length : Int) = r - sumC (cs.take (k + 1)) := by omega
            rw [hcm] at HIs
            rw [hnx] at HTt
            have hrk2 : 0 ≤ r - sumC (cs.take (k + 1)) := by omega
            clear hcm hnx hst hle hfit l2
            generalize cs[k] = p at *
            go_wp2_with fail
            refine HTt.out.mono ?_
            rintro e w2 ⟨rfl, k2, g2⟩
            have q0 : w2.cell? ⟨wr.heap.size, 0, none⟩ = some (.bool p.b) := g2.cell (by simp [go_sem]) (by simp; omega)
            have q1 : w2.cell? ⟨wr.heap.size, 1, none⟩ = some (.slice ta p.t.length tcap) := g2.cell (by simp [go_sem]) (by simp; omega)
            have K2 := hide k2
            have G2 := hide g2
            clear k2 g2
            go_wp2_with fail
            refine (HIs.out _ G2.out).mono ?_
            rintro e w3 ⟨rfl, g3⟩
            have K3 := hide (K2.out.keep g3)
            have G3 := hide (grown_transK HGr.out (grown_transK (grown_rowK GA.out _) (grown_transK G2.out (grown_rowK g3 _))))
            clear g3
            go_wp2
            go_roundw
            case rel => exact ⟨k + 1, by omega, by go_num, HN, K3, hrk2, G3.out⟩
            case measure => simp [intOf]; omega
          | false =>
            have HF : Hid (comP comI cs (c, r) = none) := by
              unfold Hid
              rw [comP_is comI cs c r hr.1, if_neg]
              rintro ⟨_, h2, _⟩
              rw [all_badI comI cs k hlt hcm] at h2
              cases h2
            rw [hcm] at HIs
            clear hcm hst hle hfit l2
            generalize cs[k] = p at *
            go_wp2_with fail
            refine HTt.out.mono ?_
            rintro e w2 ⟨rfl, k2, g2⟩
            have q0 : w2.cell? ⟨wr.heap.size, 0, none⟩ = some (.bool p.b) := g2.cell (by simp [go_sem]) (by simp; omega)
            have q1 : w2.cell? ⟨wr.heap.size, 1, none⟩ = some (.slice ta p.t.length tcap) := g2.cell (by simp [go_sem]) (by simp; omega)
            have K2 := hide k2
            have G2 := hide g2
            clear k2 g2
            go_wp2_with fail
            refine (HIs.out _ G2.out).mono ?_
            rintro e w3 ⟨rfl, g3⟩
            have K3 := hide (K2.out.keep g3)
            have G3 := hide (grown_transK HG.out (grown_transK HGr.out (grown_transK (grown_rowK GA.out _) (grown_transK G2.out (grown_rowK g3 _)))))
            clear g3
            go_wp2
            go_ret
            exact ⟨false, _, _, rfl, K3.out, HF.out, G3.out⟩
        · have HF : Hid (comP comI cs (c, r) = none) := by
            unfold Hid
            rw [comP_is comI cs c r hr.1, if_neg]
            rintro ⟨_, _, h3⟩
            omega
          rw [decide_eq_false hfit] at HTt
          subst htv
          clear hst hle hfit l2
          generalize cs[k] = p at *
          go_wp2_with fail
          refine HTt.out.mono ?_
          rintro e w2 ⟨rfl, k2, g2⟩
          have K2 := hide k2
          have G2 := hide (grown_transK HG.out (grown_transK HGr.out (grown_transK (grown_rowK GA.out _) g2)))
          clear k2 g2
          go_wp2
          go_ret
          exact ⟨false, _, _, rfl, K2.out, HF.out, G2.out⟩
      · have hkn : k = cs.length := by omega
        subst hkn
        rw [List.take_length] at HA HKr hrk
        have HF : Hid (comP comI cs (c, r) = some (c - cs.length, r - sumC cs)) := by
          unfold Hid
          rw [comP_is comI cs c r hr.1, if_pos ⟨hlc2, HA.out, by omega⟩]
        have G2 := hide (grown_transK HG.out hgr)
        clear hgr
        go_wp2
        go_ret
        exact ⟨true, _, _, rfl, HKr.out, HF.out, G2.out⟩

end Go.Proofs.YtalkhnhhaiigiaaGreatDoor

namespace Go.Proofs.YtalkhnhhaiigiaaGreatDoor
open Go.RowKit

set_option maxHeartbeats 1000000 in
theorem hexValue_any (p : Int) (w : World) : Calls Tryz.prog 153 #[.int .i32 p] w fun e w' => e = .returned (.int .i64 (hexV p)) ∧ w = w' := by
  cases hd : isDig p
  · by_cases ha : 97 ≤ p
    · by_cases hb : p ≤ 102
      · have HI : Hid (hexV p = p - 97 + 10) := by simp [Hid, hexV, hd, ha, hb]
        go_enter Tryz.func153, Tryz.ntmps153
        go_wp2_with (go_at_call 146; refine (isDigit_any _ _).mono ?_; rintro e w' ⟨rfl, rfl⟩; rw [hd])
        go_ret
        exact ⟨by rw [HI.out]; first | rfl | (congr 2; go_num), rfl⟩
      · have hc : ¬ p ≤ 70 := by omega
        have HI : Hid (hexV p = -1) := by simp [Hid, hexV, hd, ha, hb]; omega
        have he : 65 ≤ p := by omega
        go_enter Tryz.func153, Tryz.ntmps153
        go_wp2_with (go_at_call 146; refine (isDigit_any _ _).mono ?_; rintro e w' ⟨rfl, rfl⟩; rw [hd])
        go_ret
        exact ⟨by rw [HI.out]; rfl, rfl⟩
    · by_cases hc : 65 ≤ p
      · by_cases he : p ≤ 70
        · have HI : Hid (hexV p = p - 65 + 10) := by simp [Hid, hexV, hd, ha, hc, he]
          go_enter Tryz.func153, Tryz.ntmps153
          go_wp2_with (go_at_call 146; refine (isDigit_any _ _).mono ?_; rintro e w' ⟨rfl, rfl⟩; rw [hd])
          go_ret
          exact ⟨by rw [HI.out]; first | rfl | (congr 2; go_num), rfl⟩
        · have HI : Hid (hexV p = -1) := by simp [Hid, hexV, hd, ha, hc, he]
          go_enter Tryz.func153, Tryz.ntmps153
          go_wp2_with (go_at_call 146; refine (isDigit_any _ _).mono ?_; rintro e w' ⟨rfl, rfl⟩; rw [hd])
          go_ret
          exact ⟨by rw [HI.out]; rfl, rfl⟩
      · have HI : Hid (hexV p = -1) := by simp [Hid, hexV, hd, ha, hc]
        go_enter Tryz.func153, Tryz.ntmps153
        go_wp2_with (go_at_call 146; refine (isDigit_any _ _).mono ?_; rintro e w' ⟨rfl, rfl⟩; rw [hd])
        go_ret
        exact ⟨by rw [HI.out]; rfl, rfl⟩
  · have HI : Hid (hexV p = p - 48) := by simp [Hid, hexV, hd]
    have hd' : 48 ≤ p ∧ p ≤ 57 := by simpa [isDig] using hd
    obtain ⟨hd0, hd1⟩ := hd'
    go_enter Tryz.func153, Tryz.ntmps153
    go_wp2_with (go_at_call 146; refine (isDigit_any _ _).mono ?_; rintro e w' ⟨rfl, rfl⟩; rw [hd])
    go_ret
    exact ⟨by rw [HI.out]; first | rfl | (congr 2; go_num), rfl⟩

end Go.Proofs.YtalkhnhhaiigiaaGreatDoor

