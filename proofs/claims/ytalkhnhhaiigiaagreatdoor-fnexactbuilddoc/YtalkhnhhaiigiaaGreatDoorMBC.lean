import Derived.Test.YtalkhnhhaiigiaaGreatDoorMAD
import Derived.Test.YtalkhnhhaiigiaaGreatDoorMAE
import Derived.Test.YtalkhnhhaiigiaaGreatDoorMAH
import Derived.Test.YtalkhnhhaiigiaaGreatDoorMAK
import Derived.Test.YtalkhnhhaiigiaaGreatDoorMAO
import Derived.Test.YtalkhnhhaiigiaaGreatDoorMAP
import Derived.Test.YtalkhnhhaiigiaaGreatDoorMAS
import Derived.Test.YtalkhnhhaiigiaaGreatDoorMAZ
import Derived.Test.YtalkhnhhaiigiaaGreatDoorMBB
namespace Go.Proofs.YtalkhnhhaiigiaaGreatDoor
open Go.RowKit

set_option maxHeartbeats 1000000 in
theorem l4letter_any (p : Int) (w : World) : Calls Tryz.prog 117 #[.int .i64 p] w fun e w' => e = .returned (.bool (isLet p)) ∧ w = w' := by
  by_cases h : isLet p = true
  · have HI : Hid (isLet p = true) := h
    have h' : (97 ≤ p ∧ p ≤ 122) ∨ (65 ≤ p ∧ p ≤ 90) ∨ p = 95 ∨ p = 36 := by simpa [isLet] using h
    clear h
    rcases h' with ⟨h1, h2⟩ | ⟨h1, h2⟩ | rfl | rfl
    · have h3 : ¬ p ≤ 90 := by omega
      have h4 : 65 ≤ p := by omega
      go_enter Tryz.func117, Tryz.ntmps117
      go_wp2
      go_ret
      exact ⟨by rw [HI.out]; rfl, rfl⟩
    · have h3 : ¬ 97 ≤ p := by omega
      go_enter Tryz.func117, Tryz.ntmps117
      go_wp2
      go_ret
      exact ⟨by rw [HI.out]; rfl, rfl⟩
    all_goals
      go_enter Tryz.func117, Tryz.ntmps117
      go_wp2
      go_ret
      exact ⟨rfl, rfl⟩
  · have HI : Hid (isLet p = false) := by simpa [Hid] using h
    have h' : ¬ ((97 ≤ p ∧ p ≤ 122) ∨ (65 ≤ p ∧ p ≤ 90) ∨ p = 95 ∨ p = 36) := by simpa [isLet] using h
    clear h
    have h95 : (p == 95) = false := by simp; omega
    have h36 : (p == 36) = false := by simp; omega
    by_cases h1 : 65 ≤ p
    · have h2 : ¬ p ≤ 90 := by omega
      by_cases h3 : 97 ≤ p
      · have h4 : ¬ p ≤ 122 := by omega
        clear h'
        go_enter Tryz.func117, Tryz.ntmps117
        go_wp2
        go_ret
        exact ⟨by rw [HI.out]; rfl, rfl⟩
      · clear h'
        go_enter Tryz.func117, Tryz.ntmps117
        go_wp2
        go_ret
        exact ⟨by rw [HI.out]; rfl, rfl⟩
    · have h3 : ¬ 97 ≤ p := by omega
      clear h'
      go_enter Tryz.func117, Tryz.ntmps117
      go_wp2
      go_ret
      exact ⟨by rw [HI.out]; rfl, rfl⟩

end Go.Proofs.YtalkhnhhaiigiaaGreatDoor

namespace Go.Proofs.YtalkhnhhaiigiaaGreatDoor
open Go.RowKit

set_option maxHeartbeats 1000000 in
set_option maxRecDepth 100000 in
theorem specIsName_any (v : Value) (zs : List Int) (w : World) (hv : RdI w.heap.size w v zs) (hn : zs.length ≤ 2097152) :
    Calls Tryz.prog 98 #[v] w fun e w' => e = .returned (.bool (nmR zs)) ∧ w = w' := by
  obtain ⟨a, cap, rfl, hr⟩ := hv
  have hnot : ∀ (x : Bool) (w : World), (Op.unary .not (.bool x)).run Tryz.prog w = .ok (.bool (!x)) w := fun _ _ => rfl
  go_enter Tryz.func98, Tryz.ntmps98
  go_wp2
  go_loopw [3] (fun i wr => ∃ k : Nat, k ≤ zs.length ∧ i = .int .i64 k ∧ nmUp zs k = true ∧ w = wr)
    (fun i _ => zs.length - (intOf i).toNat)
  case atStart => exact ⟨0, Nat.zero_le _, rfl, rfl, rfl⟩
  case round =>
    obtain ⟨k, hk, rfl, hall, rfl⟩ := hrel
    by_cases hlt : k < zs.length
    · obtain ⟨b, off, rfl, hb, hc⟩ := hr (fun h => by simp [h] at hlt)
      have hcx := hc k hlt
      have hal := hide (nmUp_snoc zs k hall)
      have han := hide (nmR_not zs k hlt)
      generalize zs[k]?.getD 0 = p at hcx hal han
      clear hc hr
      cases h1 : isLet p
      · by_cases hk0 : k = 0
        · have hk1 : ((k : Int) == 0) = true := by simp [hk0]
          have HF : Hid (nmR zs = false) := han.out (by simp [nmAt, h1, hk0])
          have HK := hide hk0
          clear hal han hk0
          go_wp2_with (first
            | (go_at_call 117; refine (l4letter_any _ _).mono ?_; rintro e w' ⟨rfl, rfl⟩; rw [h1]))
          go_ret
          exact ⟨by rw [HF.out]; rfl, rfl⟩
        · have hk1 : ((k : Int) == 0) = false := by simp; omega
          cases h2 : isDig p
          · have HF : Hid (nmR zs = false) := han.out (by simp [nmAt, h1, h2])
            clear hal han
            go_wp2_with (first
              | (go_at_call 117; refine (l4letter_any _ _).mono ?_; rintro e w' ⟨rfl, rfl⟩; rw [h1])
              | (go_at_call 118; refine (l4digit_any _ _).mono ?_; rintro e w' ⟨rfl, rfl⟩; rw [h2]))
            go_ret
            exact ⟨by rw [HF.out]; rfl, rfl⟩
          · have HT : Hid (nmUp zs (k + 1) = true) := hal.out (by simp [nmAt, h1, h2, hk0])
            clear hal han
            go_wp2_with (first
              | (go_at_call 117; refine (l4letter_any _ _).mono ?_; rintro e w' ⟨rfl, rfl⟩; rw [h1])
              | (go_at_call 118; refine (l4digit_any _ _).mono ?_; rintro e w' ⟨rfl, rfl⟩; rw [h2]))
            go_roundw
            case rel => exact ⟨k + 1, by omega, by go_num, HT.out, trivial⟩
            case measure => simp [intOf]; omega
      · have HT : Hid (nmUp zs (k + 1) = true) := hal.out (by simp [nmAt, h1])
        clear hal han
        go_wp2_with (first
          | (go_at_call 117; refine (l4letter_any _ _).mono ?_; rintro e w' ⟨rfl, rfl⟩; rw [h1]))
        go_roundw
        case rel => exact ⟨k + 1, by omega, by go_num, HT.out, trivial⟩
        case measure => simp [intOf]; omega
    · have hkn : k = zs.length := by omega
      rw [hkn] at hall
      have HF : Hid (nmR zs = decide (0 < zs.length)) := nmR_yes zs hall
      have HG : Hid (decide ((0 : Int) < (zs.length : Int)) = decide (0 < zs.length)) := by simp [Hid]
      clear hr hall hkn
      go_wp2
      go_ret
      exact ⟨by rw [HF.out, ← HG.out]; rfl, rfl⟩

end Go.Proofs.YtalkhnhhaiigiaaGreatDoor

namespace Go.Proofs.YtalkhnhhaiigiaaGreatDoor
open Go.RowKit
attribute [-go_sem] Builtin.append_

set_option maxHeartbeats 4000000 in
set_option maxRecDepth 100000 in
theorem l4ascii_any (v : Value) (zs : List Int) (w : World) (hv : RdI w.heap.size w v zs) (hz : ∀ z ∈ zs, 0 ≤ z ∧ z < 128) (hn : zs.length ≤ 1048576) :
    Calls Tryz.prog 99 #[v] w fun e w' => ∃ v', e = .returned v' ∧ Bw w.heap.size w' v' zs ∧ w.grownBy w' none := by
  have HV := hide hv
  obtain ⟨a, cap, hv0, _⟩ := id hv
  subst hv0
  clear hv
  go_enter Tryz.func99, Tryz.ntmps99
  go_wp2
  go_loopw [3, 4] (fun o i W => ∃ (k : Nat), k ≤ zs.length ∧ i = .int .i64 k ∧ Bw w.heap.size W o (zs.take k) ∧ w.grownBy W none)
    (fun _ i _ => zs.length - (intOf i).toNat)
  case atStart => exact ⟨0, Nat.zero_le _, rfl, Bw.nil _ _, World.grownBy.refl _ _⟩
  case round =>
    obtain ⟨k, hk, rfl, ho, hg⟩ := hrel
    have hlk : (zs.take k).length = k := by simp; omega
    obtain ⟨oa, oc, hov, _, _⟩ := ho.sl
    rw [hlk] at hov
    by_cases hlt : k < zs.length
    · obtain ⟨a', cap', e, hr⟩ := HV.out.keep hg
      simp only [Value.slice.injEq, true_and] at e
      obtain ⟨rfl, rfl⟩ := e
      obtain ⟨b, off, rfl, hbb, hc⟩ := hr (fun e => by rw [e] at hlt; simp at hlt)
      have hck := hc k hlt
      have hpz : 0 ≤ zs[k]?.getD 0 ∧ zs[k]?.getD 0 < 128 := by rw [List.getElem?_eq_getElem hlt]; exact hz _ (List.getElem_mem hlt)
      have HT := hide (take_snoc zs k hlt)
      have HO := hide ho
      subst hov
      clear hr hc ho
      generalize zs[k]?.getD 0 = p at *
      obtain ⟨v2, w2, run2, o2, g2, a2, c2, hv2⟩ := bw_one w.heap.size wr (.slice oa k oc) (zs.take k) p HO.out hg.size (by omega)
      rw [hlk] at hv2
      have HO2 : Hid (Bw w.heap.size w2 v2 (zs.take (k + 1))) := by unfold Hid; rw [HT.out]; exact o2
      have HG2 := hide (grown_new hg g2 (fun j e => (HO.out.lt j e).1))
      subst hv2
      clear o2 g2 HT
      go_wp2
      go_roundw
      case rel => exact ⟨k + 1, by omega, by go_num, HO2.out, HG2.out⟩
      case measure => simp [intOf]; omega
    · have hkn : k = zs.length := by omega
      subst hkn
      rw [List.take_length] at ho
      subst hov
      go_wp2
      go_ret
      exact ⟨_, rfl, ho, hg⟩

set_option maxHeartbeats 4000000 in
set_option maxRecDepth 100000 in
theorem l6key_any (v : Value) (us : List Int) (w : World) (hv : RdI w.heap.size w v us) (hn : us.length ≤ 1048576) :
    Calls Tryz.prog 70 #[v] w fun e w' => ∃ v', e = .returned v' ∧ Bw w.heap.size w' v' (keyB us) ∧ w.grownBy w' none := by
  have HI := hide (specIsName_any v us w hv (by omega))
  have HQ := hide (specQuote_any v us w hv hn)
  have HA := hide (fun h : nmR us = true => l4ascii_any v us w hv (fun z hz => (q_char z (nm_chars us h z hz)).2) hn)
  obtain ⟨a, cap, hv0, _⟩ := id hv
  subst hv0
  clear hv
  go_enter Tryz.func70, Tryz.ntmps70
  go_wp2_with fail
  refine HI.out.mono ?_
  rintro e w1 ⟨rfl, rfl⟩
  cases hb : nmR us with
  | true =>
    have HK := hide (show keyB us = us by unfold keyB; rw [hb]; rfl)
    have HA' := hide (HA.out hb)
    clear HA HQ HI
    go_wp2_with fail
    refine HA'.out.mono ?_
    rintro e w2 ⟨v2, rfl, o2, g2⟩
    obtain ⟨a2, c2, hv2, _, _⟩ := o2.sl
    subst hv2
    clear HA'
    go_wp2
    go_ret
    exact ⟨_, rfl, by rw [HK.out]; exact o2, g2⟩
  | false =>
    have HK := hide (show keyB us = (quR us).1 by unfold keyB; rw [hb]; rfl)
    clear HA HI
    go_wp2_with fail
    refine HQ.out.mono ?_
    rintro e w2 ⟨v2, rfl, o2, g2⟩
    obtain ⟨a2, c2, hv2, _, _⟩ := o2.sl
    subst hv2
    clear HQ
    go_wp2
    go_ret
    exact ⟨_, rfl, by rw [HK.out]; exact .inl o2, g2⟩
end Go.Proofs.YtalkhnhhaiigiaaGreatDoor

namespace Go.Proofs.YtalkhnhhaiigiaaGreatDoor
open Go.RowKit

theorem loop_more {σ : Type} {f g : σ → Option σ} (h : ∀ s s', f s = some s' → g s = some s') : ∀ (k : Nat) (s s' : σ), loopN f k s = some s' → loopN g k s = some s'
  | 0, s, s', h0 => h0
  | k + 1, s, s', h0 => by
    simp only [loopN, Option.bind_eq_some_iff] at h0 ⊢
    obtain ⟨x, h1, h2⟩ := h0
    exact ⟨x, h s x h1, loop_more h k x s' h2⟩
theorem walk_more {σ : Type} (chk : Nod → σ → Option σ) : ∀ (d d' : Nat) (m : Bool) (s s' : List Nod × σ), d ≤ d' → walkL chk d m s = some s' → walkL chk d' m s = some s'
  | 0, _, _, _, _, _, h => by simp [walkL] at h
  | d + 1, 0, _, _, _, hd, _ => by omega
  | d + 1, d' + 1, m, ([], _), s', _, h => by simp [walkL] at h
  | d + 1, d' + 1, m, (n :: R, s), s', hd, h => by
    by_cases hm : n.mem ≠ m
    · simp [walkL, hm] at h
    · simp only [walkL, if_neg hm] at h ⊢
      rw [Option.bind_eq_some_iff] at h ⊢
      obtain ⟨x, h1, h2⟩ := h
      refine ⟨x, h1, ?_⟩
      by_cases h5 : 5 ≤ n.k ∧ d = 0
      · rw [if_pos h5] at h2; cases h2
      · rw [if_neg h5] at h2
        rw [if_neg (by omega)]
        exact loop_more (fun a b hab => walk_more chk d d' _ a b (by omega) hab) _ _ _ h2

set_option maxHeartbeats 2000000 in
set_option maxRecDepth 100000 in
theorem l5next_any (t : Tre) (hn : t.nodes.length ≤ 1048576) (hc : ∀ p ∈ t.nodes, p.k < 5 → p.cnt = 0) (hb : ∀ p ∈ t.nodes, -9223372036854775808 ≤ p.cnt ∧ p.cnt ≤ 9223372036854775807) (d i : Nat) (m : Bool) (R2 : List Nod) (hd : d ≤ 202) (hi : i < t.nodes.length) (hw : walkL triv d m (t.nodes.drop i, ()) = some (R2, ()))
    (nv tv : Value) (w : World) (hv : RdT' w.heap.size w nv tv t) :
    Calls Tryz.prog 71 #[.agg #[nv, tv], .int .i64 i] w fun e w' => e = .returned (.int .i64 ((t.nodes.length - R2.length : Nat) : Int)) ∧ w.grownBy w' none := by
  have hm : t.nodes[i].mem = m := by
    cases d with
    | zero => simp [walkL] at hw
    | succ d =>
      rw [List.drop_eq_getElem_cons hi] at hw
      by_cases h : t.nodes[i].mem ≠ m
      · simp [walkL, h] at hw
      · simpa using h
  have hR : R2.length ≤ t.nodes.length := by
    obtain ⟨P, hP⟩ := (walk_splits triv d m).2 _ _ hw
    have := congrArg List.length hP
    simp at this; omega
  have he : placeOf t.nodes.length (endL t.nodes.length 202 m (t.nodes.drop i)) = ((t.nodes.length - R2.length : Nat) : Int) := by
    have h1 := end_walk t.nodes.length 202 m (t.nodes.drop i) (by simp)
    rw [walk_more triv d 202 m _ _ hd hw] at h1
    cases hx : endL t.nodes.length 202 m (t.nodes.drop i) with
    | none => rw [hx] at h1; simp at h1
    | some R => rw [hx] at h1; simp at h1; subst h1; simp only [placeOf]; omega
  obtain ⟨hvn, hvt⟩ := id hv
  obtain ⟨na, ncap, hn0, _⟩ := id hvn
  obtain ⟨ta, tcap, ht0, _⟩ := id hvt
  obtain ⟨b, off, cap', lv, kv, xv, uv, tlv, hva, hb0, hp⟩ := hvn.at i hi
  have HC : Hid (∀ W : World, w.grownBy W none → _) := fun W (g : w.grownBy W none) => l5end_any t hn hc hb 201 (by omega) i m nv tv W (by omega) ⟨(hvn.keep g).wide g.size, (hvt.keep g).wide g.size⟩
  have z2 := hp.mem
  rw [hm] at z2
  have HE := hide he
  subst hva
  subst ht0
  cases hn0
  clear hvn hvt hv hw he hp hm hc hb
  have z2' := (World.grownBy_alloc w (Obj.cells #[.slice (some ⟨b, off, none⟩) t.nodes.length ncap, .slice ta t.tail.length tcap] 33) none).cell z2 (by simp)
  go_enter Tryz.func71, Tryz.ntmps71
  obtain ⟨WA, hWA⟩ : ∃ WA, WA = w.alloc (Obj.cells #[.slice (some ⟨b, off, none⟩) t.nodes.length ncap, .slice ta t.tail.length tcap] 33) := ⟨_, rfl⟩
  obtain ⟨I, hI⟩ : ∃ I : World → Prop, I = (fun W : World => W.cell? ⟨w.heap.size, 0, none⟩ = some (.slice (some ⟨b, off, none⟩) t.nodes.length ncap) ∧ W.cell? ⟨w.heap.size, 1, none⟩ = some (.slice ta t.tail.length tcap) ∧ W.cell? ⟨b, off + i * 8 + 2, none⟩ = some (.bool m)) := ⟨_, rfl⟩
  have HI0 : I WA.drew := by rw [hI, hWA]; exact ⟨by simp [go_sem], by simp [go_sem], z2'⟩
  have gA : w.grownBy WA.drew none := by rw [hWA]; exact grown_trans (World.grownBy_alloc _ _ _) ⟨rfl, rfl, rfl, Nat.le_refl _, fun _ _ _ => rfl⟩
  have HCC := hide (HC.out _ gA)
  go_wp2
  rw [← hWA]
  refine region_anyI I (fun _ => false) (by kernel_rfl) ?_
  show anyI _ _ _ _ _ _ 10 (Array.replicate 10 false) _ _
  refine anyI_take (i := 0) (.agg #[.slice (some ⟨b, off, none⟩) t.nodes.length ncap, .slice ta t.tail.length tcap]) rfl (by kernel_rfl) (by kernel_rfl) (by kernel_rfl) (by kernel_rfl) (fun _ _ _ h => h) HI0 (yldI rfl (fun W hW => by rw [hI] at hW; obtain ⟨h1, h2, h3⟩ := hW; go_simp)) ?_
  refine anyI_take (i := 1) (.int .i64 i) rfl (by kernel_rfl) (by kernel_rfl) (by kernel_rfl) (by kernel_rfl) (fun _ _ _ h => h) HI0 (yldI rfl (fun W hW => by go_simp)) ?_
  refine anyI_take (i := 2) (.pointer (some ⟨w.heap.size, 0, none⟩)) rfl (by kernel_rfl) (by kernel_rfl) (by kernel_rfl) (by kernel_rfl) (fun _ _ _ h => h) HI0 (yldI rfl (fun W hW => by go_simp)) ?_
  refine anyI_take (i := 3) (.slice (some ⟨b, off, none⟩) t.nodes.length ncap) rfl (by kernel_rfl) (by kernel_rfl) (by kernel_rfl) (by kernel_rfl) (fun _ _ _ h => h) HI0 (yldI rfl (fun W hW => by rw [hI] at hW; obtain ⟨h1, h2, h3⟩ := hW; go_simp)) ?_
  refine anyI_take (i := 4) (.int .i64 i) rfl (by kernel_rfl) (by kernel_rfl) (by kernel_rfl) (by kernel_rfl) (fun _ _ _ h => h) HI0 (yldI rfl (fun W hW => by go_simp)) ?_
  refine anyI_take (i := 5) (.pointer (some ⟨b, off + i * 8, none⟩)) rfl (by kernel_rfl) (by kernel_rfl) (by kernel_rfl) (by kernel_rfl) (fun _ _ _ h => h) HI0 (yldI rfl (fun W hW => by go_simp)) ?_
  refine anyI_take (i := 6) (.pointer (some ⟨b, off + i * 8 + 2, none⟩)) rfl (by kernel_rfl) (by kernel_rfl) (by kernel_rfl) (by kernel_rfl) (fun _ _ _ h => h) HI0 (yldI rfl (fun W hW => by go_simp)) ?_
  refine anyI_take (i := 7) (.bool m) rfl (by kernel_rfl) (by kernel_rfl) (by kernel_rfl) (by kernel_rfl) (fun _ _ _ h => h) HI0 (yldI rfl (fun W hW => by rw [hI] at hW; obtain ⟨h1, h2, h3⟩ := hW; go_simp)) ?_
  generalize hG : Act.put _ _ _ = A0
  simp [Act.put] at hG
  subst hG
  refine anyI_one (i := 8) (by kernel_rfl) (wpOp_call rfl rfl (by go_simp) HCC.out ?_)
  rintro e w1 ⟨rfl, g1⟩
  have HI1 : I w1 := by rw [hI] at HI0 ⊢; exact ⟨g1.cell HI0.1 (by simp), g1.cell HI0.2.1 (by simp), g1.cell HI0.2.2 (by simp)⟩
  refine ⟨_, rfl, .inr HI1, ?_⟩
  have hE := HE.out
  rw [show 201 + 1 = 202 by rfl, hE]
  have G := hide (grown_trans gA g1)
  clear HC HCC g1 hE z2 z2'
  refine anyI_one (i := 9) (by kernel_rfl) (wpOp_val (w' := w1) (v := .int .i64 ((t.nodes.length - R2.length : Nat) : Int)) rfl rfl (by go_simp) ⟨.inr HI1, ?_⟩)
  refine anyI_done (by kernel_rfl) ?_ _
  subst hI
  go_wp2
  go_ret
  exact ⟨rfl, G.out⟩
end Go.Proofs.YtalkhnhhaiigiaaGreatDoor

namespace Go.Proofs.YtalkhnhhaiigiaaGreatDoor
open Go.RowKit

/-- What is known of a tree. -/
structure TreOk (t : Tre) : Prop where
  n : NsOk t.nodes
  l : t.nodes.length ≤ 1048576
  t : t.tail.length ≤ 1048576 ∧ CsOk t.tail

/-- The program's answer. -/
noncomputable def validI (t : Tre) : Bool :=
  decide (t.nodes.length ≤ 4000) && (match walkL (chkP comI numI) 201 false (t.nodes, (4000, 100000)) with
    | some ([], s) => (comP comI t.tail s).isSome
    | _ => false)

theorem grown_above {a b c : World} {h : Nat} (g : a.grownBy b none) (k : b.grownBy c (some h)) (hh : a.heap.size ≤ h) : a.grownBy c none :=
  ⟨k.os.trans g.os, k.tape.trans g.tape, k.output.trans g.output, Nat.le_trans g.size k.size, fun i hi _ => (k.block i (Nat.lt_of_lt_of_le hi g.size) (by simp only [ne_eq, Option.some.injEq]; omega)).trans (g.block i hi (by simp))⟩

set_option maxHeartbeats 4000000 in
set_option maxRecDepth 100000 in
theorem implValidTree_any (nv tv : Value) (t : Tre) (m : Int) (w : World) (hv : RdT' w.heap.size w nv tv t) (ho : TreOk t) (hT : Tab w) (hM : w.cell? ⟨1, 0, none⟩ = some (.int .i64 m)) :
    Calls Tryz.prog 21 #[.agg #[nv, tv]] w fun e w' => e = .returned (.bool (validI t)) ∧ w.grownBy w' none := by
  obtain ⟨hvn, hvt⟩ := hv
  obtain ⟨na, ncap, hn0, _⟩ := id hvn
  obtain ⟨ta, tcap, ht0, _⟩ := id hvt
  have hsz : 2 ≤ w.heap.size := World.block_lt_of_cell? w _ hM
  have HN := hide hvn
  have HT := hide hvt
  have HO := hide ho
  have HX : Hid (Cx w w.heap.size m) := ⟨hT, hM, hsz, Nat.le_refl _⟩
  have hl := ho.l
  subst hn0 ht0
  clear hvn hvt hT hM ho
  by_cases hbig : 4000 < t.nodes.length
  · have HF : Hid (validI t = false) := by unfold Hid validI; rw [decide_eq_false (by omega)]; rfl
    go_enter Tryz.func21, Tryz.ntmps21
    go_wp2
    go_ret
    exact ⟨by rw [HF.out]; rfl, World.grownBy_alloc _ _ _⟩
  · have hle : t.nodes.length ≤ 4000 := by omega
    go_enter Tryz.func21, Tryz.ntmps21
    go_wp2_with fail
    obtain ⟨W1, hW1⟩ : ∃ W1, W1 = w.alloc (Obj.cells #[Value.slice na t.nodes.length ncap, Value.slice ta t.tail.length tcap] 33) := ⟨_, rfl⟩
    obtain ⟨W2, hW2⟩ : ∃ W2, W2 = W1.alloc (Obj.cells #[Value.slice na t.nodes.length ncap, Value.int IntKind.i64 4000, Value.int IntKind.i64 100000] 86) := ⟨_, rfl⟩
    have g12 : w.grownBy W2 none := by rw [hW2, hW1]; exact grown_trans (World.grownBy_alloc _ _ _) (World.grownBy_alloc _ _ _)
    have s2 : W2.heap.size = w.heap.size + 2 := by rw [hW2, hW1]; simp
    have hK : Ck W2 (w.heap.size + 1) (.slice na t.nodes.length ncap) 4000 100000 := by
      rw [hW2, hW1]
      exact ⟨by simp [go_sem], by simp [go_sem], by simp [go_sem], by simp [go_sem], by simp [go_sem], by simp [go_sem]⟩
    have d1 : W2.cell? ⟨w.heap.size, 1, none⟩ = some (.slice ta t.tail.length tcap) := by rw [hW2, hW1]; simp [go_sem]
    rw [← hW1, ← hW2]
    clear hW2 hW1
    refine (takeValue_any (w.heap.size + 1) w.heap.size m (by omega) 200 (Nat.le_refl _) false _ t.nodes 4000 100000 W2 hK (HX.out.below ((below_of_grown g12).mono (Nat.le_refl _)) (by omega)) (HN.out.keep g12) HO.out.n HO.out.l (by omega) (by omega)).mono ?_
    rintro e w3 ⟨b, v3, R3, P3, c3, r3, rfl, k3, hres, hyes, g3⟩
    have d3 : w3.cell? ⟨w.heap.size, 1, none⟩ = some (.slice ta t.tail.length tcap) := g3.cell d1 (by simp)
    have G3 := hide (grown_above g12 g3 (by omega))
    cases b with
    | false =>
      have HF : Hid (validI t = false) := by unfold Hid validI; rw [hres, Bool.and_eq_false_iff]; exact .inr rfl
      clear hyes hres k3 g3
      go_wp2
      go_ret
      exact ⟨by rw [HF.out]; rfl, G3.out⟩
    | true =>
      obtain ⟨hR3, hP3, hc3, hr3⟩ := hyes rfl
      obtain ⟨a3, cap3, hv3, _⟩ := id hR3
      have z0 := k3.n
      cases R3 with
      | cons n R =>
        have HF : Hid (validI t = false) := by unfold Hid validI; rw [hres, Bool.and_eq_false_iff]; exact .inr rfl
        have hlr : ((n :: R).length : Int) ≠ 0 := by simp only [List.length_cons]; omega
        have hne : (((n :: R).length : Int) == 0) = false := by simpa using hlr
        subst hv3
        generalize (n :: R).length = L at *
        clear hyes hres k3 g3
        go_wp2
        go_ret
        exact ⟨by rw [HF.out]; rfl, G3.out⟩
      | nil =>
        subst hv3
        have HTC := hide (takeComments_any (w.heap.size + 1) (.slice a3 0 cap3) (.slice ta t.tail.length tcap) t.tail c3 r3 m w.heap.size w3 k3 (HX.out.below ((below_of_grown G3.out).mono (Nat.le_refl _)) G3.out.size) (HT.out.keep G3.out) (by omega) HO.out.t.1 HO.out.t.2 hr3 (by omega))
        have HVI : Hid (validI t = (comP comI t.tail (c3, r3)).isSome) := by unfold Hid validI; rw [hres, decide_eq_true hle]; rfl
        clear hyes hres k3 g3 hR3
        go_wp2_with fail
        refine HTC.out.mono ?_
        rintro e w4 ⟨b, c4, r4, rfl, k4, hcom, g4⟩
        have HB : Hid (validI t = b) := by unfold Hid; rw [HVI.out, hcom]; cases b <;> rfl
        have G4 := hide (grown_above G3.out g4 (by omega))
        clear hcom k4 g4
        go_wp2
        go_ret
        exact ⟨by rw [HB.out]; rfl, G4.out⟩
end Go.Proofs.YtalkhnhhaiigiaaGreatDoor

namespace Go.Proofs.YtalkhnhhaiigiaaGreatDoor
open Go.RowKit

/-- The model's answer. -/
def validS (t : Tre) : Bool :=
  decide (1 ≤ t.nodes.length) && (decide (t.nodes.length ≤ 4000) && ((decide (sumR t.nodes + sumC t.tail ≤ 100000) && decide (sumK t.nodes + t.tail.length ≤ 4000)) && (t.tail.all comS && (t.nodes.all nodeB && decide (placeOf t.nodes.length (endL t.nodes.length 201 false t.nodes) = (t.nodes.length : Int))))))

set_option maxHeartbeats 4000000 in
set_option maxRecDepth 100000 in
theorem specValidTree_any (nv tv : Value) (t : Tre) (w : World) (hv : RdT' w.heap.size w nv tv t) (ho : TreOk t) (hR : sumR t.nodes + sumC t.tail ≤ 1048576) (hK : sumK t.nodes + t.tail.length ≤ 1048576) :
    Calls Tryz.prog 15 #[.agg #[nv, tv]] w fun e w' => e = .returned (.bool (validS t)) ∧ w.grownBy w' none := by
  obtain ⟨hvn, hvt⟩ := id hv
  obtain ⟨na, ncap, hn0, _⟩ := id hvn
  obtain ⟨ta, tcap, ht0, _⟩ := id hvt
  have HN := hide hvn
  have HO := hide ho
  have hl := ho.l
  have HSm : Hid (∀ w', w.grownBy w' none → _) := fun w' (g : w.grownBy w' none) => l5small_any nv tv t w' ⟨(hvn.keep g).wide g.size, (hvt.keep g).wide g.size⟩ hR hK ho.l
  have HCm : Hid (∀ w', w.grownBy w' none → _) := fun w' (g : w.grownBy w' none) => l5commentsOK_any tv t.tail w' ((hvt.keep g).wide g.size) ho.t.1 ho.t.2
  have HEn : Hid ((∀ p ∈ t.nodes, p.k < 5 → p.cnt = 0) → ∀ w', w.grownBy w' none → _) := fun hc w' (g : w.grownBy w' none) => l5end_any t ho.l hc (fun p hp => (ho.n p hp).2) 200 (by omega) 0 false nv tv w' (Nat.zero_le _) ⟨(hvn.keep g).wide g.size, (hvt.keep g).wide g.size⟩
  have gA : w.grownBy (w.alloc (Obj.cells #[nv, tv] 33)) none := World.grownBy_alloc _ _ _
  have GA := hide gA
  subst hn0 ht0
  clear hv hvn hvt ho gA
  by_cases h1 : t.nodes.length < 1
  · have HF : Hid (validS t = false) := by unfold Hid validS; rw [decide_eq_false (by omega)]; rfl
    have h1' : (t.nodes.length : Int) < 1 := by omega
    go_enter Tryz.func15, Tryz.ntmps15
    go_wp2
    go_ret
    exact ⟨by rw [HF.out]; rfl, GA.out⟩
  by_cases h2 : 4000 < t.nodes.length
  · have HF : Hid (validS t = false) := by unfold Hid validS; rw [decide_eq_false (show ¬ t.nodes.length ≤ 4000 by omega)]; simp
    have h1' : ¬ (t.nodes.length : Int) < 1 := by omega
    have h2' : (4000 : Int) < t.nodes.length := by omega
    go_enter Tryz.func15, Tryz.ntmps15
    go_wp2
    go_ret
    exact ⟨by rw [HF.out]; rfl, GA.out⟩
  have h1' : ¬ (t.nodes.length : Int) < 1 := by omega
  have h2' : ¬ (4000 : Int) < t.nodes.length := by omega
  have HV1 : Hid (validS t = ((decide (sumR t.nodes + sumC t.tail ≤ 100000) && decide (sumK t.nodes + t.tail.length ≤ 4000)) && (t.tail.all comS && (t.nodes.all nodeB && decide (placeOf t.nodes.length (endL t.nodes.length 201 false t.nodes) = (t.nodes.length : Int)))))) := by
    unfold Hid validS; rw [decide_eq_true (show 1 ≤ t.nodes.length by omega), decide_eq_true (show t.nodes.length ≤ 4000 by omega)]; simp only [Bool.true_and]
  go_enter Tryz.func15, Tryz.ntmps15
  go_wp2_with fail
  refine (HSm.out _ GA.out).mono ?_
  rintro e w1 ⟨rfl, g1⟩
  have c0 : w1.cell? ⟨w.heap.size, 0, none⟩ = some (.slice na t.nodes.length ncap) := g1.cell (by simp [go_sem]) (by simp)
  have c1 : w1.cell? ⟨w.heap.size, 1, none⟩ = some (.slice ta t.tail.length tcap) := g1.cell (by simp [go_sem]) (by simp)
  have G1 := hide (grown_trans GA.out g1)
  clear g1 HSm
  generalize (decide (sumR t.nodes + sumC t.tail ≤ 100000) && decide (sumK t.nodes + t.tail.length ≤ 4000)) = sm at *
  cases sm with
  | false =>
    go_wp2
    go_ret
    exact ⟨by rw [HV1.out]; rfl, G1.out⟩
  | true =>
    rw [Bool.true_and] at HV1
    go_wp2_with fail
    refine (HCm.out _ G1.out).mono ?_
    rintro e w2 ⟨rfl, g2⟩
    have c2 := g2.cell c0 (by simp)
    have c3 := g2.cell c1 (by simp)
    have G2 := hide (grown_trans G1.out g2)
    clear g2 HCm c0 c1
    generalize t.tail.all comS = cm at *
    cases cm with
    | false =>
      go_wp2
      go_ret
      exact ⟨by rw [HV1.out]; rfl, G2.out⟩
    | true =>
      rw [Bool.true_and] at HV1
      go_wp2
      go_loopw [3] (fun i wr => ∃ k : Nat, k ≤ t.nodes.length ∧ i = .int .i64 k ∧ Hid ((t.nodes.take k).all nodeB = true) ∧ w2.grownBy wr none) (fun i _ => t.nodes.length - (intOf i).toNat)
      case atStart => exact ⟨0, Nat.zero_le _, rfl, by simp [Hid], World.grownBy.refl _ _⟩
      case round =>
        obtain ⟨k, hk, rfl, HA, hgr⟩ := hrel
        have c4 := hgr.cell c2 (by simp)
        have c5 := hgr.cell c3 (by simp)
        have hgw := grown_trans G2.out hgr
        by_cases hlt : k < t.nodes.length
        · obtain ⟨b, off, cap', lv, kv, xv, uv, tlv, hva, hb, hp⟩ := (HN.out.keep hgw).at k hlt
          cases hva
          have z0 := hp.k; have z1 := hp.lead; have z2 := hp.mem; have z3 := hp.key; have z4 := hp.text; have z5 := hp.units; have z6 := hp.cnt; have z7 := hp.tail
          have HC := hide (l5nodeOK_any t.nodes[k] lv kv xv uv tlv w.heap.size wr hgw.size hp.rl hp.rk hp.sk hp.rx hp.sx hp.ru hp.su hp.rt (HO.out.n _ (List.getElem_mem hlt)).1)
          obtain ⟨la, lcap, hlv, _, _⟩ := hp.rl.sl
          obtain ⟨qa, qcap, hqv, _, _⟩ := hp.rt.sl
          obtain ⟨ka, kcap, hkv, _, _⟩ := hp.sk
          obtain ⟨xa, xcap, hxv, _, _⟩ := hp.sx
          obtain ⟨ua, ucap, huv, _, _⟩ := hp.su
          have HG := hide hgr
          have HW := hide hgw
          subst hlv hqv hkv hxv huv
          clear hp hgr hgw
          cases hc : nodeB t.nodes[k] with
          | true =>
            have HNx := hide (all_takeI nodeB t.nodes k hlt HA.out hc)
            rw [hc] at HC
            clear hc
            generalize t.nodes[k] = p at *
            go_wp2_with fail
            refine HC.out.mono ?_
            rintro e w4 ⟨rfl, g4⟩
            have HG1 := hide (grown_trans HG.out g4)
            clear g4
            go_wp2
            go_roundw
            case rel => exact ⟨k + 1, by omega, by go_num, HNx, HG1.out⟩
            case measure => simp [intOf]; omega
          | false =>
            have HF : Hid (validS t = false) := by unfold Hid; rw [HV1.out, all_badI nodeB t.nodes k hlt hc]; rfl
            rw [hc] at HC
            clear hc
            generalize t.nodes[k] = p at *
            go_wp2_with fail
            refine HC.out.mono ?_
            rintro e w4 ⟨rfl, g4⟩
            have HG1 := hide (grown_trans HW.out g4)
            clear g4
            go_wp2
            go_ret
            exact ⟨by rw [HF.out]; rfl, HG1.out⟩
        · have hall : t.nodes.all nodeB = true := by
            have := HA.out
            rw [show k = t.nodes.length by omega, List.take_length] at this
            exact this
          have hcz : ∀ p ∈ t.nodes, p.k < 5 → p.cnt = 0 := fun p hp h5 => by
            have h := (nodeB_is p).1 (List.all_eq_true.1 hall p hp)
            exact (h.2.2.2.2.2.2.2.2.2.1 h5).1
          have HV2 : Hid (validS t = decide (placeOf t.nodes.length (endL t.nodes.length 201 false t.nodes) = (t.nodes.length : Int))) := by
            unfold Hid; rw [HV1.out, hall, Bool.true_and]
          have gd : wr.grownBy wr.drew none := ⟨rfl, rfl, rfl, Nat.le_refl _, fun _ _ _ => rfl⟩
          have HE := hide (HEn.out hcz wr.drew (grown_trans hgw gd))
          rw [List.drop_zero] at HE
          have HW := hide (grown_trans hgw gd)
          have c6 := gd.cell c4 (by simp)
          have c7 := gd.cell c5 (by simp)
          clear hgw hgr hcz hall HEn gd
          generalize placeOf t.nodes.length (endL t.nodes.length 201 false t.nodes) = pl at *
          go_wp2
          obtain ⟨I, hI⟩ : ∃ I : World → Prop, I = (fun W : World => W.cell? ⟨w.heap.size, 0, none⟩ = some (.slice na t.nodes.length ncap) ∧ W.cell? ⟨w.heap.size, 1, none⟩ = some (.slice ta t.tail.length tcap)) := ⟨_, rfl⟩
          have HI0 : I wr.drew := by rw [hI]; exact ⟨c6, c7⟩
          refine region_anyI I (fun _ => false) (by kernel_rfl) ?_
          show anyI _ _ _ _ _ _ 7 (Array.replicate 7 false) _ _
          refine anyI_take (i := 0) (.agg #[.slice na t.nodes.length ncap, .slice ta t.tail.length tcap]) rfl (by kernel_rfl) (by kernel_rfl) (by kernel_rfl) (by kernel_rfl) (fun _ _ _ h => h) HI0 (yldI rfl (fun W hW => by rw [hI] at hW; obtain ⟨h1, h2⟩ := hW; go_simp)) ?_
          refine anyI_take (i := 2) (.pointer (some ⟨w.heap.size, 0, none⟩)) rfl (by kernel_rfl) (by kernel_rfl) (by kernel_rfl) (by kernel_rfl) (fun _ _ _ h => h) HI0 (yldI rfl (fun W hW => by rw [hI] at hW; obtain ⟨h1, h2⟩ := hW; go_simp)) ?_
          refine anyI_take (i := 3) (.slice na t.nodes.length ncap) rfl (by kernel_rfl) (by kernel_rfl) (by kernel_rfl) (by kernel_rfl) (fun _ _ _ h => h) HI0 (yldI rfl (fun W hW => by rw [hI] at hW; obtain ⟨h1, h2⟩ := hW; go_simp)) ?_
          refine anyI_take (i := 4) (.int .i64 t.nodes.length) rfl (by kernel_rfl) (by kernel_rfl) (by kernel_rfl) (by kernel_rfl) (fun _ _ _ h => h) HI0 (yldI rfl (fun W hW => by rw [hI] at hW; obtain ⟨h1, h2⟩ := hW; go_simp)) ?_
          refine anyI_one (i := 1) (by kernel_rfl) (wpOp_call rfl rfl (by go_simp) HE.out ?_)
          rintro e w6 ⟨rfl, g⟩
          have G6 := hide (grown_trans HW.out g)
          have HI1 : I w6 := by rw [hI]; exact ⟨g.cell c6 (by simp), g.cell c7 (by simp)⟩
          clear g
          refine ⟨_, rfl, .inr HI1, ?_⟩
          refine anyI_one (i := 5) (by kernel_rfl) (wpOp_val (v := .bool (decide (pl = (t.nodes.length : Int)))) rfl rfl (by go_simp; rfl) ⟨.inr HI1, ?_⟩)
          refine anyI_one (i := 6) (by kernel_rfl) (wpOp_val (v := .bool (decide (pl = (t.nodes.length : Int)))) rfl rfl (by go_simp) ⟨.inr HI1, ?_⟩)
          refine anyI_done (by kernel_rfl) ?_ _
          clear HI0 HI1
          subst hI
          go_wp2
          go_ret
          exact ⟨by rw [HV2.out]; rfl, G6.out⟩
end Go.Proofs.YtalkhnhhaiigiaaGreatDoor

