import Derived.Test.YtalkhnhhaiigiaaGreatDoorMAP
import Derived.Test.YtalkhnhhaiigiaaGreatDoorMAR
namespace Go.Proofs.YtalkhnhhaiigiaaGreatDoor
open Go.RowKit

theorem loopN_none {σ : Type} (f : σ → Option σ) (k n : Nat) (s : σ) (h : loopN f k s = none) (hn : k ≤ n) : loopN f n s = none := by
  obtain ⟨j, rfl⟩ : ∃ j, n = k + j := ⟨n - k, by omega⟩
  rw [loopN_add, h]; rfl

/-- What is known of nodes. -/
def NsOk (R : List Nod) : Prop := ∀ p ∈ R, NdOk p ∧ (-9223372036854775808 ≤ p.cnt ∧ p.cnt ≤ 9223372036854775807)

theorem RdN.row {B k : Nat} {w w' : World} {v : Value} {R : List Nod} (h : RdN B w v R) (g : w.grownBy w' (some k)) (hk : B ≤ k) : RdN B w' v R := h.beside g (fun j e => by cases e; exact hk)
theorem RdN.tail {B : Nat} {w : World} {b off cap : Nat} {n : Nod} {R : List Nod} (h : RdN B w (.slice (some ⟨b, off, none⟩) (n :: R).length cap) (n :: R)) (a' : Option Addr) (cap' : Nat) (ha : R ≠ [] → a' = some ⟨b, off + 8, none⟩) (hc : R.length ≤ cap' ∧ cap' ≤ maxLen) : RdN B w (.slice a' R.length cap') R := by
  obtain ⟨a, cp, hv, h1, h2, hh⟩ := h
  obtain ⟨b0, off0, e0, hb, hcell⟩ := hh (by simp)
  simp only [Value.slice.injEq] at hv
  rw [← hv.1] at e0
  cases e0
  refine ⟨a', cap', rfl, hc.1, hc.2, fun h0 => ⟨b, off + 8, ha h0, hb, fun j p hp => ?_⟩⟩
  obtain ⟨x1, x2, x3, x4, x5, hx⟩ := hcell (j + 1) p (by simpa using hp)
  refine ⟨x1, x2, x3, x4, x5, ?_⟩
  have : off + (j + 1) * 8 = off + 8 + j * 8 := by omega
  rw [this] at hx
  exact hx

/-- A value has been asked for. -/
def ValEnds (w0 : World) (h B : Nat) (R : List Nod) (res : Option (List Nod × (Int × Int))) (e : Ending) (w' : World) : Prop :=
  ∃ (b : Bool) (v' : Value) (R' P : List Nod) (c' r' : Int), e = .returned (.bool b) ∧ Ck w' h v' c' r' ∧ res = (if b then some (R', (c', r')) else none) ∧ (b = true → RdN B w' v' R' ∧ R = P ++ R' ∧ (0 ≤ c' ∧ c' ≤ 1048576) ∧ (0 ≤ r' ∧ r' ≤ 1048576)) ∧ w0.grownBy w' (some h)

set_option maxHeartbeats 8000000 in
set_option maxRecDepth 100000 in
theorem takeValue_any (h B : Nat) (m : Int) (hB : B ≤ h) : ∀ (d : Nat), d ≤ 200 → ∀ (mb : Bool) (v : Value) (R : List Nod) (c r : Int) (w : World), Ck w h v c r → Cx w B m → RdN B w v R → NsOk R → R.length ≤ 1048576 → (0 ≤ c ∧ c ≤ 1048576) → (0 ≤ r ∧ r ≤ 1048576) →
    Calls Tryz.prog 43 #[.pointer (some ⟨h, 0, none⟩), .bool mb, .int .i64 d] w (ValEnds w h B R (walkL (chkP comI numI) (d + 1) mb (R, (c, r)))) := by
  intro d
  induction d using Nat.strongRecOn with
  | ind d ih =>
    intro hd mb v R c r w hk hx hv ho hn hc hr
    have a0 := hk.n; have f0 := hk.fn
    have hhl := hk.lt
    obtain ⟨a, cap, hv0, hcp, hmx, hcell⟩ := id hv
    cases R with
    | nil =>
      subst hv0
      have HK := hide hk
      clear hk hv hcell ih
      go_enter Tryz.func43, Tryz.ntmps43
      go_wp2
      go_ret
      exact ⟨false, _, [], [], _, _, rfl, HK.out, rfl, fun e => (by cases e), World.grownBy.refl _ _⟩
    | cons n R =>
      obtain ⟨b, off, ha, hbl, hc8⟩ := hcell (by simp)
      obtain ⟨lv, kv, xv, uv, tv, hp⟩ := hc8 0 n (by simp)
      subst hv0 ha
      have z0 := hp.k; have z1 := hp.lead; have z2 := hp.mem; have z3 := hp.key; have z4 := hp.text; have z5 := hp.units; have z6 := hp.cnt; have z7 := hp.tail
      simp only [Nat.zero_mul, Nat.add_zero] at z0 z1 z2 z3 z4 z5 z6 z7
      obtain ⟨la, lcap, hlv, _, _⟩ := hp.rl.sl
      obtain ⟨ta, tcap, htv, _, _⟩ := hp.rt.sl
      obtain ⟨ka, kcap, hkv, _, _⟩ := id hp.sk
      obtain ⟨xa, xcap, hxv, _, _⟩ := id hp.sx
      obtain ⟨ua, ucap, huv, _, _⟩ := id hp.su
      obtain ⟨hno, hcn⟩ := ho n (by simp)
      have HON := hide hno
      have HOR : Hid (NsOk R) := fun q hq => ho q (by simp [hq])
      have HV := hide hv
      have HP := hide hp
      have HK := hide hk
      have HX := hide hx
      have IH := hide ih
      simp only [List.length_cons] at hcp hn
      subst hlv htv hkv hxv huv
      clear hk hx hv ho hp hc8 hcell ih hno
      by_cases hcap : cap = 1
      · obtain rfl : R = [] := List.eq_nil_of_length_eq_zero (by omega)
        have hnR : ([] : List Nod).length ≤ 1048576 := by simp
        have HVR : Hid (RdN B w (.slice (some ⟨b, off, none⟩) 0 0) []) := HV.out.tail (some ⟨b, off, none⟩) 0 (fun h => absurd rfl h) ⟨by simp, by unfold maxLen; omega⟩
        have gS : w.grownBy (w.setCell ⟨h, 0, none⟩ (.slice (some ⟨b, off, none⟩) 0 0)) (some h) := grown_setK w ⟨h, 0, none⟩ _
        have gA := World.grownBy_alloc (w.setCell ⟨h, 0, none⟩ (.slice (some ⟨b, off, none⟩) 0 0)) (Obj.cells #[.int .i64 n.k, .slice la n.lead.length lcap, .bool n.mem, .slice ka n.key.length kcap, .slice xa n.text.length xcap, .slice ua n.units.length ucap, .int .i64 n.cnt, .slice ta n.tail.length tcap] 75) none
        have hrow : ∀ k, some h = some k → B ≤ k := fun k e => by cases e; exact hB
        have G1 : Hid (w.grownBy ((w.setCell ⟨h, 0, none⟩ (.slice (some ⟨b, off, none⟩) 0 0)).alloc (Obj.cells #[.int .i64 n.k, .slice la n.lead.length lcap, .bool n.mem, .slice ka n.key.length kcap, .slice xa n.text.length xcap, .slice ua n.units.length ucap, .int .i64 n.cnt, .slice ta n.tail.length tcap] 75)) (some h)) := grown_transK gS (grown_rowK gA _)
        have K1 : Hid (Ck ((w.setCell ⟨h, 0, none⟩ (.slice (some ⟨b, off, none⟩) 0 0)).alloc (Obj.cells #[.int .i64 n.k, .slice la n.lead.length lcap, .bool n.mem, .slice ka n.key.length kcap, .slice xa n.text.length xcap, .slice ua n.units.length ucap, .int .i64 n.cnt, .slice ta n.tail.length tcap] 75)) h (.slice (some ⟨b, off, none⟩) 0 0) c r) := (HK.out.setN (.slice (some ⟨b, off, none⟩) 0 0)).keep gA
        have N1 : Hid (N8 ((w.setCell ⟨h, 0, none⟩ (.slice (some ⟨b, off, none⟩) 0 0)).alloc (Obj.cells #[.int .i64 n.k, .slice la n.lead.length lcap, .bool n.mem, .slice ka n.key.length kcap, .slice xa n.text.length xcap, .slice ua n.units.length ucap, .int .i64 n.cnt, .slice ta n.tail.length tcap] 75)) w.heap.size n (.slice la n.lead.length lcap) (.slice ka n.key.length kcap) (.slice xa n.text.length xcap) (.slice ua n.units.length ucap) (.slice ta n.tail.length tcap)) := ⟨by simp [go_sem], by simp [go_sem], by simp [go_sem], by simp [go_sem], by simp [go_sem], by simp [go_sem], by simp [go_sem], by simp [go_sem]⟩
        by_cases hmm : n.mem = mb
        · subst hmm
          have HTN := hide (takeNode_any h (.slice (some ⟨b, off, none⟩) 0 0) n (.slice la n.lead.length lcap) (.slice ka n.key.length kcap) (.slice xa n.text.length xcap) (.slice ua n.units.length ucap) (.slice ta n.tail.length tcap) c r m B _ K1.out (HX.out.below (bel_row G1.out hB HX.out.s) G1.out.size) hB
            (HP.out.rl.beside G1.out hrow) (HP.out.rk.beside G1.out hrow) HP.out.sk (HP.out.rx.beside G1.out hrow) HP.out.sx (HP.out.ru.beside G1.out hrow) HP.out.su (HP.out.rt.beside G1.out hrow) HON.out hr (by omega))
          have hbh : w.heap.size ≠ h := by omega
          clear gS gA
          go_enter Tryz.func43, Tryz.ntmps43
          go_wp2_with fail
          refine HTN.out.mono ?_
          rintro e w2 ⟨b2, c2, r2, rfl, k2, hp2, g2⟩
          have K2 := hide k2
          have G2 := hide (grown_transK G1.out g2)
          have N2 := hide (N1.out.row g2 hbh)
          clear k2 g2
          obtain ⟨q0, q1, q2, q3, q4, q5, q6, q7⟩ := N2.out
          cases b2 with
          | false =>
            have HF : Hid (walkL (chkP comI numI) (d + 1) n.mem (n :: [], (c, r)) = none) := by
              unfold Hid; simp only [walkL, ne_eq, not_true_eq_false, if_false]; rw [hp2]; rfl
            clear hp2
            go_wp2
            go_ret
            exact ⟨false, _, [], [], _, _, rfl, K2.out, HF.out, fun e => (by cases e), G2.out⟩
          | true =>
            simp only [if_true] at hp2
            have HW : Hid (walkL (chkP comI numI) (d + 1) n.mem (n :: [], (c, r)) = if 5 ≤ n.k ∧ d = 0 then none else loopN (walkL (chkP comI numI) d (decide (n.k = 6))) n.cnt.toNat ([], (c2, r2))) := by
              unfold Hid; simp only [walkL, ne_eq, not_true_eq_false, if_false]; rw [hp2]; rfl
            obtain ⟨hnk, hcr⟩ : NodeOK comI numI n ∧ ((0 ≤ c2 ∧ c2 ≤ 1048576) ∧ (0 ≤ r2 ∧ r2 ≤ 1048576)) := by
              rw [chkP_is] at hp2
              by_cases hh : NodeOK comI numI n ∧ nc n ≤ c ∧ nr n ≤ r
              · rw [if_pos hh] at hp2
                have := nc_nonneg n
                have := nr_nonneg n
                simp only [Option.some.injEq, Prod.mk.injEq] at hp2
                exact ⟨hh.1, by omega, by omega⟩
              · rw [if_neg hh] at hp2; cases hp2
            have hk06 := hnk.1
            have hk5 : n.k < 5 → n.cnt = 0 := fun e => (hnk.2.2.2.2.2.2.2.2.2.1 e).1
            have hcnt0 : 0 ≤ n.cnt := hnk.2.2.2.2.2.2.2.2.2.2
            clear hp2 hnk
            by_cases h5 : 5 ≤ n.k
            · have HN : Hid (∀ w : World, Calls Tryz.prog 77 #[.int .i64 n.k] w fun e w' => e = .returned (.bool true) ∧ w = w') := fun w => by
                have := holdsNodes_any n.k w
                rw [decide_eq_true (show n.k = 5 ∨ n.k = 6 by omega)] at this
                exact this
              by_cases hd0 : d = 0
              · subst hd0
                have HF : Hid (walkL (chkP comI numI) (0 + 1) n.mem (n :: [], (c, r)) = none) := by unfold Hid; rw [HW.out, if_pos ⟨h5, rfl⟩]
                go_wp2_with fail
                refine (HN.out _).mono ?_
                rintro e w3 ⟨rfl, rfl⟩
                go_wp2
                go_ret
                exact ⟨false, _, [], [], _, _, rfl, K2.out, HF.out, fun e => (by cases e), G2.out⟩
              · have hdz : ¬ (d : Int) = 0 := by omega
                have HW2 : Hid (walkL (chkP comI numI) (d + 1) n.mem (n :: [], (c, r)) = loopN (walkL (chkP comI numI) d (decide (n.k = 6))) n.cnt.toNat ([], (c2, r2))) := by unfold Hid; rw [HW.out, if_neg (fun hh => hd0 hh.2)]
                obtain ⟨d', rfl⟩ : ∃ d', d = d' + 1 := ⟨d - 1, by omega⟩
                obtain ⟨kb, hkb⟩ : ∃ kb, kb = decide (n.k = 6) := ⟨_, rfl⟩
                have hdzb : ((d' : Int) + 1 == 0) = false := by rw [beq_eq_false_iff_ne]; omega
                have hdzc : (((d' + 1 : Nat) : Int) == 0) = false := by rw [beq_eq_false_iff_ne]; omega
                have h6b : (n.k == 6) = kb := by rw [hkb]; rfl
                rw [← hkb] at HW2
                have hX2 := hide (HX.out.below (bel_row G2.out hB HX.out.s) G2.out.size)
                have HR0 := hide (HVR.out.row G2.out hB)
                clear hkb q1 q2 q3 q4 q5 q7
                go_wp2_with fail
                refine (HN.out _).mono ?_
                rintro e w3 ⟨rfl, rfl⟩
                go_wp2
                go_loopw [47] (fun i wr => ∃ (k : Nat) (vk : Value) (Rk Pk : List Nod) (ck rk : Int), (k : Int) ≤ n.cnt ∧ i = .int .i64 k ∧ Hid (loopN (walkL (chkP comI numI) (d' + 1) kb) k ([], (c2, r2)) = some (Rk, (ck, rk))) ∧ Hid (Ck wr h vk ck rk) ∧ Hid (RdN B wr vk Rk) ∧ Hid ([] = Pk ++ Rk) ∧ Hid ((0 ≤ ck ∧ ck ≤ 1048576) ∧ (0 ≤ rk ∧ rk ≤ 1048576)) ∧ Hid (w2.grownBy wr (some h))) (fun i _ => n.cnt.toNat - (intOf i).toNat)
                case atStart => exact ⟨0, _, _, [], _, _, hcnt0, rfl, rfl, K2, HR0, rfl, hcr, World.grownBy.refl _ _⟩
                case round =>
                  obtain ⟨k, vk, Rk, Pk, ck, rk, hkc, rfl, HLk, KK, RK, EK, BK, GK⟩ := hrel
                  have q0k := (N2.out.row GK.out hbh).c0
                  by_cases hlt : (k : Int) < n.cnt
                  · have HIH := hide (IH.out d' (by omega) (by omega) kb vk Rk ck rk wr KK.out (hX2.out.below (bel_row GK.out hB hX2.out.s) GK.out.size) RK.out (fun q hq => HOR.out q (by rw [EK.out]; exact List.mem_append_right _ hq)) (by have := congrArg List.length EK.out; simp only [List.length_append] at this; have h9 := hnR; omega) BK.out.1 BK.out.2)
                    go_wp2_with fail
                    refine HIH.out.mono ?_
                    rintro e w4 ⟨b4, v4, R4, P4, c4, r4, rfl, k4, hw4, hb4, g4⟩
                    have HS : Hid (loopN (walkL (chkP comI numI) (d' + 1) kb) (k + 1) ([], (c2, r2)) = (if b4 then some (R4, (c4, r4)) else none)) := by
                      unfold Hid; rw [loopN_succ, HLk.out, Option.bind_some, hw4]
                    have K4 := hide k4
                    have HB4 := hide hb4
                    have G4 := hide (grown_transK GK.out g4)
                    clear k4 hw4 hb4 g4
                    cases b4 with
                    | false =>
                      have HF : Hid (walkL (chkP comI numI) (d' + 1 + 1) n.mem (n :: [], (c, r)) = none) := by
                        unfold Hid; rw [HW2.out]; exact loopN_none _ (k + 1) _ _ HS.out (by omega)
                      go_wp2
                      go_ret
                      exact ⟨false, _, [], [], _, _, rfl, K4.out, HF.out, fun e => (by cases e), grown_transK G2.out G4.out⟩
                    | true =>
                      obtain ⟨rd4, hP4, bc4, br4⟩ := HB4.out rfl
                      have RK4 := hide rd4
                      have EK4 : Hid ([] = (Pk ++ P4) ++ R4) := by unfold Hid; rw [List.append_assoc, ← hP4]; exact EK.out
                      have BK4 : Hid ((0 ≤ c4 ∧ c4 ≤ 1048576) ∧ (0 ≤ r4 ∧ r4 ≤ 1048576)) := ⟨bc4, br4⟩
                      clear rd4 hP4 bc4 br4
                      go_wp2
                      go_roundw
                      case rel => exact ⟨k + 1, v4, R4, Pk ++ P4, c4, r4, by omega, by go_num, HS, K4, RK4, EK4, BK4, G4⟩
                      case measure => simp [intOf]; omega
                  · have hkn : n.cnt.toNat = k := by omega
                    have HF : Hid (walkL (chkP comI numI) (d' + 1 + 1) n.mem (n :: [], (c, r)) = some (Rk, (ck, rk))) := by
                      unfold Hid; rw [HW2.out, hkn]; exact HLk.out
                    go_wp2
                    go_ret
                    exact ⟨true, _, Rk, n :: Pk, _, _, rfl, KK.out, HF.out, fun _ => ⟨RK.out, by rw [List.cons_append, ← EK.out], BK.out⟩, grown_transK G2.out GK.out⟩
            · have HN : Hid (∀ w : World, Calls Tryz.prog 77 #[.int .i64 n.k] w fun e w' => e = .returned (.bool false) ∧ w = w') := fun w => by
                have := holdsNodes_any n.k w
                rw [decide_eq_false (show ¬ (n.k = 5 ∨ n.k = 6) by omega)] at this
                exact this
              have hcz : n.cnt = 0 := hk5 (by omega)
              have HF : Hid (walkL (chkP comI numI) (d + 1) n.mem (n :: [], (c, r)) = some ([], (c2, r2))) := by
                unfold Hid; rw [HW.out, if_neg (fun hh => h5 hh.1), hcz]; rfl
              have HRd := hide ((HVR.out.row G2.out hB))
              rw [hcz] at q6
              have HBd := hide hcr
              go_wp2_with fail
              refine (HN.out _).mono ?_
              rintro e w3 ⟨rfl, rfl⟩
              go_wp2
              refine wp_loop_rounds 1 ?_
              rw [rounds_succ]
              go_wp2
              go_ret
              exact ⟨true, _, [], [n], _, _, rfl, K2.out, HF.out, fun _ => ⟨HRd.out, rfl, HBd.out⟩, G2.out⟩
        · have HF : Hid (walkL (chkP comI numI) (d + 1) mb (n :: [], (c, r)) = none) := by
            unfold Hid; simp only [walkL]; rw [if_pos hmm]
          have hmb : (n.mem != mb) = true := by simpa using hmm
          clear gS gA
          go_enter Tryz.func43, Tryz.ntmps43
          go_wp2
          go_ret
          exact ⟨false, _, [], [], _, _, rfl, K1.out, HF.out, fun e => (by cases e), G1.out⟩
      · have hnR : R.length ≤ 1048576 := by omega
        have HVR : Hid (RdN B w (.slice (some ⟨b, off + 8, none⟩) R.length (cap - 1)) R) := HV.out.tail (some ⟨b, off + 8, none⟩) (cap - 1) (fun _ => rfl) ⟨by omega, by omega⟩
        have gS : w.grownBy (w.setCell ⟨h, 0, none⟩ (.slice (some ⟨b, off + 8, none⟩) R.length (cap - 1))) (some h) := grown_setK w ⟨h, 0, none⟩ _
        have gA := World.grownBy_alloc (w.setCell ⟨h, 0, none⟩ (.slice (some ⟨b, off + 8, none⟩) R.length (cap - 1))) (Obj.cells #[.int .i64 n.k, .slice la n.lead.length lcap, .bool n.mem, .slice ka n.key.length kcap, .slice xa n.text.length xcap, .slice ua n.units.length ucap, .int .i64 n.cnt, .slice ta n.tail.length tcap] 75) none
        have hrow : ∀ k, some h = some k → B ≤ k := fun k e => by cases e; exact hB
        have G1 : Hid (w.grownBy ((w.setCell ⟨h, 0, none⟩ (.slice (some ⟨b, off + 8, none⟩) R.length (cap - 1))).alloc (Obj.cells #[.int .i64 n.k, .slice la n.lead.length lcap, .bool n.mem, .slice ka n.key.length kcap, .slice xa n.text.length xcap, .slice ua n.units.length ucap, .int .i64 n.cnt, .slice ta n.tail.length tcap] 75)) (some h)) := grown_transK gS (grown_rowK gA _)
        have K1 : Hid (Ck ((w.setCell ⟨h, 0, none⟩ (.slice (some ⟨b, off + 8, none⟩) R.length (cap - 1))).alloc (Obj.cells #[.int .i64 n.k, .slice la n.lead.length lcap, .bool n.mem, .slice ka n.key.length kcap, .slice xa n.text.length xcap, .slice ua n.units.length ucap, .int .i64 n.cnt, .slice ta n.tail.length tcap] 75)) h (.slice (some ⟨b, off + 8, none⟩) R.length (cap - 1)) c r) := (HK.out.setN (.slice (some ⟨b, off + 8, none⟩) R.length (cap - 1))).keep gA
        have N1 : Hid (N8 ((w.setCell ⟨h, 0, none⟩ (.slice (some ⟨b, off + 8, none⟩) R.length (cap - 1))).alloc (Obj.cells #[.int .i64 n.k, .slice la n.lead.length lcap, .bool n.mem, .slice ka n.key.length kcap, .slice xa n.text.length xcap, .slice ua n.units.length ucap, .int .i64 n.cnt, .slice ta n.tail.length tcap] 75)) w.heap.size n (.slice la n.lead.length lcap) (.slice ka n.key.length kcap) (.slice xa n.text.length xcap) (.slice ua n.units.length ucap) (.slice ta n.tail.length tcap)) := ⟨by simp [go_sem], by simp [go_sem], by simp [go_sem], by simp [go_sem], by simp [go_sem], by simp [go_sem], by simp [go_sem], by simp [go_sem]⟩
        by_cases hmm : n.mem = mb
        · subst hmm
          have HTN := hide (takeNode_any h (.slice (some ⟨b, off + 8, none⟩) R.length (cap - 1)) n (.slice la n.lead.length lcap) (.slice ka n.key.length kcap) (.slice xa n.text.length xcap) (.slice ua n.units.length ucap) (.slice ta n.tail.length tcap) c r m B _ K1.out (HX.out.below (bel_row G1.out hB HX.out.s) G1.out.size) hB
            (HP.out.rl.beside G1.out hrow) (HP.out.rk.beside G1.out hrow) HP.out.sk (HP.out.rx.beside G1.out hrow) HP.out.sx (HP.out.ru.beside G1.out hrow) HP.out.su (HP.out.rt.beside G1.out hrow) HON.out hr (by omega))
          have hbh : w.heap.size ≠ h := by omega
          clear gS gA
          go_enter Tryz.func43, Tryz.ntmps43
          go_wp2_with fail
          refine HTN.out.mono ?_
          rintro e w2 ⟨b2, c2, r2, rfl, k2, hp2, g2⟩
          have K2 := hide k2
          have G2 := hide (grown_transK G1.out g2)
          have N2 := hide (N1.out.row g2 hbh)
          clear k2 g2
          obtain ⟨q0, q1, q2, q3, q4, q5, q6, q7⟩ := N2.out
          cases b2 with
          | false =>
            have HF : Hid (walkL (chkP comI numI) (d + 1) n.mem (n :: R, (c, r)) = none) := by
              unfold Hid; simp only [walkL, ne_eq, not_true_eq_false, if_false]; rw [hp2]; rfl
            clear hp2
            go_wp2
            go_ret
            exact ⟨false, _, [], [], _, _, rfl, K2.out, HF.out, fun e => (by cases e), G2.out⟩
          | true =>
            simp only [if_true] at hp2
            have HW : Hid (walkL (chkP comI numI) (d + 1) n.mem (n :: R, (c, r)) = if 5 ≤ n.k ∧ d = 0 then none else loopN (walkL (chkP comI numI) d (decide (n.k = 6))) n.cnt.toNat (R, (c2, r2))) := by
              unfold Hid; simp only [walkL, ne_eq, not_true_eq_false, if_false]; rw [hp2]; rfl
            obtain ⟨hnk, hcr⟩ : NodeOK comI numI n ∧ ((0 ≤ c2 ∧ c2 ≤ 1048576) ∧ (0 ≤ r2 ∧ r2 ≤ 1048576)) := by
              rw [chkP_is] at hp2
              by_cases hh : NodeOK comI numI n ∧ nc n ≤ c ∧ nr n ≤ r
              · rw [if_pos hh] at hp2
                have := nc_nonneg n
                have := nr_nonneg n
                simp only [Option.some.injEq, Prod.mk.injEq] at hp2
                exact ⟨hh.1, by omega, by omega⟩
              · rw [if_neg hh] at hp2; cases hp2
            have hk06 := hnk.1
            have hk5 : n.k < 5 → n.cnt = 0 := fun e => (hnk.2.2.2.2.2.2.2.2.2.1 e).1
            have hcnt0 : 0 ≤ n.cnt := hnk.2.2.2.2.2.2.2.2.2.2
            clear hp2 hnk
            by_cases h5 : 5 ≤ n.k
            · have HN : Hid (∀ w : World, Calls Tryz.prog 77 #[.int .i64 n.k] w fun e w' => e = .returned (.bool true) ∧ w = w') := fun w => by
                have := holdsNodes_any n.k w
                rw [decide_eq_true (show n.k = 5 ∨ n.k = 6 by omega)] at this
                exact this
              by_cases hd0 : d = 0
              · subst hd0
                have HF : Hid (walkL (chkP comI numI) (0 + 1) n.mem (n :: R, (c, r)) = none) := by unfold Hid; rw [HW.out, if_pos ⟨h5, rfl⟩]
                go_wp2_with fail
                refine (HN.out _).mono ?_
                rintro e w3 ⟨rfl, rfl⟩
                go_wp2
                go_ret
                exact ⟨false, _, [], [], _, _, rfl, K2.out, HF.out, fun e => (by cases e), G2.out⟩
              · have hdz : ¬ (d : Int) = 0 := by omega
                have HW2 : Hid (walkL (chkP comI numI) (d + 1) n.mem (n :: R, (c, r)) = loopN (walkL (chkP comI numI) d (decide (n.k = 6))) n.cnt.toNat (R, (c2, r2))) := by unfold Hid; rw [HW.out, if_neg (fun hh => hd0 hh.2)]
                obtain ⟨d', rfl⟩ : ∃ d', d = d' + 1 := ⟨d - 1, by omega⟩
                obtain ⟨kb, hkb⟩ : ∃ kb, kb = decide (n.k = 6) := ⟨_, rfl⟩
                have hdzb : ((d' : Int) + 1 == 0) = false := by rw [beq_eq_false_iff_ne]; omega
                have hdzc : (((d' + 1 : Nat) : Int) == 0) = false := by rw [beq_eq_false_iff_ne]; omega
                have h6b : (n.k == 6) = kb := by rw [hkb]; rfl
                rw [← hkb] at HW2
                have hX2 := hide (HX.out.below (bel_row G2.out hB HX.out.s) G2.out.size)
                have HR0 := hide (HVR.out.row G2.out hB)
                clear hkb q1 q2 q3 q4 q5 q7
                go_wp2_with fail
                refine (HN.out _).mono ?_
                rintro e w3 ⟨rfl, rfl⟩
                go_wp2
                go_loopw [47] (fun i wr => ∃ (k : Nat) (vk : Value) (Rk Pk : List Nod) (ck rk : Int), (k : Int) ≤ n.cnt ∧ i = .int .i64 k ∧ Hid (loopN (walkL (chkP comI numI) (d' + 1) kb) k (R, (c2, r2)) = some (Rk, (ck, rk))) ∧ Hid (Ck wr h vk ck rk) ∧ Hid (RdN B wr vk Rk) ∧ Hid (R = Pk ++ Rk) ∧ Hid ((0 ≤ ck ∧ ck ≤ 1048576) ∧ (0 ≤ rk ∧ rk ≤ 1048576)) ∧ Hid (w2.grownBy wr (some h))) (fun i _ => n.cnt.toNat - (intOf i).toNat)
                case atStart => exact ⟨0, _, _, [], _, _, hcnt0, rfl, rfl, K2, HR0, rfl, hcr, World.grownBy.refl _ _⟩
                case round =>
                  obtain ⟨k, vk, Rk, Pk, ck, rk, hkc, rfl, HLk, KK, RK, EK, BK, GK⟩ := hrel
                  have q0k := (N2.out.row GK.out hbh).c0
                  by_cases hlt : (k : Int) < n.cnt
                  · have HIH := hide (IH.out d' (by omega) (by omega) kb vk Rk ck rk wr KK.out (hX2.out.below (bel_row GK.out hB hX2.out.s) GK.out.size) RK.out (fun q hq => HOR.out q (by rw [EK.out]; exact List.mem_append_right _ hq)) (by have := congrArg List.length EK.out; simp only [List.length_append] at this; have h9 := hnR; omega) BK.out.1 BK.out.2)
                    go_wp2_with fail
                    refine HIH.out.mono ?_
                    rintro e w4 ⟨b4, v4, R4, P4, c4, r4, rfl, k4, hw4, hb4, g4⟩
                    have HS : Hid (loopN (walkL (chkP comI numI) (d' + 1) kb) (k + 1) (R, (c2, r2)) = (if b4 then some (R4, (c4, r4)) else none)) := by
                      unfold Hid; rw [loopN_succ, HLk.out, Option.bind_some, hw4]
                    have K4 := hide k4
                    have HB4 := hide hb4
                    have G4 := hide (grown_transK GK.out g4)
                    clear k4 hw4 hb4 g4
                    cases b4 with
                    | false =>
                      have HF : Hid (walkL (chkP comI numI) (d' + 1 + 1) n.mem (n :: R, (c, r)) = none) := by
                        unfold Hid; rw [HW2.out]; exact loopN_none _ (k + 1) _ _ HS.out (by omega)
                      go_wp2
                      go_ret
                      exact ⟨false, _, [], [], _, _, rfl, K4.out, HF.out, fun e => (by cases e), grown_transK G2.out G4.out⟩
                    | true =>
                      obtain ⟨rd4, hP4, bc4, br4⟩ := HB4.out rfl
                      have RK4 := hide rd4
                      have EK4 : Hid (R = (Pk ++ P4) ++ R4) := by unfold Hid; rw [List.append_assoc, ← hP4]; exact EK.out
                      have BK4 : Hid ((0 ≤ c4 ∧ c4 ≤ 1048576) ∧ (0 ≤ r4 ∧ r4 ≤ 1048576)) := ⟨bc4, br4⟩
                      clear rd4 hP4 bc4 br4
                      go_wp2
                      go_roundw
                      case rel => exact ⟨k + 1, v4, R4, Pk ++ P4, c4, r4, by omega, by go_num, HS, K4, RK4, EK4, BK4, G4⟩
                      case measure => simp [intOf]; omega
                  · have hkn : n.cnt.toNat = k := by omega
                    have HF : Hid (walkL (chkP comI numI) (d' + 1 + 1) n.mem (n :: R, (c, r)) = some (Rk, (ck, rk))) := by
                      unfold Hid; rw [HW2.out, hkn]; exact HLk.out
                    go_wp2
                    go_ret
                    exact ⟨true, _, Rk, n :: Pk, _, _, rfl, KK.out, HF.out, fun _ => ⟨RK.out, by rw [List.cons_append, ← EK.out], BK.out⟩, grown_transK G2.out GK.out⟩
            · have HN : Hid (∀ w : World, Calls Tryz.prog 77 #[.int .i64 n.k] w fun e w' => e = .returned (.bool false) ∧ w = w') := fun w => by
                have := holdsNodes_any n.k w
                rw [decide_eq_false (show ¬ (n.k = 5 ∨ n.k = 6) by omega)] at this
                exact this
              have hcz : n.cnt = 0 := hk5 (by omega)
              have HF : Hid (walkL (chkP comI numI) (d + 1) n.mem (n :: R, (c, r)) = some (R, (c2, r2))) := by
                unfold Hid; rw [HW.out, if_neg (fun hh => h5 hh.1), hcz]; rfl
              have HRd := hide ((HVR.out.row G2.out hB))
              rw [hcz] at q6
              have HBd := hide hcr
              go_wp2_with fail
              refine (HN.out _).mono ?_
              rintro e w3 ⟨rfl, rfl⟩
              go_wp2
              refine wp_loop_rounds 1 ?_
              rw [rounds_succ]
              go_wp2
              go_ret
              exact ⟨true, _, R, [n], _, _, rfl, K2.out, HF.out, fun _ => ⟨HRd.out, rfl, HBd.out⟩, G2.out⟩
        · have HF : Hid (walkL (chkP comI numI) (d + 1) mb (n :: R, (c, r)) = none) := by
            unfold Hid; simp only [walkL]; rw [if_pos hmm]
          have hmb : (n.mem != mb) = true := by simpa using hmm
          clear gS gA
          go_enter Tryz.func43, Tryz.ntmps43
          go_wp2
          go_ret
          exact ⟨false, _, [], [], _, _, rfl, K1.out, HF.out, fun e => (by cases e), G1.out⟩

end Go.Proofs.YtalkhnhhaiigiaaGreatDoor

