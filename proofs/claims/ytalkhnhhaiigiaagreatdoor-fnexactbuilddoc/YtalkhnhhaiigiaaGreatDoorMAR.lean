import Derived.Test.YtalkhnhhaiigiaaGreatDoorMAQ
namespace Go.Proofs.YtalkhnhhaiigiaaGreatDoor
open Go.RowKit

theorem N8.row {W W' : World} {b h : Nat} {p : Nod} {lv kv xv uv tv : Value} (n : N8 W b p lv kv xv uv tv) (g : W.grownBy W' (some h)) (hb : b ≠ h) : N8 W' b p lv kv xv uv tv :=
  have hn : some b ≠ some h := fun e => hb (by cases e; rfl)
  ⟨g.cell n.c0 hn, g.cell n.c1 hn, g.cell n.c2 hn, g.cell n.c3 hn, g.cell n.c4 hn, g.cell n.c5 hn, g.cell n.c6 hn, g.cell n.c7 hn⟩

/-- All that is known in the midst of a node: the node's reading, the world. -/
structure MidN (w0 W : World) (B h b : Nat) (m : Int) (p : Nod) (lv kv xv uv tv : Value) : Prop where
  x : Cx W B m
  l : RdC B W lv p.lead
  k : RdI B W kv p.key
  t : RdB B W xv p.text
  u : RdI B W uv p.units
  e : RdC B W tv p.tail
  n : N8 W b p lv kv xv uv tv
  g : w0.grownBy W (some h)
theorem MidN.row {w0 W W' : World} {B h b : Nat} {m : Int} {p : Nod} {lv kv xv uv tv : Value} (s : MidN w0 W B h b m p lv kv xv uv tv) (g : W.grownBy W' (some h)) (hB : B ≤ h) (hb : b ≠ h) : MidN w0 W' B h b m p lv kv xv uv tv :=
  have hr : ∀ k, some h = some k → B ≤ k := fun k e => by cases e; exact hB
  ⟨s.x.below (bel_row g hB s.x.s) g.size, s.l.beside g hr, s.k.beside g hr, s.t.beside g hr, s.u.beside g hr, s.e.beside g hr, s.n.row g hb, grown_transK s.g g⟩

open Classical in
theorem chk_fit {p : Nod} {c r : Int} (h : ¬ Fits p) : chkP comI numI p (c, r) = none := by unfold chkP; rw [if_pos h]
open Classical in
theorem chk_key {p : Nod} {c r : Int} (h : Fits p) (hk : ¬ ((p.key.length : Int) ≤ r ∧ p.key.all isUn = true)) : chkP comI numI p (c, r) = none := by
  unfold chkP
  rw [if_neg (fun hn => hn h), if_pos]
  by_cases h1 : (p.key.length : Int) ≤ r
  · right; exact Bool.eq_false_iff.2 (fun e => hk ⟨h1, e⟩)
  · left; show r - (p.key.length : Int) < 0; omega
open Classical in
theorem chk_units {p : Nod} {c r : Int} (h : Fits p) (hk : (p.key.length : Int) ≤ r ∧ p.key.all isUn = true) (hu : ¬ ((p.units.length : Int) ≤ r - p.key.length ∧ p.units.all isUn = true)) : chkP comI numI p (c, r) = none := by
  unfold chkP
  rw [if_neg (fun hn => hn h), if_neg, if_pos]
  · by_cases h1 : (p.units.length : Int) ≤ r - p.key.length
    · right; exact Bool.eq_false_iff.2 (fun e => hu ⟨h1, e⟩)
    · left; show r - (p.key.length : Int) - p.units.length < 0; omega
  · rintro (h1 | h1)
    · have : r - (p.key.length : Int) < 0 := h1; omega
    · rw [hk.2] at h1; cases h1
open Classical in
theorem chk_rest {p : Nod} {c r : Int} (h : Fits p) (hk : (p.key.length : Int) ≤ r ∧ p.key.all isUn = true) (hu : (p.units.length : Int) ≤ r - p.key.length ∧ p.units.all isUn = true) :
    chkP comI numI p (c, r) = if r - p.key.length - p.units.length - p.text.length < 0 then none else if p.k = 3 ∧ numI p.text = false then none else (comP comI p.lead (c, r - p.key.length - p.units.length - p.text.length)).bind fun s' => comP comI p.tail s' := by
  unfold chkP
  rw [if_neg (fun hn => hn h), if_neg, if_neg]
  · rintro (h1 | h1)
    · have : r - (p.key.length : Int) - p.units.length < 0 := h1; omega
    · rw [hu.2] at h1; cases h1
  · rintro (h1 | h1)
    · have : r - (p.key.length : Int) < 0 := h1; omega
    · rw [hk.2] at h1; cases h1

set_option maxHeartbeats 8000000 in
set_option maxRecDepth 100000 in
theorem takeNode_any (h : Nat) (v : Value) (p : Nod) (lv kv xv uv tv : Value) (c r m : Int) (B : Nat) (w : World) (hk : Ck w h v c r) (hx : Cx w B m) (hB : B ≤ h) (rl : RdC B w lv p.lead) (rk : RdI B w kv p.key) (sk : Sl kv p.key.length) (rx : RdB B w xv p.text) (sx : Sl xv p.text.length) (ru : RdI B w uv p.units) (su : Sl uv p.units.length) (rt : RdC B w tv p.tail) (ho : NdOk p) (hr : 0 ≤ r ∧ r ≤ 1048576) (hc : -1048576 ≤ c ∧ c ≤ 1048576) :
    Calls Tryz.prog 76 #[.pointer (some ⟨h, 0, none⟩), .agg #[.int .i64 p.k, lv, .bool p.mem, kv, xv, uv, .int .i64 p.cnt, tv]] w fun e w' => ∃ (b : Bool) (c' r' : Int), e = .returned (.bool b) ∧ Ck w' h v c' r' ∧ chkP comI numI p (c, r) = (if b then some (c', r') else none) ∧ w.grownBy w' (some h) := by
  have hhl := hk.lt
  obtain ⟨la, lcap, hlv, _, _⟩ := rl.sl
  obtain ⟨ta, tcap, htv, _, _⟩ := rt.sl
  obtain ⟨ka, kcap, hkv, k1, k2⟩ := id sk
  obtain ⟨xa, xcap, hxv, x1, x2⟩ := id sx
  obtain ⟨ua, ucap, huv, u1, u2⟩ := id su
  have l1 := ho.k; have l2 := ho.u; have l3 := ho.x.1; have l4 := ho.t.1
  have SX := hide sx
  have HO := hide ho
  subst hlv htv hkv hxv huv
  have gA := World.grownBy_alloc w (Obj.cells #[.int .i64 p.k, .slice la p.lead.length lcap, .bool p.mem, .slice ka p.key.length kcap, .slice xa p.text.length xcap, .slice ua p.units.length ucap, .int .i64 p.cnt, .slice ta p.tail.length tcap] 75) none
  have M0 : Hid (MidN w (w.alloc (Obj.cells #[.int .i64 p.k, .slice la p.lead.length lcap, .bool p.mem, .slice ka p.key.length kcap, .slice xa p.text.length xcap, .slice ua p.units.length ucap, .int .i64 p.cnt, .slice ta p.tail.length tcap] 75)) B h w.heap.size m p (.slice la p.lead.length lcap) (.slice ka p.key.length kcap) (.slice xa p.text.length xcap) (.slice ua p.units.length ucap) (.slice ta p.tail.length tcap)) :=
    ⟨hx.below ((below_of_grown gA).mono hx.s) gA.size, rl.keep gA, rk.keep gA, rx.keep gA, ru.keep gA, rt.keep gA, ⟨by simp [go_sem], by simp [go_sem], by simp [go_sem], by simp [go_sem], by simp [go_sem], by simp [go_sem], by simp [go_sem], by simp [go_sem]⟩, grown_rowK gA _⟩
  have K0 := hide (hk.keep gA)
  have hbh : w.heap.size ≠ h := by omega
  have HFit := hide (fun w => fitsKind_any p la ka xa ua ta lcap kcap xcap ucap tcap w l1 l2 l3 l4)
  clear gA rl rk sk rx sx ru su rt ho hk hx
  go_enter Tryz.func76, Tryz.ntmps76
  go_wp2_with fail
  refine (HFit.out _).mono ?_
  rintro e w1 ⟨rfl, g1⟩
  have K1 := hide (K0.out.keep g1)
  have M1 := hide (M0.out.row (grown_rowK g1 _) hB hbh)
  clear g1
  obtain ⟨q0, q1, q2, q3, q4, q5, q6, q7⟩ := M1.out.n
  cases hf : fitsB p with
  | false =>
    have HF := hide (chk_fit (c := c) (r := r) (fun hh => by rw [(fitsB_is p).2 hh] at hf; cases hf))
    go_wp2
    go_ret
    exact ⟨false, _, _, rfl, K1.out, HF.out, M1.out.g⟩
  | true =>
    have HFi := hide ((fitsB_is p).1 hf)
    have HU1 := hide (takeUnits_any h v (.slice ka p.key.length kcap) p.key c r w1 K1.out B M1.out.k hB l1 hr)
    go_wp2_with fail
    refine HU1.out.mono ?_
    rintro e w2 ⟨rfl, k2', g2⟩
    have K2 := hide k2'
    have M2 := hide (M1.out.row g2 hB hbh)
    clear k2' g2 q0 q1 q2 q3 q4 q5 q6 q7
    obtain ⟨q0, q1, q2, q3, q4, q5, q6, q7⟩ := M2.out.n
    cases hq2 : (decide ((p.key.length : Int) ≤ r) && p.key.all isUn) with
    | false =>
      have HF := hide (chk_key (c := c) (r := r) HFi.out (fun hh => by rw [decide_eq_true hh.1, hh.2] at hq2; cases hq2))
      go_wp2
      go_ret
      exact ⟨false, _, _, rfl, K2.out, HF.out, M2.out.g⟩
    | true =>
      have hkey : (p.key.length : Int) ≤ r ∧ p.key.all isUn = true := by
        rw [Bool.and_eq_true, decide_eq_true_eq] at hq2; exact hq2
      have HKey := hide hkey
      obtain ⟨hke, _⟩ := hkey
      have HU2 := hide (takeUnits_any h v (.slice ua p.units.length ucap) p.units c (r - p.key.length) w2 K2.out B M2.out.u hB l2 (by omega))
      clear hq2
      go_wp2_with fail
      refine HU2.out.mono ?_
      rintro e w3 ⟨rfl, k3', g3⟩
      have K3 := hide k3'
      have M3 := hide (M2.out.row g3 hB hbh)
      clear k3' g3 q0 q1 q2 q3 q4 q5 q6 q7
      obtain ⟨q0, q1, q2, q3, q4, q5, q6, q7⟩ := M3.out.n
      cases hq3 : (decide ((p.units.length : Int) ≤ r - p.key.length) && p.units.all isUn) with
      | false =>
        have HF := hide (chk_units (c := c) (r := r) HFi.out HKey.out (fun hh => by rw [decide_eq_true hh.1, hh.2] at hq3; cases hq3))
        go_wp2
        go_ret
        exact ⟨false, _, _, rfl, K3.out, HF.out, M3.out.g⟩
      | true =>
        have huni : (p.units.length : Int) ≤ r - p.key.length ∧ p.units.all isUn = true := by
          rw [Bool.and_eq_true, decide_eq_true_eq] at hq3; exact hq3
        have HRest := hide (chk_rest (c := c) HFi.out HKey.out huni)
        obtain ⟨hue, _⟩ := huni
        have HT1 := hide (takeText_any h v xa p.text.length xcap c (r - p.key.length - p.units.length) w3 K3.out l3 (by omega))
        clear hq3
        go_wp2_with fail
        refine HT1.out.mono ?_
        rintro e w4 ⟨rfl, k4', g4⟩
        have K4 := hide k4'
        have M4 := hide (M3.out.row g4 hB hbh)
        clear k4' g4 q0 q1 q2 q3 q4 q5 q6 q7
        obtain ⟨q0, q1, q2, q3, q4, q5, q6, q7⟩ := M4.out.n
        by_cases hte : (p.text.length : Int) ≤ r - p.key.length - p.units.length
        · rw [decide_eq_true hte]
          have HR2 : Hid (chkP comI numI p (c, r) = if p.k = 3 ∧ numI p.text = false then none else (comP comI p.lead (c, r - p.key.length - p.units.length - p.text.length)).bind fun s' => comP comI p.tail s') := by
            unfold Hid; rw [HRest.out, if_neg (by omega)]
          have hr4 : 0 ≤ r - p.key.length - p.units.length - p.text.length ∧ r - p.key.length - p.units.length - p.text.length ≤ 1048576 := by omega
          clear HRest
          by_cases h3 : p.k = 3
          · have h3b : (p.k != 3) = false := by simpa using h3
            have HNu := hide (implIsNumber_any (.slice xa p.text.length xcap) p.text w4 (M4.out.t.wideC M4.out.x.s) SX.out HO.out.x.2 l3 M4.out.x.T)
            go_wp2_with fail
            refine HNu.out.mono ?_
            rintro e w5 ⟨rfl, g5⟩
            have K5 := hide (K4.out.keep g5)
            have M5 := hide (M4.out.row (grown_rowK g5 _) hB hbh)
            clear g5 q0 q1 q2 q3 q4 q5 q6 q7
            obtain ⟨q0, q1, q2, q3, q4, q5, q6, q7⟩ := M5.out.n
            cases hnu : numI p.text with
            | false =>
              have HF : Hid (chkP comI numI p (c, r) = none) := by unfold Hid; rw [HR2.out, if_pos ⟨h3, hnu⟩]
              go_wp2
              go_ret
              exact ⟨false, _, _, rfl, K5.out, HF.out, M5.out.g⟩
            | true =>
              have HR3 : Hid (chkP comI numI p (c, r) = (comP comI p.lead (c, r - p.key.length - p.units.length - p.text.length)).bind fun s' => comP comI p.tail s') := by
                unfold Hid; rw [HR2.out, if_neg (fun hh => by rw [hnu] at hh; cases hh.2)]
              clear hnu HR2
              have HC1 := hide (takeComments_any h v (.slice la p.lead.length lcap) p.lead c (r - p.key.length - p.units.length - p.text.length) m B w5 K5.out M5.out.x M5.out.l hB HO.out.l.1 HO.out.l.2 hr4 hc)
              go_wp2_with fail
              refine HC1.out.mono ?_
              rintro e w6 ⟨b6, c6, r6, rfl, k6', hp6, g6⟩
              have K6 := hide k6'
              have M6 := hide (M5.out.row g6 hB hbh)
              clear k6' g6 q0 q1 q2 q3 q4 q5 q6 q7
              obtain ⟨q0, q1, q2, q3, q4, q5, q6, q7⟩ := M6.out.n
              cases b6 with
              | false =>
                have HF : Hid (chkP comI numI p (c, r) = none) := by unfold Hid; rw [HR3.out, hp6]; rfl
                clear hp6
                go_wp2
                go_ret
                exact ⟨false, _, _, rfl, K6.out, HF.out, M6.out.g⟩
              | true =>
                simp only [if_true] at hp6
                have HR4 : Hid (chkP comI numI p (c, r) = comP comI p.tail (c6, r6)) := by unfold Hid; rw [HR3.out, hp6]; rfl
                have hb6 : (0 ≤ r6 ∧ r6 ≤ 1048576) ∧ (-1048576 ≤ c6 ∧ c6 ≤ 1048576) := by
                  rw [comP_is comI p.lead c _ hr4.1] at hp6
                  by_cases hh : (p.lead.length : Int) ≤ c ∧ p.lead.all comI = true ∧ sumC p.lead ≤ r - p.key.length - p.units.length - p.text.length
                  · rw [if_pos hh] at hp6
                    have hsn := sumC_nonneg p.lead
                    simp only [Option.some.injEq, Prod.mk.injEq] at hp6
                    omega
                  · rw [if_neg hh] at hp6; cases hp6
                have HC2 := hide (takeComments_any h v (.slice ta p.tail.length tcap) p.tail c6 r6 m B w6 K6.out M6.out.x M6.out.e hB HO.out.t.1 HO.out.t.2 hb6.1 hb6.2)
                clear hp6 HR3
                go_wp2_with fail
                refine HC2.out.mono ?_
                rintro e w7 ⟨b7, c7, r7, rfl, k7', hp7, g7⟩
                have HF : Hid (chkP comI numI p (c, r) = (if b7 then some (c7, r7) else none)) := by unfold Hid; rw [HR4.out, hp7]
                have K7 := hide k7'
                have M7 := hide (M6.out.row g7 hB hbh)
                clear k7' g7 hp7
                go_wp2
                go_ret
                exact ⟨b7, _, _, rfl, K7.out, HF.out, M7.out.g⟩
          · have h3b : (p.k != 3) = true := by simpa using h3
            have HR3 : Hid (chkP comI numI p (c, r) = (comP comI p.lead (c, r - p.key.length - p.units.length - p.text.length)).bind fun s' => comP comI p.tail s') := by
              unfold Hid; rw [HR2.out, if_neg (fun hh => h3 hh.1)]
            clear HR2
            have HC1 := hide (takeComments_any h v (.slice la p.lead.length lcap) p.lead c (r - p.key.length - p.units.length - p.text.length) m B w4 K4.out M4.out.x M4.out.l hB HO.out.l.1 HO.out.l.2 hr4 hc)
            go_wp2_with fail
            refine HC1.out.mono ?_
            rintro e w6 ⟨b6, c6, r6, rfl, k6', hp6, g6⟩
            have K6 := hide k6'
            have M6 := hide (M4.out.row g6 hB hbh)
            clear k6' g6 q0 q1 q2 q3 q4 q5 q6 q7
            obtain ⟨q0, q1, q2, q3, q4, q5, q6, q7⟩ := M6.out.n
            cases b6 with
            | false =>
              have HF : Hid (chkP comI numI p (c, r) = none) := by unfold Hid; rw [HR3.out, hp6]; rfl
              clear hp6
              go_wp2
              go_ret
              exact ⟨false, _, _, rfl, K6.out, HF.out, M6.out.g⟩
            | true =>
              simp only [if_true] at hp6
              have HR4 : Hid (chkP comI numI p (c, r) = comP comI p.tail (c6, r6)) := by unfold Hid; rw [HR3.out, hp6]; rfl
              have hb6 : (0 ≤ r6 ∧ r6 ≤ 1048576) ∧ (-1048576 ≤ c6 ∧ c6 ≤ 1048576) := by
                rw [comP_is comI p.lead c _ hr4.1] at hp6
                by_cases hh : (p.lead.length : Int) ≤ c ∧ p.lead.all comI = true ∧ sumC p.lead ≤ r - p.key.length - p.units.length - p.text.length
                · rw [if_pos hh] at hp6
                  have hsn := sumC_nonneg p.lead
                  simp only [Option.some.injEq, Prod.mk.injEq] at hp6
                  omega
                · rw [if_neg hh] at hp6; cases hp6
              have HC2 := hide (takeComments_any h v (.slice ta p.tail.length tcap) p.tail c6 r6 m B w6 K6.out M6.out.x M6.out.e hB HO.out.t.1 HO.out.t.2 hb6.1 hb6.2)
              clear hp6 HR3
              go_wp2_with fail
              refine HC2.out.mono ?_
              rintro e w7 ⟨b7, c7, r7, rfl, k7', hp7, g7⟩
              have HF : Hid (chkP comI numI p (c, r) = (if b7 then some (c7, r7) else none)) := by unfold Hid; rw [HR4.out, hp7]
              have K7 := hide k7'
              have M7 := hide (M6.out.row g7 hB hbh)
              clear k7' g7 hp7
              go_wp2
              go_ret
              exact ⟨b7, _, _, rfl, K7.out, HF.out, M7.out.g⟩
        · rw [decide_eq_false hte]
          have HF : Hid (chkP comI numI p (c, r) = none) := by unfold Hid; rw [HRest.out, if_pos (by omega)]
          go_wp2
          go_ret
          exact ⟨false, _, _, rfl, K4.out, HF.out, M4.out.g⟩

end Go.Proofs.YtalkhnhhaiigiaaGreatDoor

