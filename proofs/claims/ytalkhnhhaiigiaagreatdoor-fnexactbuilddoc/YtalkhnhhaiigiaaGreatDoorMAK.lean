import Derived.Handy
import Derived.Test.YtalkhnhhaiigiaaGreatDoorMAG
import Derived.Test.YtalkhnhhaiigiaaGreatDoorMAJ
namespace Go.Proofs.YtalkhnhhaiigiaaGreatDoor
open Go.RowKit

/-- The model's node, as it is asked. -/
def nodeB (p : Nod) : Bool :=
  decide (0 ≤ p.k ∧ p.k ≤ 6) && (p.lead.all comS && (p.tail.all comS && (p.key.all isUn && (p.units.all isUn && ((p.mem || decide (p.key = [])) && ((if p.k = 3 then numS p.text else decide (p.text = [])) && ((decide (p.k = 4) || decide (p.units = [])) && ((decide (5 ≤ p.k) || (decide (p.cnt = 0) && decide (p.tail = []))) && decide (0 ≤ p.cnt)))))))))
theorem nodeB_is (p : Nod) : nodeB p = true ↔ NodeOK comS numS p := by
  unfold nodeB NodeOK
  simp only [Bool.and_eq_true, Bool.or_eq_true, decide_eq_true_eq]
  constructor
  · rintro ⟨h1, h2, h3, h4, h5, h6, h7, h8, h9, h10⟩
    refine ⟨h1, h2, h3, h4, h5, h6, fun e => ?_, fun e => ?_, fun e => h8.resolve_left e, fun e => h9.resolve_left (by omega), h10⟩
    · rw [if_pos e] at h7; exact h7
    · rw [if_neg e] at h7; exact of_decide_eq_true h7
  · rintro ⟨h1, h2, h3, h4, h5, h6, h7, h8, h9, h10, h11⟩
    refine ⟨h1, h2, h3, h4, h5, h6, ?_, ?_, ?_, h11⟩
    · by_cases e : p.k = 3
      · rw [if_pos e]; exact h7 e
      · rw [if_neg e]; exact decide_eq_true (h8 e)
    · by_cases e : p.k = 4
      · exact .inl e
      · exact .inr (h9 e)
    · by_cases e : 5 ≤ p.k
      · exact .inl e
      · exact .inr (h10 (by omega))

theorem nodeB_true (p : Nod) (hr : 0 ≤ p.k ∧ p.k ≤ 6) (hL : p.lead.all comS = true) (hT : p.tail.all comS = true) (hK : p.key.all isUn = true) (hU : p.units.all isUn = true) (hm : p.mem = true ∨ p.key = []) (hx : p.k = 3 → numS p.text = true) (hx2 : p.k ≠ 3 → p.text = []) (hu : p.k ≠ 4 → p.units = []) (h5 : p.k < 5 → p.cnt = 0 ∧ p.tail = []) (hc : 0 ≤ p.cnt) : nodeB p = true :=
  (nodeB_is p).2 ⟨hr, hL, hT, hK, hU, hm, hx, hx2, hu, h5, hc⟩

/-- What is known of a node: no list too long, bytes. -/
structure NdOk (p : Nod) : Prop where
  l : p.lead.length ≤ 1048576 ∧ CsOk p.lead
  t : p.tail.length ≤ 1048576 ∧ CsOk p.tail
  k : p.key.length ≤ 1048576
  x : p.text.length ≤ 1048576 ∧ Bys p.text
  u : p.units.length ≤ 1048576

/-- A node's eight cells. -/
structure N8 (W : World) (b : Nat) (p : Nod) (lv kv xv uv tv : Value) : Prop where
  c0 : W.cell? ⟨b, 0, none⟩ = some (.int .i64 p.k)
  c1 : W.cell? ⟨b, 1, none⟩ = some lv
  c2 : W.cell? ⟨b, 2, none⟩ = some (.bool p.mem)
  c3 : W.cell? ⟨b, 3, none⟩ = some kv
  c4 : W.cell? ⟨b, 4, none⟩ = some xv
  c5 : W.cell? ⟨b, 5, none⟩ = some uv
  c6 : W.cell? ⟨b, 6, none⟩ = some (.int .i64 p.cnt)
  c7 : W.cell? ⟨b, 7, none⟩ = some tv
theorem N8.keep {W W' : World} {b : Nat} {p : Nod} {lv kv xv uv tv : Value} (h : N8 W b p lv kv xv uv tv) (g : W.grownBy W' none) : N8 W' b p lv kv xv uv tv :=
  ⟨g.cell h.c0 (by simp), g.cell h.c1 (by simp), g.cell h.c2 (by simp), g.cell h.c3 (by simp), g.cell h.c4 (by simp), g.cell h.c5 (by simp), g.cell h.c6 (by simp), g.cell h.c7 (by simp)⟩

set_option maxHeartbeats 8000000 in
set_option maxRecDepth 100000 in
theorem l5nodeOK_any (p : Nod) (lv kv xv uv tv : Value) (B : Nat) (w : World) (hB : B ≤ w.heap.size) (hl : RdC B w lv p.lead) (hk : RdI B w kv p.key) (sk : Sl kv p.key.length) (hx : RdB B w xv p.text) (sx : Sl xv p.text.length) (hu : RdI B w uv p.units) (su : Sl uv p.units.length) (ht : RdC B w tv p.tail) (ho : NdOk p) :
    Calls Tryz.prog 35 #[.agg #[.int .i64 p.k, lv, .bool p.mem, kv, xv, uv, .int .i64 p.cnt, tv]] w fun e w' => e = .returned (.bool (nodeB p)) ∧ w.grownBy w' none := by
  have HL := hide (fun (w' : World) (g : w.grownBy w' none) => l5commentsOK_any lv p.lead w' ((hl.keep g).wide (Nat.le_trans hB g.size)) ho.l.1 ho.l.2)
  have HT := hide (fun (w' : World) (g : w.grownBy w' none) => l5commentsOK_any tv p.tail w' ((ht.keep g).wide (Nat.le_trans hB g.size)) ho.t.1 ho.t.2)
  have HK := hide (fun (w' : World) (g : w.grownBy w' none) => l5unitsOK_any kv p.key w' ((hk.keep g).wideC (Nat.le_trans hB g.size)) (by have := ho.k; omega))
  have HU := hide (fun (w' : World) (g : w.grownBy w' none) => l5unitsOK_any uv p.units w' ((hu.keep g).wideC (Nat.le_trans hB g.size)) (by have := ho.u; omega))
  have HX := hide (fun (w' : World) (g : w.grownBy w' none) => specIsNumber_any xv p.text w' ((hx.keep g).wideC (Nat.le_trans hB g.size)) ho.x.2 ho.x.1)
  obtain ⟨la, lcap, hlv, _, _⟩ := hl.sl
  obtain ⟨ta, tcap, htv, _, _⟩ := ht.sl
  obtain ⟨ka, kcap, hkv, _, _⟩ := sk
  obtain ⟨xa, xcap, hxv, _, _⟩ := sx
  obtain ⟨ua, ucap, huv, _, _⟩ := su
  have l1 := ho.k; have l2 := ho.u; have l3 := ho.x.1; have l4 := ho.t.1
  subst hlv htv hkv hxv huv
  clear hl hk hx hu ht ho
  by_cases hr : 0 ≤ p.k ∧ p.k ≤ 6
  · obtain ⟨hr0, hr6⟩ := hr
    have G : Hid (w.grownBy (w.alloc (Obj.cells #[.int .i64 p.k, .slice la p.lead.length lcap, .bool p.mem, .slice ka p.key.length kcap, .slice xa p.text.length xcap, .slice ua p.units.length ucap, .int .i64 p.cnt, .slice ta p.tail.length tcap] 75)) none) := World.grownBy_alloc _ _ _
    have N8 : N8 (w.alloc (Obj.cells #[.int .i64 p.k, .slice la p.lead.length lcap, .bool p.mem, .slice ka p.key.length kcap, .slice xa p.text.length xcap, .slice ua p.units.length ucap, .int .i64 p.cnt, .slice ta p.tail.length tcap] 75)) w.heap.size p (.slice la p.lead.length lcap) (.slice ka p.key.length kcap) (.slice xa p.text.length xcap) (.slice ua p.units.length ucap) (.slice ta p.tail.length tcap) :=
      ⟨by simp [go_sem], by simp [go_sem], by simp [go_sem], by simp [go_sem], by simp [go_sem], by simp [go_sem], by simp [go_sem], by simp [go_sem]⟩
    go_enter Tryz.func35, Tryz.ntmps35
    go_wp2_with fail
    refine (HL.out _ G.out).mono ?_
    rintro e w1 ⟨rfl, g1⟩
    have N8 := N8.keep g1
    obtain ⟨q0, q1, q2, q3, q4, q5, q6, q7⟩ := id N8
    have G := hide (grown_trans G.out g1)
    clear g1
    cases hL : p.lead.all comS with
    | false =>
      have HF : Hid (nodeB p = false) := by unfold Hid nodeB; simp [hL]
      go_wp2
      go_ret
      exact ⟨by rw [HF.out]; first | rfl | simp [HF.out], G.out⟩
    | true =>
      go_wp2_with fail
      refine (HT.out _ G.out).mono ?_
      rintro e w2 ⟨rfl, g2⟩
      have N8 := N8.keep g2
      obtain ⟨q0, q1, q2, q3, q4, q5, q6, q7⟩ := id N8
      have G := hide (grown_trans G.out g2)
      clear g2
      cases hT : p.tail.all comS with
      | false =>
        have HF : Hid (nodeB p = false) := by unfold Hid nodeB; simp [hT]
        go_wp2
        go_ret
        exact ⟨by rw [HF.out]; first | rfl | simp [HF.out], G.out⟩
      | true =>
        go_wp2_with fail
        refine (HK.out _ G.out).mono ?_
        rintro e w3 ⟨rfl, g3⟩
        have N8 := N8.keep g3
        obtain ⟨q0, q1, q2, q3, q4, q5, q6, q7⟩ := id N8
        have G := hide (grown_trans G.out g3)
        clear g3
        cases hK : p.key.all isUn with
        | false =>
          have HF : Hid (nodeB p = false) := by unfold Hid nodeB; simp [hK]
          go_wp2
          go_ret
          exact ⟨by rw [HF.out]; first | rfl | simp [HF.out], G.out⟩
        | true =>
          go_wp2_with fail
          refine (HU.out _ G.out).mono ?_
          rintro e w4 ⟨rfl, g4⟩
          have N8 := N8.keep g4
          obtain ⟨q0, q1, q2, q3, q4, q5, q6, q7⟩ := id N8
          have G := hide (grown_trans G.out g4)
          clear g4
          cases hU : p.units.all isUn with
          | false =>
            have HF : Hid (nodeB p = false) := by unfold Hid nodeB; simp [hU]
            go_wp2
            go_ret
            exact ⟨by rw [HF.out]; first | rfl | simp [HF.out], G.out⟩
          | true =>
            cases hm : p.mem with
            | true =>
              by_cases h3 : p.k = 3
              · have h3b : (p.k == 3) = true := by simpa using h3
                go_wp2_with fail
                refine (HX.out _ G.out).mono ?_
                rintro e w9 ⟨rfl, rfl⟩
                cases hX : numS p.text with
                | false =>
                  have HF : Hid (nodeB p = false) := by unfold Hid nodeB; simp [h3, hX]
                  go_wp2
                  go_ret
                  exact ⟨by rw [HF.out]; first | rfl | simp [HF.out], G.out⟩
                | true =>
                  have h4b : (p.k != 4) = true := by rw [h3]; rfl
                  have h4 : ¬ p.k = 4 := by omega
                  by_cases hu0 : p.units = []
                  · have hul : (p.units.length : Int) = 0 := by rw [hu0]; rfl
                    have h5 : p.k < 5 := by omega
                    · have h5c : ¬ 5 ≤ p.k := by omega
                      by_cases hc0 : p.cnt = 0
                      · have hcb : (p.cnt != 0) = false := by simpa using hc0
                        by_cases ht0 : p.tail = []
                        · have htl : (p.tail.length : Int) = 0 := by rw [ht0]; rfl
                          have HF : Hid (nodeB p = true) := nodeB_true p ⟨hr0, hr6⟩ hL hT hK hU (by first | exact .inl hm | exact .inr hk0) (by intro e; first | exact hX | omega) (by intro e; first | exact hx0 | exact absurd h3 e) (by intro e; first | exact hu0 | exact absurd h4 e) (by intro e; first | exact ⟨hc0, ht0⟩ | omega) (by first | exact hc0 | omega)
                          go_wp2
                          go_ret
                          exact ⟨by rw [HF.out]; first | rfl | simp [HF.out], G.out⟩
                        · have htl : ¬ (p.tail.length : Int) = 0 := fun h => ht0 (List.eq_nil_of_length_eq_zero (by omega))
                          have HF : Hid (nodeB p = false) := by unfold Hid nodeB; simp [h5c, ht0]
                          go_wp2
                          go_ret
                          exact ⟨by rw [HF.out]; first | rfl | simp [HF.out], G.out⟩
                      · have hcb : (p.cnt != 0) = true := by simpa using hc0
                        have HF : Hid (nodeB p = false) := by unfold Hid nodeB; simp [h5c, hc0]
                        go_wp2
                        go_ret
                        exact ⟨by rw [HF.out]; first | rfl | simp [HF.out], G.out⟩
                  · have hul : ¬ (p.units.length : Int) = 0 := fun h => hu0 (List.eq_nil_of_length_eq_zero (by omega))
                    have HF : Hid (nodeB p = false) := by unfold Hid nodeB; simp [h4, hu0]
                    go_wp2
                    go_ret
                    exact ⟨by rw [HF.out]; first | rfl | simp [HF.out], G.out⟩
              · have h3b : (p.k == 3) = false := by simpa using h3
                by_cases hx0 : p.text = []
                · have hxl : (p.text.length : Int) = 0 := by rw [hx0]; rfl
                  by_cases h4 : p.k = 4
                  · have h4b : (p.k != 4) = false := by simpa using h4
                    have h5 : p.k < 5 := by omega
                    · have h5c : ¬ 5 ≤ p.k := by omega
                      by_cases hc0 : p.cnt = 0
                      · have hcb : (p.cnt != 0) = false := by simpa using hc0
                        by_cases ht0 : p.tail = []
                        · have htl : (p.tail.length : Int) = 0 := by rw [ht0]; rfl
                          have HF : Hid (nodeB p = true) := nodeB_true p ⟨hr0, hr6⟩ hL hT hK hU (by first | exact .inl hm | exact .inr hk0) (by intro e; first | exact hX | omega) (by intro e; first | exact hx0 | exact absurd h3 e) (by intro e; first | exact hu0 | exact absurd h4 e) (by intro e; first | exact ⟨hc0, ht0⟩ | omega) (by first | exact hc0 | omega)
                          go_wp2
                          go_ret
                          exact ⟨by rw [HF.out]; first | rfl | simp [HF.out], G.out⟩
                        · have htl : ¬ (p.tail.length : Int) = 0 := fun h => ht0 (List.eq_nil_of_length_eq_zero (by omega))
                          have HF : Hid (nodeB p = false) := by unfold Hid nodeB; simp [h5c, ht0]
                          go_wp2
                          go_ret
                          exact ⟨by rw [HF.out]; first | rfl | simp [HF.out], G.out⟩
                      · have hcb : (p.cnt != 0) = true := by simpa using hc0
                        have HF : Hid (nodeB p = false) := by unfold Hid nodeB; simp [h5c, hc0]
                        go_wp2
                        go_ret
                        exact ⟨by rw [HF.out]; first | rfl | simp [HF.out], G.out⟩
                  · have h4b : (p.k != 4) = true := by simpa using h4
                    by_cases hu0 : p.units = []
                    · have hul : (p.units.length : Int) = 0 := by rw [hu0]; rfl
                      by_cases h5 : p.k < 5
                      · have h5c : ¬ 5 ≤ p.k := by omega
                        by_cases hc0 : p.cnt = 0
                        · have hcb : (p.cnt != 0) = false := by simpa using hc0
                          by_cases ht0 : p.tail = []
                          · have htl : (p.tail.length : Int) = 0 := by rw [ht0]; rfl
                            have HF : Hid (nodeB p = true) := nodeB_true p ⟨hr0, hr6⟩ hL hT hK hU (by first | exact .inl hm | exact .inr hk0) (by intro e; first | exact hX | omega) (by intro e; first | exact hx0 | exact absurd h3 e) (by intro e; first | exact hu0 | exact absurd h4 e) (by intro e; first | exact ⟨hc0, ht0⟩ | omega) (by first | exact hc0 | omega)
                            go_wp2
                            go_ret
                            exact ⟨by rw [HF.out]; first | rfl | simp [HF.out], G.out⟩
                          · have htl : ¬ (p.tail.length : Int) = 0 := fun h => ht0 (List.eq_nil_of_length_eq_zero (by omega))
                            have HF : Hid (nodeB p = false) := by unfold Hid nodeB; simp [h5c, ht0]
                            go_wp2
                            go_ret
                            exact ⟨by rw [HF.out]; first | rfl | simp [HF.out], G.out⟩
                        · have hcb : (p.cnt != 0) = true := by simpa using hc0
                          have HF : Hid (nodeB p = false) := by unfold Hid nodeB; simp [h5c, hc0]
                          go_wp2
                          go_ret
                          exact ⟨by rw [HF.out]; first | rfl | simp [HF.out], G.out⟩
                      · have h5c : 5 ≤ p.k := by omega
                        by_cases hc0 : 0 ≤ p.cnt
                        · have hcz : ¬ p.cnt < 0 := by omega
                          have HF : Hid (nodeB p = true) := nodeB_true p ⟨hr0, hr6⟩ hL hT hK hU (by first | exact .inl hm | exact .inr hk0) (by intro e; first | exact hX | omega) (by intro e; first | exact hx0 | exact absurd h3 e) (by intro e; first | exact hu0 | exact absurd h4 e) (by intro e; first | exact ⟨hc0, ht0⟩ | omega) (by first | exact hc0 | omega)
                          go_wp2
                          go_ret
                          exact ⟨by rw [HF.out]; first | rfl | simp [hc0], G.out⟩
                        · have hcz : p.cnt < 0 := by omega
                          have HF : Hid (nodeB p = false) := by unfold Hid nodeB; simp [hc0]
                          go_wp2
                          go_ret
                          exact ⟨by rw [HF.out]; first | rfl | simp [hc0], G.out⟩
                    · have hul : ¬ (p.units.length : Int) = 0 := fun h => hu0 (List.eq_nil_of_length_eq_zero (by omega))
                      have HF : Hid (nodeB p = false) := by unfold Hid nodeB; simp [h4, hu0]
                      go_wp2
                      go_ret
                      exact ⟨by rw [HF.out]; first | rfl | simp [HF.out], G.out⟩
                · have hxl : ¬ (p.text.length : Int) = 0 := fun h => hx0 (List.eq_nil_of_length_eq_zero (by omega))
                  have HF : Hid (nodeB p = false) := by unfold Hid nodeB; simp [h3, hx0]
                  go_wp2
                  go_ret
                  exact ⟨by rw [HF.out]; first | rfl | simp [HF.out], G.out⟩
            | false =>
              by_cases hk0 : p.key = []
              · have hkl : (p.key.length : Int) = 0 := by rw [hk0]; rfl
                by_cases h3 : p.k = 3
                · have h3b : (p.k == 3) = true := by simpa using h3
                  go_wp2_with fail
                  refine (HX.out _ G.out).mono ?_
                  rintro e w9 ⟨rfl, rfl⟩
                  cases hX : numS p.text with
                  | false =>
                    have HF : Hid (nodeB p = false) := by unfold Hid nodeB; simp [h3, hX]
                    go_wp2
                    go_ret
                    exact ⟨by rw [HF.out]; first | rfl | simp [HF.out], G.out⟩
                  | true =>
                    have h4b : (p.k != 4) = true := by rw [h3]; rfl
                    have h4 : ¬ p.k = 4 := by omega
                    by_cases hu0 : p.units = []
                    · have hul : (p.units.length : Int) = 0 := by rw [hu0]; rfl
                      have h5 : p.k < 5 := by omega
                      · have h5c : ¬ 5 ≤ p.k := by omega
                        by_cases hc0 : p.cnt = 0
                        · have hcb : (p.cnt != 0) = false := by simpa using hc0
                          by_cases ht0 : p.tail = []
                          · have htl : (p.tail.length : Int) = 0 := by rw [ht0]; rfl
                            have HF : Hid (nodeB p = true) := nodeB_true p ⟨hr0, hr6⟩ hL hT hK hU (by first | exact .inl hm | exact .inr hk0) (by intro e; first | exact hX | omega) (by intro e; first | exact hx0 | exact absurd h3 e) (by intro e; first | exact hu0 | exact absurd h4 e) (by intro e; first | exact ⟨hc0, ht0⟩ | omega) (by first | exact hc0 | omega)
                            go_wp2
                            go_ret
                            exact ⟨by rw [HF.out]; first | rfl | simp [HF.out], G.out⟩
                          · have htl : ¬ (p.tail.length : Int) = 0 := fun h => ht0 (List.eq_nil_of_length_eq_zero (by omega))
                            have HF : Hid (nodeB p = false) := by unfold Hid nodeB; simp [h5c, ht0]
                            go_wp2
                            go_ret
                            exact ⟨by rw [HF.out]; first | rfl | simp [HF.out], G.out⟩
                        · have hcb : (p.cnt != 0) = true := by simpa using hc0
                          have HF : Hid (nodeB p = false) := by unfold Hid nodeB; simp [h5c, hc0]
                          go_wp2
                          go_ret
                          exact ⟨by rw [HF.out]; first | rfl | simp [HF.out], G.out⟩
                    · have hul : ¬ (p.units.length : Int) = 0 := fun h => hu0 (List.eq_nil_of_length_eq_zero (by omega))
                      have HF : Hid (nodeB p = false) := by unfold Hid nodeB; simp [h4, hu0]
                      go_wp2
                      go_ret
                      exact ⟨by rw [HF.out]; first | rfl | simp [HF.out], G.out⟩
                · have h3b : (p.k == 3) = false := by simpa using h3
                  by_cases hx0 : p.text = []
                  · have hxl : (p.text.length : Int) = 0 := by rw [hx0]; rfl
                    by_cases h4 : p.k = 4
                    · have h4b : (p.k != 4) = false := by simpa using h4
                      have h5 : p.k < 5 := by omega
                      · have h5c : ¬ 5 ≤ p.k := by omega
                        by_cases hc0 : p.cnt = 0
                        · have hcb : (p.cnt != 0) = false := by simpa using hc0
                          by_cases ht0 : p.tail = []
                          · have htl : (p.tail.length : Int) = 0 := by rw [ht0]; rfl
                            have HF : Hid (nodeB p = true) := nodeB_true p ⟨hr0, hr6⟩ hL hT hK hU (by first | exact .inl hm | exact .inr hk0) (by intro e; first | exact hX | omega) (by intro e; first | exact hx0 | exact absurd h3 e) (by intro e; first | exact hu0 | exact absurd h4 e) (by intro e; first | exact ⟨hc0, ht0⟩ | omega) (by first | exact hc0 | omega)
                            go_wp2
                            go_ret
                            exact ⟨by rw [HF.out]; first | rfl | simp [HF.out], G.out⟩
                          · have htl : ¬ (p.tail.length : Int) = 0 := fun h => ht0 (List.eq_nil_of_length_eq_zero (by omega))
                            have HF : Hid (nodeB p = false) := by unfold Hid nodeB; simp [h5c, ht0]
                            go_wp2
                            go_ret
                            exact ⟨by rw [HF.out]; first | rfl | simp [HF.out], G.out⟩
                        · have hcb : (p.cnt != 0) = true := by simpa using hc0
                          have HF : Hid (nodeB p = false) := by unfold Hid nodeB; simp [h5c, hc0]
                          go_wp2
                          go_ret
                          exact ⟨by rw [HF.out]; first | rfl | simp [HF.out], G.out⟩
                    · have h4b : (p.k != 4) = true := by simpa using h4
                      by_cases hu0 : p.units = []
                      · have hul : (p.units.length : Int) = 0 := by rw [hu0]; rfl
                        by_cases h5 : p.k < 5
                        · have h5c : ¬ 5 ≤ p.k := by omega
                          by_cases hc0 : p.cnt = 0
                          · have hcb : (p.cnt != 0) = false := by simpa using hc0
                            by_cases ht0 : p.tail = []
                            · have htl : (p.tail.length : Int) = 0 := by rw [ht0]; rfl
                              have HF : Hid (nodeB p = true) := nodeB_true p ⟨hr0, hr6⟩ hL hT hK hU (by first | exact .inl hm | exact .inr hk0) (by intro e; first | exact hX | omega) (by intro e; first | exact hx0 | exact absurd h3 e) (by intro e; first | exact hu0 | exact absurd h4 e) (by intro e; first | exact ⟨hc0, ht0⟩ | omega) (by first | exact hc0 | omega)
                              go_wp2
                              go_ret
                              exact ⟨by rw [HF.out]; first | rfl | simp [HF.out], G.out⟩
                            · have htl : ¬ (p.tail.length : Int) = 0 := fun h => ht0 (List.eq_nil_of_length_eq_zero (by omega))
                              have HF : Hid (nodeB p = false) := by unfold Hid nodeB; simp [h5c, ht0]
                              go_wp2
                              go_ret
                              exact ⟨by rw [HF.out]; first | rfl | simp [HF.out], G.out⟩
                          · have hcb : (p.cnt != 0) = true := by simpa using hc0
                            have HF : Hid (nodeB p = false) := by unfold Hid nodeB; simp [h5c, hc0]
                            go_wp2
                            go_ret
                            exact ⟨by rw [HF.out]; first | rfl | simp [HF.out], G.out⟩
                        · have h5c : 5 ≤ p.k := by omega
                          by_cases hc0 : 0 ≤ p.cnt
                          · have hcz : ¬ p.cnt < 0 := by omega
                            have HF : Hid (nodeB p = true) := nodeB_true p ⟨hr0, hr6⟩ hL hT hK hU (by first | exact .inl hm | exact .inr hk0) (by intro e; first | exact hX | omega) (by intro e; first | exact hx0 | exact absurd h3 e) (by intro e; first | exact hu0 | exact absurd h4 e) (by intro e; first | exact ⟨hc0, ht0⟩ | omega) (by first | exact hc0 | omega)
                            go_wp2
                            go_ret
                            exact ⟨by rw [HF.out]; first | rfl | simp [hc0], G.out⟩
                          · have hcz : p.cnt < 0 := by omega
                            have HF : Hid (nodeB p = false) := by unfold Hid nodeB; simp [hc0]
                            go_wp2
                            go_ret
                            exact ⟨by rw [HF.out]; first | rfl | simp [hc0], G.out⟩
                      · have hul : ¬ (p.units.length : Int) = 0 := fun h => hu0 (List.eq_nil_of_length_eq_zero (by omega))
                        have HF : Hid (nodeB p = false) := by unfold Hid nodeB; simp [h4, hu0]
                        go_wp2
                        go_ret
                        exact ⟨by rw [HF.out]; first | rfl | simp [HF.out], G.out⟩
                  · have hxl : ¬ (p.text.length : Int) = 0 := fun h => hx0 (List.eq_nil_of_length_eq_zero (by omega))
                    have HF : Hid (nodeB p = false) := by unfold Hid nodeB; simp [h3, hx0]
                    go_wp2
                    go_ret
                    exact ⟨by rw [HF.out]; first | rfl | simp [HF.out], G.out⟩
              · have hkl : ¬ (p.key.length : Int) = 0 := fun h => hk0 (List.eq_nil_of_length_eq_zero (by omega))
                have HF : Hid (nodeB p = false) := by unfold Hid nodeB; simp [hm, hk0]
                go_wp2
                go_ret
                exact ⟨by rw [HF.out]; first | rfl | simp [HF.out], G.out⟩
  · have HF : Hid (nodeB p = false) := by unfold Hid nodeB; rw [decide_eq_false hr]; rfl
    by_cases h0 : p.k < 0
    · go_enter Tryz.func35, Tryz.ntmps35
      go_wp2
      go_ret
      exact ⟨by rw [HF.out]; rfl, World.grownBy_alloc _ _ _⟩
    · have h6 : 6 < p.k := by omega
      go_enter Tryz.func35, Tryz.ntmps35
      go_wp2
      go_ret
      exact ⟨by rw [HF.out]; rfl, World.grownBy_alloc _ _ _⟩

end Go.Proofs.YtalkhnhhaiigiaaGreatDoor

