import Derived.Lib.SlBytesConst
import Derived.Test.YtalkhnhhaiigiaaGreatDoorMAJ
import Derived.Test.YtalkhnhhaiigiaaGreatDoorMAL
namespace Go.Proofs.YtalkhnhhaiigiaaGreatDoor
open Go.RowKit Go.Shelf
attribute [local go_sem] Oper.semAt_some

theorem cell_new1 (W : World) (v : Value) (t : TypeId) : (W.alloc (.cells #[v] t)).cell? ⟨W.heap.size, 0, none⟩ = some v ∧ (W.alloc (.cells #[v] t)).frozen? ⟨W.heap.size, 0, none⟩ = false :=
  ⟨(Boxed.new W t v).cell, (Boxed.new W t v).frozen⟩

set_option maxHeartbeats 1000000 in
theorem isInLine_any (p : Int) (w : World) : Calls Tryz.prog 104 #[.int .i32 p] w fun e w' => e = .returned (.bool (!lnE p)) ∧ w = w' := by
  by_cases h1 : p = 10
  · subst h1
    go_enter Tryz.func104, Tryz.ntmps104
    go_wp2
    go_ret
    exact ⟨rfl, rfl⟩
  · have e1 : (p != 10) = true := by simpa using h1
    by_cases h2 : p = 13
    · subst h2
      go_enter Tryz.func104, Tryz.ntmps104
      go_wp2
      go_ret
      exact ⟨rfl, rfl⟩
    · have e2 : (p != 13) = true := by simpa using h2
      by_cases h3 : p = 8232
      · subst h3
        go_enter Tryz.func104, Tryz.ntmps104
        go_wp2
        go_ret
        exact ⟨rfl, rfl⟩
      · have e3 : (p != 8232) = true := by simpa using h3
        by_cases h4 : p = 8233
        · subst h4
          go_enter Tryz.func104, Tryz.ntmps104
          go_wp2
          go_ret
          exact ⟨rfl, rfl⟩
        · have HF : Hid (lnE p = false) := by unfold Hid lnE; simp [h1, h2, h3, h4]
          have e4 : (p != 8233) = true := by simpa using h4
          go_enter Tryz.func104, Tryz.ntmps104
          go_wp2
          go_ret
          exact ⟨by rw [HF.out]; first | rfl | simp [h4], rfl⟩

/-- A point of a comment is in order. -/
def okP (b : Bool) (p : Int) : Bool := !decide (p = -1) && (!lnE p || (b && decide (p = 10)))
/-- The program's comment. -/
def comI (c : Cm) : Bool := (seqR c.t).all (fun x => okP c.b x.2) && (!c.b || !hasSE c.t)

set_option maxRecDepth 100000 in
set_option maxHeartbeats 4000000 in
theorem isComment_in (n : Nat) (hn : 3 ≤ n) (v : Value) (c : Cm) (m : Int) (w : World) (hv : RdB w.heap.size w v c.t) (hby : Bys c.t) (hm : c.t.length ≤ 1048576) (hs : Sl v c.t.length) (hT : Tab w) (hM : w.cell? ⟨1, 0, none⟩ = some (.int .i64 m)) :
    CallsIn Fence.wide n Tryz.prog 79 #[.agg #[.bool c.b, v]] w fun e w' => e = .returned (.bool (comI c)) ∧ Below w.heap.size w w' := by
  have h1 : 1 ≤ n := by omega
  have hs' := hs
  obtain ⟨a, cap, rfl, hlc, hcm⟩ := hs'
  have hpos := hT.pos
  refine callsIn_of_wp_marks Tryz.func79 rfl trivial ?_ rfl
  simp only [Tryz.ntmps79, List.size_toArray, List.length_cons, List.length_nil, Nat.reduceAdd, Nat.reduceSub, Array.replicate_succ, Array.replicate_zero, List.push_toArray, List.append_toArray, List.nil_append, List.cons_append]
  gi_wp2_with fail
  refine ⟨trivial, (pointsOf_in (n - 1) _ _ _ _).mono ?_⟩
  rintro e w' ⟨rfl, rfl⟩
  gi_wp2_with fail
  obtain ⟨W0, hW0⟩ : ∃ W0, W0 = ((w.alloc (.cells #[.bool c.b, .slice a c.t.length cap] 83)).alloc (.cells #[.bool false] 4)).alloc (.cells #[.slice a c.t.length cap] 57) := ⟨_, rfl⟩
  have hB0 : Below w.heap.size w W0 := by rw [hW0]; exact (((Below.refl _ w).alloc (Nat.le_refl _) _).alloc (by simp) _).alloc (by simp; omega) _
  have d0 : W0.cell? ⟨w.heap.size, 0, none⟩ = some (.bool c.b) := by rw [hW0]; simp [go_sem]
  have d1 : W0.cell? ⟨w.heap.size, 1, none⟩ = some (.slice a c.t.length cap) := by rw [hW0]; simp [go_sem]
  have d2 : W0.cell? ⟨w.heap.size + 1, 0, none⟩ = some (.bool false) := by rw [hW0]; simp [go_sem]
  have d3 : W0.frozen? ⟨w.heap.size + 1, 0, none⟩ = false := by rw [hW0]; simp [go_sem]
  have bx : Boxed W0 (w.heap.size + 1 + 1) 57 (.slice a c.t.length cap) := by
    have := Boxed.new ((w.alloc (.cells #[.bool c.b, .slice a c.t.length cap] 83)).alloc (.cells #[.bool false] 4)) 57 (.slice a c.t.length cap)
    simp only [World.size_alloc] at this
    rw [hW0]; exact this
  have hsz0 : W0.heap.size = w.heap.size + 3 := by rw [hW0]; simp
  rw [← hW0]
  clear hW0
  refine wpIn_rangeFunc_ownF rfl h1 (gf := 122) (lb := #[.pointer (some ⟨w.heap.size + 1 + 1, 0, none⟩)]) rfl trivial (enters_of Tryz.func122 (by kernel_rfl) rfl)
    (pointsOf_stops (n - 1) (by omega) (w.heap.size + 1 + 1) w.heap.size _ c.t _ hby (by omega) hs bx (by omega) (hv.below hB0) (hT.below hB0 hpos) hpos) kpB_t (kpB_b (by omega) (by omega)) (Below.refl _ _) (fun _ => rfl)
    (fun (pre : List (Int × Int)) W => ((∀ x ∈ pre, okP c.b x.2 = true) ∧ W.cell? ⟨w.heap.size, 0, none⟩ = some (.bool c.b) ∧ W.cell? ⟨w.heap.size, 1, none⟩ = some (.slice a c.t.length cap) ∧ W.cell? ⟨w.heap.size + 1, 0, none⟩ = some (.bool false) ∧ W.frozen? ⟨w.heap.size + 1, 0, none⟩ = false) ∧ Below w.heap.size w W)
    (fun k (pre : List (Int × Int)) W => (k = .ret ∧ (∃ (q : List (Int × Int)) (x : Int × Int), pre = q ++ [x] ∧ okP c.b x.2 = false) ∧ W.cell? ⟨w.heap.size + 1, 0, none⟩ = some (.bool false)) ∧ Below w.heap.size w W)
    (OwnFrom.and (Own.from (fun s A B row hs hg hr => ⟨hs.1, cell_kept hs.2.1 hg hr, cell_kept hs.2.2.1 hg hr, cell_kept hs.2.2.2.1 hg hr, (frozen_kept hs.2.2.2.1 hg hr).trans hs.2.2.2.2⟩) _) (ownFrom_below (Nat.le_refl _) (by omega)))
    (fun c => OwnFrom.and (Own.from (fun s A B row hs hg hr => ⟨hs.1, hs.2.1, cell_kept hs.2.2 hg hr⟩) _) (ownFrom_below (Nat.le_refl _) (by omega)))
    ⟨⟨by simp, d0, d1, d2, d3⟩, hB0⟩
    (fun x => { tmps := #[.agg #[.bool c.b, .slice a c.t.length cap], .pointer (some ⟨w.heap.size, 0, none⟩), .pointer (some ⟨w.heap.size + 1, 0, none⟩), undef, .int .i32 x.2, .pointer (some ⟨w.heap.size, 1, none⟩), .slice a c.t.length cap, .func (.func 122) #[] #[.pointer (some ⟨w.heap.size + 1 + 1, 0, none⟩)], .int .i64 x.1, .int .i32 x.2, undef, undef, undef, undef, undef, undef, undef, undef, undef, undef, undef, undef, undef, undef, undef, undef, undef, undef, undef, undef, undef, undef, undef, undef, undef, undef, undef], defers := [] }) ?assign ?body ?done ?stop
  case assign =>
    intro l x W K hK
    gi_wp2
    exact hK
  case body =>
    rintro l pre x W ⟨⟨hall, hcb, hct, hcr, hfr⟩, hB⟩ hlt
    have HL := hide (fun w => isInLine_any x.2 w)
    have hcb' := hcb
    have app : okP c.b x.2 = true → Hid (∀ y ∈ pre ++ [x], okP c.b y.2 = true) := fun h y hy => by
      rcases List.mem_append.1 hy with h' | h'
      · exact hall y h'
      · simp at h'; subst h'; exact h
    by_cases hx : x.2 = -1
    · have HX : Hid (okP c.b x.2 = false) := by unfold Hid okP; simp [hx]
      have hxb : (x.2 == -1) = true := by simp [hx]
      clear app hx
      gi_wp2
      refine ⟨trivial, ?_⟩
      gi_wp2
      exact ⟨KeepsOthers.setCell _ _ _, ⟨rfl, ⟨pre, x, rfl, HX.out⟩, World.cell?_setCell_same' _ _ _ (by rw [hcr]; rfl)⟩, hB.setCell (p := ⟨w.heap.size + 1, 0, none⟩) (by simp) _⟩
    · have hxb : (x.2 == -1) = false := by simpa using hx
      cases hl : lnE x.2 with
      | false =>
        rw [hl] at HL
        have HY := app (by unfold okP; rw [hl]; simp [hx])
        clear app hx hl
        gi_wp2_with fail
        refine ⟨trivial, fun h => (by cases h), (CallsIn.inRound l (callsIn_wide.2 (HL.out _))).mono ?_⟩
        rintro e W1 ⟨rfl, rfl⟩
        gi_wp2
        exact ⟨KeepsOthers.refl _, ⟨Below.refl _ _, rfl⟩, ⟨HY.out, hcb', hct, hcr, hfr⟩, hB⟩
      | true =>
        rw [hl] at HL
        by_cases hb : c.b = true
        · by_cases h10 : x.2 = 10
          · have HY := app (by unfold okP; rw [hb]; simp [h10])
            have h10b : (x.2 == 10) = true := by simp [h10]
            rw [hb] at hcb
            clear app hx hl hb h10
            gi_wp2_with fail
            refine ⟨trivial, fun h => (by cases h), (CallsIn.inRound l (callsIn_wide.2 (HL.out _))).mono ?_⟩
            rintro e W1 ⟨rfl, rfl⟩
            gi_wp2
            exact ⟨KeepsOthers.refl _, ⟨Below.refl _ _, rfl⟩, ⟨HY.out, hcb', hct, hcr, hfr⟩, hB⟩
          · have HX : Hid (okP c.b x.2 = false) := by unfold Hid okP; rw [hl]; simp [h10]
            have h10b : (x.2 == 10) = false := by simpa using h10
            rw [hb] at hcb
            clear app hx hl hb h10
            gi_wp2_with fail
            refine ⟨trivial, fun h => (by cases h), (CallsIn.inRound l (callsIn_wide.2 (HL.out _))).mono ?_⟩
            rintro e W1 ⟨rfl, rfl⟩
            gi_wp2
            exact ⟨KeepsOthers.setCell _ _ _, ⟨rfl, ⟨pre, x, rfl, HX.out⟩, World.cell?_setCell_same' _ _ _ (by rw [hcr]; rfl)⟩, hB.setCell (p := ⟨w.heap.size + 1, 0, none⟩) (by simp) _⟩
        · have hbf : c.b = false := by simpa using hb
          have HX : Hid (okP c.b x.2 = false) := by unfold Hid okP; rw [hl, hbf]; simp
          rw [hbf] at hcb
          clear app hx hl hb hbf
          gi_wp2_with fail
          refine ⟨trivial, fun h => (by cases h), (CallsIn.inRound l (callsIn_wide.2 (HL.out _))).mono ?_⟩
          rintro e W1 ⟨rfl, rfl⟩
          gi_wp2
          exact ⟨KeepsOthers.setCell _ _ _, ⟨rfl, ⟨pre, x, rfl, HX.out⟩, World.cell?_setCell_same' _ _ _ (by rw [hcr]; rfl)⟩, hB.setCell (p := ⟨w.heap.size + 1, 0, none⟩) (by simp) _⟩
  case done =>
    rintro D ys W hD rfl ⟨⟨hall, hcb, hct, hcr, hfr⟩, hB⟩ hK
    have hallB : (seqR c.t).all (fun x => okP c.b x.2) = true := List.all_eq_true.2 hall
    by_cases hb : c.b = false
    · have HW : Hid (comI c = true) := by unfold Hid comI; rw [hallB, hb]; rfl
      rw [hb] at hcb
      clear hall hallB hb
      gi_wp2
      refine ⟨trivial, ?_⟩
      gi_wp2
      have hK' := (KeepsOthers.setCell W ⟨w.heap.size + 1, 0, none⟩ (.bool true)).same D _ hK rfl
      refine ⟨by simp, .inl ⟨_, _, rfl, run_takeDeferred hK', ?_⟩⟩
      have hc5 := cell_kept (World.cell?_setCell_same' W ⟨w.heap.size + 1, 0, none⟩ (.bool true) (by rw [hcr]; rfl)) (grownBy_putObj' _ D (.deferred none)) (fun r e => by cases e; exact ⟨_, hK', rfl⟩)
      refine ⟨.bool true, ?_, by rw [HW.out], (hB.setCell (p := ⟨w.heap.size + 1, 0, none⟩) (by simp) _).trans (belowK_b (w := w) (Nat.le_refl _) _ D _ _ (by omega) hK' rfl rfl)⟩
      simp [results, Tryz.f79, go_sem, hc5]
    · have hbt : c.b = true := by simpa using hb
      have HW : Hid (comI c = !hasSE c.t) := by unfold Hid comI; rw [hallB, hbt]; rfl
      rw [hbt] at hcb
      clear hall hallB hb hbt
      have hconv := Lib.run_convert_bytes_const (P := Tryz.prog) W 57 5 #[.int .u8 42, .int .u8 47] 2 2 Tryz.underlying57 Tryz.underlying5
      have gW : W.grownBy (W.alloc (.cells #[.int .u8 42, .int .u8 47] 5 (2, 3))) none := World.grownBy_alloc _ _ _
      have hbs := hB.size
      have hnew : (W.alloc (.cells #[.int .u8 42, .int .u8 47] 5 (2, 3))).heap[W.heap.size]? = some (.cells #[.int .u8 42, .int .u8 47] 5 (2, 3)) := by
        show (W.heap.push _)[W.heap.size]? = _; simp
      have HCt := hide (contains_any (.slice a c.t.length cap) c.t W.heap.size m (W.alloc (.cells #[.int .u8 42, .int .u8 47] 5 (2, 3))) (((hv.below hB).wideC hbs).keep gW |>.wideC gW.size) hs hby hm ((cell_of_row _ _ 0 #[.int .u8 42, .int .u8 47] 5 (2, 3) hnew).trans rfl) ((cell_of_row _ _ 1 #[.int .u8 42, .int .u8 47] 5 (2, 3) hnew).trans rfl)
        (gW.cell ((World.cell?_of_block (hB.block 1 (World.block_lt_of_cell? w _ hM))).trans hM) (by simp)) 2)
      have hKa := (KeepsOthers.alloc W (.cells #[.int .u8 42, .int .u8 47] 5 (2, 3))).same D _ hK rfl
      have c0a := gW.cell hcr (by simp)
      have f0a := (grown_bothK gW hcr hfr).2
      have HBa : Hid (Below w.heap.size w (W.alloc (.cells #[.int .u8 42, .int .u8 47] 5 (2, 3)))) := hB.alloc hbs _
      clear gW hnew
      gi_wp2_with fail
      refine ⟨trivial, (callsIn_wide.2 HCt.out).mono ?_⟩
      rintro e W2 ⟨rfl, q, rfl⟩
      have c0b : ((W.alloc (.cells #[.int .u8 42, .int .u8 47] 5 (2, 3))).drewN q).cell? ⟨w.heap.size + 1, 0, none⟩ = some (.bool false) := c0a
      have hKb : ((W.alloc (.cells #[.int .u8 42, .int .u8 47] 5 (2, 3))).drewN q).heap[D]? = some (.deferred (some [])) := hKa
      have HBb : Hid (Below w.heap.size w ((W.alloc (.cells #[.int .u8 42, .int .u8 47] 5 (2, 3))).drewN q)) := HBa.out.grown (grown_drewN (World.grownBy.refl _ none) q) HBa.out.size (fun k e => by cases e)
      generalize hasSE c.t = b at *
      gi_wp2
      have hK' := (KeepsOthers.setCell ((W.alloc (.cells #[.int .u8 42, .int .u8 47] 5 (2, 3))).drewN q) ⟨w.heap.size + 1, 0, none⟩ (.bool (!b))).same D _ hKb rfl
      refine ⟨by simp, .inl ⟨_, _, rfl, run_takeDeferred hK', ?_⟩⟩
      have hc5 := cell_kept (World.cell?_setCell_same' ((W.alloc (.cells #[.int .u8 42, .int .u8 47] 5 (2, 3))).drewN q) ⟨w.heap.size + 1, 0, none⟩ (.bool (!b)) (by rw [c0b]; rfl)) (grownBy_putObj' _ D (.deferred none)) (fun r e => by cases e; exact ⟨_, hK', rfl⟩)
      refine ⟨.bool (!b), ?_, by rw [HW.out], (HBb.out.setCell (p := ⟨w.heap.size + 1, 0, none⟩) (by simp) _).trans (belowK_b (w := w) (Nat.le_refl _) _ D _ _ (by omega) hK' rfl rfl)⟩
      simp [results, Tryz.f79, go_sem, hc5]
  case stop =>
    rintro D k pre W hD hpre ⟨⟨rfl, ⟨q, x, hq, hx⟩, hcr⟩, hB⟩ hK
    have HW : Hid (comI c = false) := by
      unfold Hid comI
      rw [Bool.and_eq_false_iff]
      left
      rw [List.all_eq_false]
      refine ⟨x, ?_, by rw [hx]; simp⟩
      obtain ⟨t, ht⟩ := hpre
      rw [← ht, hq]; simp
    gi_wp2
    refine ⟨by simp, .inl ⟨_, _, rfl, run_takeDeferred hK, ?_⟩⟩
    have hc5 := cell_kept hcr (grownBy_putObj' _ D (.deferred none)) (fun r e => by cases e; exact ⟨_, hK, rfl⟩)
    refine ⟨.bool false, ?_, by rw [HW.out], hB.trans (belowK_b (w := w) (Nat.le_refl _) W D _ _ (by omega) hK rfl rfl)⟩
    simp [results, Tryz.f79, go_sem, hc5]

theorem isComment_any (v : Value) (c : Cm) (m : Int) (w : World) (hv : RdB w.heap.size w v c.t) (hby : Bys c.t) (hm : c.t.length ≤ 1048576) (hs : Sl v c.t.length) (hT : Tab w) (hM : w.cell? ⟨1, 0, none⟩ = some (.int .i64 m)) :
    Calls Tryz.prog 79 #[.agg #[.bool c.b, v]] w fun e w' => e = .returned (.bool (comI c)) ∧ w.grownBy w' none :=
  (callsIn_wide.1 (isComment_in 3 (Nat.le_refl _) v c m w hv hby hm hs hT hM)).mono fun _ _ h => ⟨h.1, grown_of_below h.2⟩

end Go.Proofs.YtalkhnhhaiigiaaGreatDoor

