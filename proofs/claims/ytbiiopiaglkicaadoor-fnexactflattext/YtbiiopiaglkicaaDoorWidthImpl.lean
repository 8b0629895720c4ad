import Derived.Test.YtbiiopiaglkicaaDoorIter
namespace Go.Proofs.YtbiiopiaglkicaaDoor
open Go.RowKit Go.Shelf
attribute [local go_sem] Oper.semAt_some

theorem cell_new1 (W : World) (v : Value) (t : TypeId) : (W.alloc (.cells #[v] t)).cell? ⟨W.heap.size, 0, none⟩ = some v ∧ (W.alloc (.cells #[v] t)).frozen? ⟨W.heap.size, 0, none⟩ = false :=
  ⟨(Boxed.new W t v).cell, (Boxed.new W t v).frozen⟩
theorem cell_alloc1 {W : World} {a : Addr} {v : Value} (o : Obj) (h : W.cell? a = some v) : (W.alloc o).cell? a = some v := cell_kept h (World.grownBy_alloc W o none) (fun r e => by cases e)
theorem frozen_alloc1 {W : World} {a : Addr} {v : Value} (o : Obj) (h : W.cell? a = some v) (hf : W.frozen? a = false) : (W.alloc o).frozen? a = false := (frozen_kept h (World.grownBy_alloc W o none) (fun r e => by cases e)).trans hf

theorem width_done {zs : List Int} (h : ∀ x ∈ seqR zs, x.2 ≠ -1) : widthR zs = ((seqR zs).length : Int) := by
  unfold widthR; rw [decR_done h]; simp
theorem width_stop {zs : List Int} {q : List (Int × Int)} {x : Int × Int} (h : q ++ [x] <+: seqR zs) (hx : x.2 = -1) : widthR zs = -1 := by
  unfold widthR; rw [decR_stop h hx]; simp

set_option maxRecDepth 100000 in
set_option maxHeartbeats 2000000 in
theorem implTextWidth_in (n : Nat) (hn : 3 ≤ n) (v : Value) (zs : List Int) (w : World) (hv : RdB w.heap.size w v zs) (hby : Bys zs) (hm : zs.length ≤ 1048576) (hs : Sl v zs.length) (hT : Tab w) :
    CallsIn Fence.wide n Tryd.prog 97 #[v] w fun e w' => e = .returned (.int .i64 (widthR zs)) ∧ Below w.heap.size w w' := by
  have h1 : 1 ≤ n := by omega
  have hs' := hs
  obtain ⟨a, cap, rfl, hlc, hcm⟩ := hs'
  have hpos := hT.pos
  refine callsIn_of_wp_marks Tryd.func97 rfl trivial ?_ rfl
  simp only [Tryd.ntmps97, List.size_toArray, List.length_cons, List.length_nil, Nat.reduceAdd, Nat.reduceSub, Array.replicate_succ, Array.replicate_zero, List.push_toArray, List.append_toArray, List.nil_append, List.cons_append]
  gi_wp2_with fail
  refine ⟨trivial, (pointsOf_in (n - 1) _ _ _ _).mono ?_⟩
  rintro e w' ⟨rfl, rfl⟩
  gi_wp2_with fail
  have c0 := cell_new1 w (.int .i64 0) 3
  have c1 := cell_new1 (w.alloc (.cells #[.int .i64 0] 3)) (.int .i64 0) 3
  have bx := Boxed.new ((w.alloc (.cells #[.int .i64 0] 3)).alloc (.cells #[.int .i64 0] 3)) 24 (.slice a zs.length cap)
  simp only [World.size_alloc] at c1 bx
  have hB0 : Below w.heap.size w (((w.alloc (.cells #[.int .i64 0] 3)).alloc (.cells #[.int .i64 0] 3)).alloc (.cells #[.slice a zs.length cap] 24)) := (((Below.refl _ w).alloc (Nat.le_refl _) _).alloc (by simp) _).alloc (by simp; omega) _
  refine wpIn_rangeFunc_ownF rfl h1 (gf := 107) (lb := #[.pointer (some ⟨w.heap.size + 1 + 1, 0, none⟩)]) rfl trivial (enters_of Tryd.func107 (by kernel_rfl) rfl)
    (pointsOf_stops (n - 1) (by omega) (w.heap.size + 1 + 1) w.heap.size _ zs _ hby (by omega) hs bx (by simp; omega) (hv.below hB0) (hT.below hB0 hpos) hpos) kpB_t (kpB_b (by simp; omega) (by simp)) (Below.refl _ _) (fun _ => rfl)
    (fun (pre : List (Int × Int)) W => ((∀ x ∈ pre, x.2 ≠ -1) ∧ W.cell? ⟨w.heap.size + 1, 0, none⟩ = some (.int .i64 (pre.length : Int)) ∧ W.frozen? ⟨w.heap.size + 1, 0, none⟩ = false ∧ W.cell? ⟨w.heap.size, 0, none⟩ = some (.int .i64 0) ∧ W.frozen? ⟨w.heap.size, 0, none⟩ = false) ∧ Below w.heap.size w W)
    (fun c (pre : List (Int × Int)) W => (c = .ret ∧ (∃ (q : List (Int × Int)) (x : Int × Int), pre = q ++ [x] ∧ x.2 = -1) ∧ W.cell? ⟨w.heap.size, 0, none⟩ = some (.int .i64 (-1))) ∧ Below w.heap.size w W)
    (OwnFrom.and (Own.from (fun s A B row hs hg hr => ⟨hs.1, cell_kept hs.2.1 hg hr, (frozen_kept hs.2.1 hg hr).trans hs.2.2.1, cell_kept hs.2.2.2.1 hg hr, (frozen_kept hs.2.2.2.1 hg hr).trans hs.2.2.2.2⟩) _) (ownFrom_below (Nat.le_refl _) (by simp; omega)))
    (fun c => OwnFrom.and (Own.from (fun s A B row hs hg hr => ⟨hs.1, hs.2.1, cell_kept hs.2.2 hg hr⟩) _) (ownFrom_below (Nat.le_refl _) (by simp; omega)))
    ⟨⟨by simp, cell_alloc1 _ c1.1, frozen_alloc1 _ c1.1 c1.2, cell_alloc1 _ (cell_alloc1 _ c0.1), frozen_alloc1 _ (cell_alloc1 _ c0.1) (frozen_alloc1 _ c0.1 c0.2)⟩, hB0⟩
    (fun x => { tmps := #[.slice a zs.length cap, undef, .pointer (some ⟨w.heap.size, 0, none⟩), .pointer (some ⟨w.heap.size + 1, 0, none⟩), undef, .int .i32 x.2, .slice a zs.length cap, .func (.func 107) #[] #[.pointer (some ⟨w.heap.size + 1 + 1, 0, none⟩)], .int .i64 x.1, .int .i32 x.2, undef, undef, undef, undef, undef], defers := [] }) ?assign ?body ?done ?stop
  case assign =>
    intro l x W K hK
    gi_wp2
    exact hK
  case body =>
    rintro l pre x W ⟨⟨hall, hcw, hfw, hcr, hfr⟩, hB⟩ hlt
    gi_wp2
    · rename_i hx
      have hx2 : x.2 = -1 := by simpa using hx
      exact ⟨KeepsOthers.setCell _ _ _, ⟨rfl, ⟨pre, x, rfl, hx2⟩, World.cell?_setCell_same' _ _ _ (by rw [hcr]; rfl)⟩, hB.setCell (p := ⟨w.heap.size, 0, none⟩) (Nat.le_refl _) _⟩
    · rename_i hx
      have hx2 : x.2 ≠ -1 := by simpa using hx
      refine ⟨KeepsOthers.setCell _ _ _, ⟨(Below.refl w.heap.size W).setCell (p := ⟨w.heap.size + 1, 0, none⟩) (by simp) _, Below.heap_setCell _ _ _ _ (by simp)⟩, ⟨?_, ?_, ?_, ?_, ?_⟩, hB.setCell (p := ⟨w.heap.size + 1, 0, none⟩) (by simp) _⟩
      · intro y hy
        rcases List.mem_append.1 hy with h | h
        · exact hall y h
        · simp at h; subst h; exact hx2
      · rw [World.cell?_setCell_same' _ _ _ (by rw [hcw]; rfl)]; simp
      · rw [World.frozen?_setCell]; exact hfw
      · exact (World.cell?_setCell_other _ _ _ _ (by simp)).trans hcr
      · rw [World.frozen?_setCell]; exact hfr
  case done =>
    rintro D ys W hD rfl ⟨⟨hall, hcw, hfw, hcr, hfr⟩, hB⟩ hK
    have HW : Hid (widthR zs = ((seqR zs).length : Int)) := width_done hall
    gi_wp2
    have hK' := (KeepsOthers.setCell W ⟨w.heap.size, 0, none⟩ (.int .i64 ((seqR zs).length : Int))).same D _ hK rfl
    refine ⟨by simp, .inl ⟨_, _, rfl, run_takeDeferred hK', ?_⟩⟩
    have hc5 := cell_kept (World.cell?_setCell_same' W ⟨w.heap.size, 0, none⟩ (.int .i64 ((seqR zs).length : Int)) (by rw [hcr]; rfl)) (grownBy_putObj' _ D (.deferred none)) (fun r e => by cases e; exact ⟨_, hK', rfl⟩)
    refine ⟨.int .i64 ((seqR zs).length : Int), ?_, by rw [HW.out], (hB.setCell (p := ⟨w.heap.size, 0, none⟩) (Nat.le_refl _) _).trans (belowK_b (w := w) (Nat.le_refl _) _ D _ _ (by simp at hD; omega) hK' rfl rfl)⟩
    simp [results, Tryd.f97, go_sem, hc5]
  case stop =>
    rintro D c pre W hD hpre ⟨⟨rfl, ⟨q, x, hq, hx⟩, hcr⟩, hB⟩ hK
    have HW : Hid (widthR zs = -1) := width_stop (by rw [← hq]; exact hpre) hx
    gi_wp2
    refine ⟨by simp, .inl ⟨_, _, rfl, run_takeDeferred hK, ?_⟩⟩
    have hc5 := cell_kept hcr (grownBy_putObj' _ D (.deferred none)) (fun r e => by cases e; exact ⟨_, hK, rfl⟩)
    refine ⟨.int .i64 (-1), ?_, by rw [HW.out], hB.trans (belowK_b (w := w) (Nat.le_refl _) W D _ _ (by simp at hD; omega) hK rfl rfl)⟩
    simp [results, Tryd.f97, go_sem, hc5]

theorem implTextWidth_any (v : Value) (zs : List Int) (w : World) (hv : RdB w.heap.size w v zs) (hby : Bys zs) (hm : zs.length ≤ 1048576) (hs : Sl v zs.length) (hT : Tab w) :
    Calls Tryd.prog 97 #[v] w fun e w' => e = .returned (.int .i64 (widthR zs)) ∧ w.grownBy w' none :=
  (callsIn_wide.1 (implTextWidth_in 3 (Nat.le_refl _) v zs w hv hby hm hs hT)).mono fun _ _ h => ⟨h.1, grown_of_below h.2⟩

end Go.Proofs.YtbiiopiaglkicaaDoor
