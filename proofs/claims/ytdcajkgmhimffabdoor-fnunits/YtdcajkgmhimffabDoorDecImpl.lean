import Derived.Test.YtdcajkgmhimffabDoorWidthImpl
namespace Go.Proofs.YtdcajkgmhimffabDoor
open Go.RowKit Go.Shelf
attribute [local go_sem] Oper.semAt_some

/-- The points that have come, as ints. -/
def cvt (pre : List (Int × Int)) : List Int := pre.map (fun x => wrap64 x.2)
theorem cvt_snoc (pre : List (Int × Int)) (x : Int × Int) : cvt (pre ++ [x]) = cvt pre ++ [wrap64 x.2] := by simp [cvt]
theorem cvt_len (pre : List (Int × Int)) : (cvt pre).length = pre.length := by simp [cvt]

theorem hit_bd {s : List Int} {n : Nat} (h1 : 1 ≤ n) (h : hit s n = true) : lv s n ≤ 1114111 := by
  simp only [hit, Bool.and_eq_true, decide_eq_true_eq, beq_iff_eq] at h
  cases ho : okPt (lv s n)
  · have : need (lv s n) = 0 := by simp [need, ho]
    omega
  · exact (ok_bd ho).1.2
theorem lv_bd {s : List Int} (h : fsize s ≠ 0) : lv s (fsize s) ≤ 1114111 := by
  have hh : hit s (fsize s) = true := by
    unfold fsize at h ⊢
    split
    · assumption
    · split
      · assumption
      · split
        · assumption
        · split
          · assumption
          · simp_all
  exact hit_bd (by omega) hh
theorem seq_bd (f : Nat) : ∀ (s : List Int) (k : Nat), ∀ x ∈ seqP f s k, -1 ≤ x.2 ∧ x.2 ≤ 1114111 := by
  induction f with
  | zero => intro s k x hx; simp [seqP] at hx
  | succ f ih =>
    intro s k x hx
    by_cases hs : s = []
    · rw [hs, seq_nil] at hx; simp at hx
    · by_cases hf : fsize s = 0
      · rw [seq_bad hs hf] at hx
        simp at hx; rw [hx]; simp
      · rw [seq_go hs hf] at hx
        rcases List.mem_cons.1 hx with rfl | hx
        · have := lv_pos hf
          have := lv_bd hf
          exact ⟨by omega, by omega⟩
        · exact ih _ _ x hx
theorem cvt_seq (zs : List Int) : cvt (seqR zs) = (seqR zs).map (·.2) := by
  unfold cvt
  apply List.map_congr_left
  intro x hx
  have := seq_bd zs.length zs 0 x hx
  exact IntWalk.wrap64_in x.2 ⟨by omega, by omega⟩

theorem box_keep {W W' : World} {row : Option Nat} {B : Nat} {t : TypeId} {v : Value} (h : Boxed W B t v) (hg : W.grownBy W' row) (hrow : ∀ r, row = some r → ∃ o : Obj, W.heap[r]? = some o ∧ o.isCells = false) : Boxed W' B t v :=
  h.kept hg (fun e => by
    obtain ⟨o, ho, hc⟩ := hrow B e.symm
    rw [show W.heap[B]? = _ from h] at ho; cases ho; cases hc)

set_option maxRecDepth 100000 in
set_option maxHeartbeats 4000000 in
theorem implDecodeText_in (n : Nat) (hn : 3 ≤ n) (v : Value) (zs : List Int) (w : World) (hv : RdB w.heap.size w v zs) (hby : Bys zs) (hm : zs.length ≤ 1048576) (hs : Sl v zs.length) (hT : Tab w) :
    CallsIn Fence.wide n Tryd.prog 12 #[v] w fun e w' => ∃ v', e = .returned (.tuple #[v', .int .i64 (decR zs).2.1, .int .i64 (decR zs).2.2]) ∧ OwI w.heap.size w' v' (decR zs).1 ∧ Below w.heap.size w w' := by
  have h1 : 1 ≤ n := by omega
  have hs' := hs
  obtain ⟨a, cap, rfl, hlc, hcm⟩ := hs'
  have hpos := hT.pos
  obtain ⟨i0, hi, hz0, hz1, hz2⟩ := info_parts info3
  refine callsIn_of_wp_marks Tryd.func12 rfl trivial ?_ rfl
  simp only [Tryd.ntmps12, List.size_toArray, List.length_cons, List.length_nil, Nat.reduceAdd, Nat.reduceSub, Array.replicate_succ, Array.replicate_zero, List.push_toArray, List.append_toArray, List.nil_append, List.cons_append]
  gi_wp2_with (gi_at_make; refine wpListIn_make_own _ rfl _ _ 23 rfl (w.heap.size + 3) 3 i0 (.int .i64 0) 1 Tryd.underlying23 hi hz0 hz1 _ _ _ zs.length rfl rfl (by omega) ?b2 ?b3 ?b4 ?_)
  case b2 => rw [hz2]; omega
  case b3 => unfold maxLen; omega
  case b4 => simp
  intro w3 hown3 hgrow3
  have b0 := (((Boxed.new w 23 (.slice none 0 0)).alloc (.cells #[.int .i64 0] 3)).alloc (.cells #[.int .i64 0] 3)).kept hgrow3 (by simp)
  have b1 := ((Boxed.new (w.alloc (.cells #[.slice none 0 0] 23)) 3 (.int .i64 0)).alloc (.cells #[.int .i64 0] 3)).kept hgrow3 (by simp)
  have b2 := (Boxed.new ((w.alloc (.cells #[.slice none 0 0] 23)).alloc (.cells #[.int .i64 0] 3)) 3 (.int .i64 0)).kept hgrow3 (by simp)
  simp only [World.size_alloc] at b1 b2
  have hB3 : Below w.heap.size w w3 := (((((Below.refl _ w).alloc (Nat.le_refl _) _).alloc (by simp) _).alloc (by simp; omega) _)).grown hgrow3 (by simp; omega) (fun k e => by cases e)
  have hM : w.heap.size + 4 ≤ w3.heap.size := by have := World.ownsRow.lt hown3 (w.heap.size + 1 + 1 + 1) rfl; omega
  clear hgrow3
  gi_wp2_with fail
  refine ⟨trivial, (pointsOf_in (n - 1) _ _ _ _).mono ?_⟩
  rintro e w' ⟨rfl, rfl⟩
  gi_wp2_with fail
  have bp := Boxed.new w3 23 (.slice (some ⟨w.heap.size + 1 + 1 + 1, 0, none⟩) 0 zs.length)
  have bx := Boxed.new (w3.alloc (.cells #[.slice (some ⟨w.heap.size + 1 + 1 + 1, 0, none⟩) 0 zs.length] 23)) 22 (.slice a zs.length cap)
  simp only [World.size_alloc] at bx
  obtain ⟨M, hMe⟩ : ∃ M, M = w3.heap.size := ⟨_, rfl⟩
  rw [← hMe] at bp bx hM ⊢
  obtain ⟨W0, hW0⟩ : ∃ W0, W0 = (w3.alloc (.cells #[.slice (some ⟨w.heap.size + 1 + 1 + 1, 0, none⟩) 0 zs.length] 23)).alloc (.cells #[.slice a zs.length cap] 22) := ⟨_, rfl⟩
  have hsz0 : W0.heap.size = M + 2 := by rw [hW0]; simp; omega
  have hB0 : Below w.heap.size w W0 := by rw [hW0]; exact (hB3.alloc hB3.size _).alloc (by simp; have := hB3.size; omega) _
  have hp0 : Boxed W0 M 23 (.slice (some ⟨w.heap.size + 1 + 1 + 1, 0, none⟩) 0 zs.length) := by rw [hW0]; exact bp.alloc _
  have hx0 : Boxed W0 (M + 1) 22 (.slice a zs.length cap) := by rw [hW0]; exact bx
  have hr0 : Boxed W0 w.heap.size 23 (.slice none 0 0) := by rw [hW0]; exact (b0.alloc _).alloc _
  have hr1 : Boxed W0 (w.heap.size + 1) 3 (.int .i64 0) := by rw [hW0]; exact (b1.alloc _).alloc _
  have hr2 : Boxed W0 (w.heap.size + 1 + 1) 3 (.int .i64 0) := by rw [hW0]; exact (b2.alloc _).alloc _
  have ho0 : W0.ownsRow (w.heap.size + 3) 3 1 (.slice (some ⟨w.heap.size + 1 + 1 + 1, 0, none⟩) 0 zs.length) 0 [] := by rw [hW0]; exact (hown3.alloc _).alloc _
  rw [← hW0]
  clear hW0 bp bx b0 b1 b2 hown3 hB3 hMe
  refine wpIn_rangeFunc_ownG rfl h1 (gf := 34) (lb := #[.pointer (some ⟨M + 1, 0, none⟩)]) rfl trivial (enters_of Tryd.func34 (by kernel_rfl) rfl)
    (pointsOf_stops (n - 1) (by omega) (M + 1) w.heap.size _ zs _ hby (by omega) hs hx0 (by omega) (hv.below hB0) (hT.below hB0 hpos) hpos) kpB_t (kpB_b (by omega) (by omega)) (Below.refl _ _) (fun _ => rfl)
    (fun (pre : List (Int × Int)) W => (∃ v, Boxed W M 23 v ∧ W.ownsRow (w.heap.size + 3) 3 1 v (cvt pre).length ((cvt pre).map (Value.int .i64)) ∧ True) ∧ (((∀ x ∈ pre, x.2 ≠ -1) ∧ Boxed W w.heap.size 23 (.slice none 0 0) ∧ Boxed W (w.heap.size + 1) 3 (.int .i64 0) ∧ Boxed W (w.heap.size + 1 + 1) 3 (.int .i64 0) ∧ Boxed W (M + 1) 22 (.slice a zs.length cap)) ∧ Below w.heap.size w W))
    (fun c (pre : List (Int × Int)) W => (c = .ret ∧ (∃ (q : List (Int × Int)) (x : Int × Int), pre = q ++ [x] ∧ x.2 = -1 ∧ Boxed W (w.heap.size + 1 + 1) 3 (.int .i64 x.1)) ∧ Boxed W w.heap.size 23 (.slice none 0 0) ∧ Boxed W (w.heap.size + 1) 3 (.int .i64 2)) ∧ Below w.heap.size w W)
    (OwnFrom.and (Own.from (holdsRow_own (w.heap.size + 3) M 23 3 1 (fun pre => (cvt pre).length) (fun pre => (cvt pre).map (Value.int .i64)) (fun _ _ => True)) _)
      (OwnFrom.and (Own.from (fun s A B row hs hg hr => ⟨hs.1, box_keep hs.2.1 hg hr, box_keep hs.2.2.1 hg hr, box_keep hs.2.2.2.1 hg hr, box_keep hs.2.2.2.2 hg hr⟩) _) (ownFrom_below (Nat.le_refl _) (by omega))))
    (fun c => OwnFrom.and (Own.from (fun s A B row hs hg hr => ⟨hs.1, (by obtain ⟨q, x, e1, e2, e3⟩ := hs.2.1; exact ⟨q, x, e1, e2, box_keep e3 hg hr⟩), box_keep hs.2.2.1 hg hr, box_keep hs.2.2.2 hg hr⟩) _) (ownFrom_below (Nat.le_refl _) (by omega)))
    ⟨⟨_, hp0, by simpa [cvt] using ho0, trivial⟩, ⟨by simp, hr0, hr1, hr2, hx0⟩, hB0⟩
    (fun x => { tmps := #[.slice a zs.length cap, undef, .pointer (some ⟨w.heap.size, 0, none⟩), .pointer (some ⟨w.heap.size + 1, 0, none⟩), .pointer (some ⟨w.heap.size + 1 + 1, 0, none⟩), .pointer (some ⟨M, 0, none⟩), .int .i64 x.1, .int .i32 x.2, .slice a zs.length cap, .int .i64 zs.length, .slice (some ⟨w.heap.size + 1 + 1 + 1, 0, none⟩) 0 zs.length, .slice a zs.length cap, .func (.func 34) #[] #[.pointer (some ⟨M + 1, 0, none⟩)], .int .i64 x.1, .int .i32 x.2, undef, undef, undef, undef, undef, undef, undef, undef, undef], defers := [] }) ?assign ?body ?done ?stop
  case assign =>
    intro l x W K hK
    gi_wp2
    exact hK
  case body =>
    rintro l pre x W ⟨⟨v, hbv, hrow, _⟩, ⟨hall, q0, q1, q2, qx⟩, hB⟩ hlt
    have hc := hbv.cell
    have c0 := q0.cell
    have f0 := q0.frozen
    have c1 := q1.cell
    have f1 := q1.frozen
    have c2 := q2.cell
    have f2 := q2.frozen
    have hcl : (cvt pre).length ≤ pre.length := by rw [cvt_len]; exact Nat.le_refl _
    by_cases hx : x.2 = -1
    · have hxb : (x.2 == -1) = true := by simp [hx]
      have HX : Hid (x.2 = -1) := hx
      clear hx
      gi_wp2
      exact ⟨(((KeepsOthers.setCell _ _ _).trans (KeepsOthers.setCell _ _ _)).trans (KeepsOthers.setCell _ _ _)).from _,
        ⟨rfl, ⟨pre, x, rfl, HX.out, ((q2.other (by omega) _).other (by omega) _).set _⟩, ((q0.set _).other (by omega) _).other (by omega) _, ((q1.other (by omega) _).set _).other (by omega) _⟩,
        ((hB.setCell (p := ⟨w.heap.size, 0, none⟩) (by simp) _).setCell (p := ⟨w.heap.size + 1, 0, none⟩) (by simp) _).setCell (p := ⟨w.heap.size + 1 + 1, 0, none⟩) (by simp; omega) _⟩
    · have hxb : (x.2 == -1) = false := by simp [hx]
      have HX : Hid (¬ x.2 = -1) := hx
      clear hx
      gi_wp2_with (gi_at_builtin; refine wpListIn_append_own _ rfl _ _ 23 rfl (w.heap.size + 3) 3 i0 (.int .i64 0) 1 8 Tryd.underlying23 hi hz0 hz1 hz2 rfl (by decide) _ _ _ rfl (hrow.alloc _) ⟨W.heap.size, 0, none⟩ 1 1 [.int .i64 (wrap64 x.2)] rfl rfl (cell_one_new _ _ _) (by simp [Value.oneCell']) (by unfold maxLen; omega) (by omega) (by have := hbv.lt; simp; omega) ?_; intro v' w1 hown' hgrow _; obtain ⟨g', cap', rfl⟩ := ownsRow_succ hown'; obtain ⟨hv1, hv2, hr2, hk2, hb2⟩ := hbv.appended (by decide) hrow (by have := hbv.lt; omega) (by omega) hown' hgrow; have hc1 := hv1.cell; have hf1 := hv1.frozen; have qx1 := ((qx.alloc _).kept hgrow (qx.not_row (by decide) hrow)).other (B' := M) (by omega) (.slice (some ⟨g', 0, none⟩) ((cvt pre).length + 1) cap'))
      refine ⟨hk2.from _, ⟨hb2.mono (by omega), (show _ = _ from qx1).trans (show _ = _ from qx).symm⟩, ⟨_, hv2, ?_, trivial⟩, ⟨?_, (hb2.block _ (by omega)).trans q0, (hb2.block _ (by omega)).trans q1, (hb2.block _ (by omega)).trans q2, qx1⟩, hB.trans (hb2.mono (by omega))⟩
      · rw [cvt_snoc]; simpa using hr2
      · intro y hy
        rcases List.mem_append.1 hy with h | h
        · exact hall y h
        · simp at h; subst h; exact HX.out
  case done =>
    rintro D ys W hD rfl ⟨⟨v, hbv, hrow, _⟩, ⟨hall, q0, q1, q2, qx⟩, hB⟩ hK
    have hsh : ∃ a1 cap1, v = .slice a1 (cvt (seqR zs)).length cap1 := by
      rcases hrow.2 with ⟨h, h2⟩ | ⟨g, cap1, cur, h, _⟩
      · exact ⟨none, 0, by rw [h, h2]⟩
      · exact ⟨_, cap1, h⟩
    obtain ⟨a1, cap1, rfl⟩ := hsh
    have HD : Hid (decR zs = (cvt (seqR zs), 0, 0)) := by unfold Hid; rw [decR_done hall, cvt_seq]
    have hc := hbv.cell
    have c0 := q0.cell
    have f0 := q0.frozen
    have c1 := q1.cell
    have f1 := q1.frozen
    have c2 := q2.cell
    have f2 := q2.frozen
    have hrow' := ownsRow_setCell_below (ownsRow_setCell_below (ownsRow_setCell_below hrow (a := ⟨w.heap.size, 0, none⟩) (by simp) (.slice a1 (cvt (seqR zs)).length cap1)) (a := ⟨w.heap.size + 1, 0, none⟩) (by simp) (.int .i64 0)) (a := ⟨w.heap.size + 1 + 1, 0, none⟩) (by simp) (.int .i64 0)
    have e0 := ((q0.set (.slice a1 (cvt (seqR zs)).length cap1)).other (B' := w.heap.size + 1) (by omega) (.int .i64 0)).other (B' := w.heap.size + 1 + 1) (by omega) (.int .i64 0)
    have e1 := ((q1.other (B' := w.heap.size) (by omega) (.slice a1 (cvt (seqR zs)).length cap1)).set (.int .i64 0)).other (B' := w.heap.size + 1 + 1) (by omega) (.int .i64 0)
    have e2 := ((q2.other (B' := w.heap.size) (by omega) (.slice a1 (cvt (seqR zs)).length cap1)).other (B' := w.heap.size + 1) (by omega) (.int .i64 0)).set (.int .i64 0)
    have hK' := (((KeepsOthers.setCell W ⟨w.heap.size, 0, none⟩ (.slice a1 (cvt (seqR zs)).length cap1)).trans (KeepsOthers.setCell _ ⟨w.heap.size + 1, 0, none⟩ (.int .i64 0))).trans (KeepsOthers.setCell _ ⟨w.heap.size + 1 + 1, 0, none⟩ (.int .i64 0))).same D _ hK rfl
    have hB' := ((hB.setCell (p := ⟨w.heap.size, 0, none⟩) (by simp) (.slice a1 (cvt (seqR zs)).length cap1)).setCell (p := ⟨w.heap.size + 1, 0, none⟩) (by simp) (.int .i64 0)).setCell (p := ⟨w.heap.size + 1 + 1, 0, none⟩) (by simp; omega) (.int .i64 0)
    have hR : ∀ r, some D = some r → ∃ o : Obj, (((W.setCell ⟨w.heap.size, 0, none⟩ (.slice a1 (cvt (seqR zs)).length cap1)).setCell ⟨w.heap.size + 1, 0, none⟩ (.int .i64 0)).setCell ⟨w.heap.size + 1 + 1, 0, none⟩ (.int .i64 0)).heap[r]? = some o ∧ o.isCells = false := fun r e => by cases e; exact ⟨_, hK', rfl⟩
    have d0 := (box_keep e0 (grownBy_putObj' _ D (.deferred none)) hR).cell
    have d1 := (box_keep e1 (grownBy_putObj' _ D (.deferred none)) hR).cell
    have d2 := (box_keep e2 (grownBy_putObj' _ D (.deferred none)) hR).cell
    clear hrow hbv q0 q1 q2 qx hall e0 e1 e2 hB
    gi_wp2
    refine ⟨by simp, .inl ⟨_, _, rfl, run_takeDeferred hK', ?_⟩⟩
    refine ⟨.tuple #[.slice a1 (cvt (seqR zs)).length cap1, .int .i64 0, .int .i64 0], ?_, _, by rw [HD.out], ?_, hB'.trans (belowK_b (w := w) (Nat.le_refl _) _ D _ _ (by omega) hK' rfl rfl)⟩
    · simp [results, Tryd.f12, go_sem, d0, d1, d2]
    · rw [HD.out]; exact row_base (by omega) (ownsRow_putObj hrow' _ hK' rfl)
  case stop =>
    rintro D c pre W hD hpre ⟨⟨rfl, ⟨q, x, hq, hx, q2⟩, q0, q1⟩, hB⟩ hK
    have HD : Hid (decR zs = ([], 2, x.1)) := decR_stop (by rw [← hq]; exact hpre) hx
    clear hx hq hpre
    gi_wp2
    refine ⟨by simp, .inl ⟨_, _, rfl, run_takeDeferred hK, ?_⟩⟩
    have hR : ∀ r, some D = some r → ∃ o : Obj, W.heap[r]? = some o ∧ o.isCells = false := fun r e => by cases e; exact ⟨_, hK, rfl⟩
    have d0 := (box_keep q0 (grownBy_putObj' _ D (.deferred none)) hR).cell
    have d1 := (box_keep q1 (grownBy_putObj' _ D (.deferred none)) hR).cell
    have d2 := (box_keep q2 (grownBy_putObj' _ D (.deferred none)) hR).cell
    refine ⟨.tuple #[.slice none 0 0, .int .i64 2, .int .i64 x.1], ?_, _, by rw [HD.out], ?_, hB.trans (belowK_b (w := w) (Nat.le_refl _) W D _ _ (by omega) hK rfl rfl)⟩
    · simp [results, Tryd.f12, go_sem, d0, d1, d2]
    · rw [HD.out]; exact World.ownsRow_nil _ _ _ _

theorem implDecodeText_any (v : Value) (zs : List Int) (w : World) (hv : RdB w.heap.size w v zs) (hby : Bys zs) (hm : zs.length ≤ 1048576) (hs : Sl v zs.length) (hT : Tab w) :
    Calls Tryd.prog 12 #[v] w fun e w' => ∃ v', e = .returned (.tuple #[v', .int .i64 (decR zs).2.1, .int .i64 (decR zs).2.2]) ∧ OwI w.heap.size w' v' (decR zs).1 ∧ w.grownBy w' none :=
  (callsIn_wide.1 (implDecodeText_in 3 (Nat.le_refl _) v zs w hv hby hm hs hT)).mono fun _ _ ⟨v', h1, h2, h3⟩ => ⟨v', h1, h2, grown_of_below h3⟩

end Go.Proofs.YtdcajkgmhimffabDoor
