import Derived.Test.YtbiiopiaglkicaaDoorMetMore
import Derived.Test.YtbiiopiaglkicaaDoorLeadPure
namespace Go.Proofs.YtbiiopiaglkicaaDoor
open Go.RowKit Go.Shelf
attribute [local go_sem] Oper.semAt_some

/-- A node, as the switch sees it. -/
theorem node_class {X : Nat → Prop} {B : Nat} {w : World} {v : Value} {T : Tr} (h : Rep X B w v T) :
    (∃ t u, v = .iface t u ∧ Quiet t ∧ stops T = false ∧ wOf T = 0) ∨ (v = .iface 95 (.agg #[]) ∧ stops T = true) ∨ (v = .iface 103 (.agg #[]) ∧ stops T = true) ∨ (v = .iface 96 (.agg #[]) ∧ stops T = true) ∨
    (v = .iface 97 (.agg #[]) ∧ stops T = true) ∨ (∃ b tv p, T = .leaf p ∧ p.k = 1 ∧ v = .iface 89 (.pointer (some ⟨b, 0, none⟩)) ∧ ¬ X b ∧ w.cell? ⟨b, 0, none⟩ = some tv ∧ w.cell? ⟨b, 1, none⟩ = some (.int .i64 (widthR p.t)) ∧ RdB B w tv p.t ∧ Sl tv p.t.length) := by
  cases T with
  | leaf p =>
    simp only [Rep] at h
    rcases h with h | h | h | h | h | ⟨h1, b, tv, h2, h3, h4, h5, h7, h8⟩
    · exact .inl ⟨_, _, h.2, .inl rfl, by simp [stops, h.1], by simp [wOf, h.1]⟩
    · exact .inr (.inl ⟨h.2, by simp [stops, h.1]⟩)
    · exact .inr (.inr (.inl ⟨h.2, by simp [stops, h.1]⟩))
    · exact .inr (.inr (.inr (.inl ⟨h.2, by simp [stops, h.1]⟩)))
    · exact .inr (.inr (.inr (.inr (.inl ⟨h.2, by simp [stops, h.1]⟩))))
    · exact .inr (.inr (.inr (.inr (.inr ⟨b, tv, p, rfl, h1, h2, h3, by simp [World.cell?, h5], by simp [World.cell?, h5], h7, h8⟩))))
  | un p x =>
    simp only [Rep] at h
    obtain ⟨b, u, h3, h4, h5, h6, h7 | h7⟩ := h
    · exact .inl ⟨_, _, h7.2, .inr (.inl rfl), rfl, rfl⟩
    · exact .inl ⟨_, _, h7.2, .inr (.inr (.inl rfl)), rfl, rfl⟩
  | bin p x y =>
    simp only [Rep] at h
    obtain ⟨b, u, u', h3, h4, h5, h5', h6, h6', h7 | h7⟩ := h
    · exact .inl ⟨_, _, h7.2, .inr (.inr (.inr (.inl rfl))), rfl, rfl⟩
    · exact .inl ⟨_, _, h7.2, .inr (.inr (.inr (.inr rfl))), rfl, rfl⟩

theorem wrapEq (x : Int) : IntKind.i64.wrap x = wrap64 x := by rw [IntKind.wrap_i64]; unfold wrap64; omega

theorem KpX.drewSet {n₀ tb : Nat} {W : World} (hn : n₀ ≤ tb) {u : Value} (hc : W.cell? ⟨tb, 0, none⟩ = some u) (q : IntKind) (z : Int) : KpX n₀ tb W (W.setCell ⟨tb, 0, none⟩ (.int q z)).drew := by
  have hX : ∀ b, Xt tb (W.setCell ⟨tb, 0, none⟩ (.int q z)).drew b → b = tb := by
    intro b hb
    rcases hb with h | ⟨v, h, h'⟩
    · exact h
    · have h2 : (W.setCell ⟨tb, 0, none⟩ (.int q z)).cell? ⟨tb, 0, none⟩ = some v := h
      rw [World.cell?_setCell_same' _ _ _ (by rw [hc]; rfl)] at h2
      cases h2; cases h'
  refine ⟨((Below.refl n₀ W).setCell (p := ⟨tb, 0, none⟩) hn _).drew, fun b o ho _ hx => ?_, fun b hb => .inl (.inl (hX b hb))⟩
  have := heap_setCell_other W ⟨tb, 0, none⟩ b (.int q z) (fun e => hx (.inl (by simpa using e)))
  exact this.trans ho

set_option maxRecDepth 100000 in
set_option maxHeartbeats 4000000 in
theorem implLead_in (n : Nat) (hn : 3 ≤ n) (v : Value) (doc : List Pc) (w : World) (hv : RdP w.heap.size w v doc) (hd : Doc doc) (hT : Tab w) :
    CallsIn Fence.wide n Tryd.prog 35 #[v] w fun e w' => e = .returned (.int .i64 (leadR doc)) ∧ Below w.heap.size w w' := by
  have h1 : 1 ≤ n := by omega
  have hn1 : ∀ (t : TypeId) (u : Value) (w : World), (binOp .eql 84 (.iface t u) .nilIface).run Tryd.prog w = .ok (.bool false) w := fun _ _ _ => rfl
  have hn2 : ∀ (w : World), (binOp .eql 84 .nilIface .nilIface).run Tryd.prog w = .ok (.bool true) w := fun _ => rfl
  obtain ⟨a, cap, hv0, _⟩ := id hv
  have hga : w.grownBy (w.alloc (.cells #[.int .i64 0] 3)) none := World.grownBy_alloc _ _ _
  have htr := treeOf_any v doc (w.alloc (.cells #[.int .i64 0] 3)) ((hv.keep hga).wide hga.size) hd (hT.keep hga)
  subst hv0
  clear hv hT
  refine callsIn_of_wp_marks Tryd.func35 rfl trivial ?_ rfl
  simp only [Tryd.ntmps35, List.size_toArray, List.length_cons, List.length_nil, Nat.reduceAdd, Nat.reduceSub, Array.replicate_succ, Array.replicate_zero, List.push_toArray, List.append_toArray, List.nil_append, List.cons_append]
  gi_wp2_with fail
  refine ⟨trivial, (callsIn_wide.2 htr).mono ?_⟩
  intro e w1 ht1
  obtain ⟨bel, h2⟩ := treeOf_says ht1
  have c0 := cell_new1 w (.int .i64 0) 3
  have hrc : w1.cell? ⟨w.heap.size, 0, none⟩ = some (.int .i64 0) := (bel.cell (by simp)).trans c0.1
  have hrf : w1.frozen? ⟨w.heap.size, 0, none⟩ = false := (World.frozen?_of_block (bel.block w.heap.size (by simp))).trans c0.2
  rcases h2 with ⟨hs, T, u, hbd, hseg, rfl, hr⟩ | ⟨hs, rfl⟩
  · obtain ⟨tr, ur, hform⟩ := hr.form
    subst hform
    clear ht1 htr
    gi_wp2_with fail
    refine ⟨trivial, (metIn_in _ _ _ _ _).mono ?_⟩
    rintro e w2 ⟨rfl, rfl⟩
    gi_wp2_with fail
    have HF : Hid (leadR doc = (leadT T).1) := by unfold Hid leadR; rw [if_pos hs, hbd]
    have hszT := spec_sz doc hs T hbd
    have hokA := hseg.okA
    have hle := leadT_le width_bd T
    have hws : w.heap.size < w1.heap.size := by have := bel.size; simp at this; omega
    obtain ⟨root, hroot⟩ : ∃ root : Nd w1.heap.size w1, root.1 = (.iface tr ur, T) := ⟨⟨(.iface tr ur, T), (hr.base (by have := bel.size; exact this)).turn (Nat.le_refl _) (fun _ _ _ => rfl) (fun b hb h => by omega) (fun _ _ h => h), hszT⟩, rfl⟩
    obtain ⟨w3, hw3⟩ : ∃ w3, ((w1.alloc (.cells #[.int .i64 0] 3)).alloc (.cells #[.iface tr ur] 84)).alloc (.cells #[.bool false] 4) = w3 := ⟨_, rfl⟩
    have hsz3 : w3.heap.size = w1.heap.size + 3 := by rw [← hw3]; simp
    have hb3 : Below w1.heap.size w1 w3 := by rw [← hw3]; exact (((Below.refl _ w1).alloc (Nat.le_refl _) _).alloc (by simp) _).alloc (by simp; omega) _
    have hct : w3.cell? ⟨w1.heap.size, 0, none⟩ = some (.int .i64 0) ∧ w3.frozen? ⟨w1.heap.size, 0, none⟩ = false := by rw [← hw3]; constructor <;> simp [go_sem]
    have hbr : Boxed w3 (w1.heap.size + 1) 84 (.iface tr ur) := by
      rw [← hw3]
      have := Boxed.new (w1.alloc (.cells #[.int .i64 0] 3)) 84 (.iface tr ur)
      rw [World.size_alloc] at this
      exact this.kept (World.grownBy_alloc _ _ none) (by simp)
    have hbf : Boxed w3 (w1.heap.size + 1 + 1) 4 (.bool false) := by
      rw [← hw3]
      have := Boxed.new ((w1.alloc (.cells #[.int .i64 0] 3)).alloc (.cells #[.iface tr ur] 84)) 4 (.bool false)
      simpa using this
    rw [hw3]
    have hrc3 : w3.cell? ⟨w.heap.size, 0, none⟩ = some (.int .i64 0) := (hb3.cell hws).trans hrc
    have hrf3 : w3.frozen? ⟨w.heap.size, 0, none⟩ = false := (World.frozen?_of_block (hb3.block w.heap.size hws)).trans hrf
    have hBw : Below w.heap.size w w1 := (((Below.refl _ w).alloc (Nat.le_refl _) _)).trans (bel.mono (by simp))
    clear hr hbd hseg hga c0 hrc hrf hs bel hd hw3
    refine range_known rfl h1 (gf := 79) (lb := #[.pointer (some ⟨w1.heap.size + 1, 0, none⟩), .pointer (some ⟨w1.heap.size + 1 + 1, 0, none⟩)]) rfl trivial (enters_of Tryd.func79 (by kernel_rfl) rfl)
      (fun x : Nd w1.heap.size w1 => #[x.1.1]) (fun _ => rfl)
      (fun pre W => (∀ x ∈ pre, stops x.1.2 = false) ∧ W.cell? ⟨w1.heap.size, 0, none⟩ = some (.int .i64 (wrap64 (wSum (treesOf pre)))) ∧ W.frozen? ⟨w1.heap.size, 0, none⟩ = false ∧ W.cell? ⟨w.heap.size, 0, none⟩ = some (.int .i64 0) ∧ W.frozen? ⟨w.heap.size, 0, none⟩ = false ∧ Below w1.heap.size w1 W)
      (fun pre W => (∃ q x, pre = q ++ [x] ∧ (∀ y ∈ q, stops y.1.2 = false) ∧ stops x.1.2 = true ∧ W.cell? ⟨w.heap.size, 0, none⟩ = some (.int .i64 (wrap64 (wSum (treesOf q))))) ∧ Below w.heap.size w1 W)
      (KpX w1.heap.size w1.heap.size) (fun ys => treesOf ys = preo false root.1.2) (fun pre => treesOf pre <+: preo false root.1.2) (preo false root.1.2).length
      ?Ik ?Ixk ?Kk (fun _ _ _ h k => h.trans k) ?h0
      (fun x => { tmps := #[.slice a doc.length cap, undef, .pointer (some ⟨w.heap.size, 0, none⟩), .iface tr ur, .pointer (some ⟨w1.heap.size, 0, none⟩), x.1.1, undef, undef, .slice a doc.length cap, .iface tr ur, .iface tr ur, .bool false, .iface tr ur, .func (.func 79) #[] #[.pointer (some ⟨w1.heap.size + 1, 0, none⟩), .pointer (some ⟨w1.heap.size + 1 + 1, 0, none⟩)], x.1.1, undef, undef, undef, undef, undef, undef, undef, undef, undef, undef, undef, undef, undef, undef, undef, undef, undef, undef, undef, undef, undef, undef, undef, undef, undef, undef, undef], defers := [] })
      ?assign ?body ?seq ?done ?stop
    case Ik =>
      rintro s W l o o' hl ho hc ⟨g1, g2, g3, g4, g5, g6⟩
      have k1 : (W.putObj l o').heap[w1.heap.size]? = W.heap[w1.heap.size]? := World.putObj_heap_other (by omega)
      have k2 : (W.putObj l o').heap[w.heap.size]? = W.heap[w.heap.size]? := World.putObj_heap_other (by omega)
      exact ⟨g1, (World.cell?_of_block (a := ⟨w1.heap.size, 0, none⟩) k1).trans g2, (World.frozen?_of_block (a := ⟨w1.heap.size, 0, none⟩) k1).trans g3, (World.cell?_of_block (a := ⟨w.heap.size, 0, none⟩) k2).trans g4, (World.frozen?_of_block (a := ⟨w.heap.size, 0, none⟩) k2).trans g5, g6.trans ⟨rfl, rfl, rfl, by simp, fun k hk => World.putObj_heap_other (by omega)⟩⟩
    case Ixk =>
      rintro s W l o o' hl ho hc ⟨⟨q, x, g1, g2, g3, g4⟩, g6⟩
      have k2 : (W.putObj l o').heap[w.heap.size]? = W.heap[w.heap.size]? := World.putObj_heap_other (by omega)
      exact ⟨⟨q, x, g1, g2, g3, (World.cell?_of_block (a := ⟨w.heap.size, 0, none⟩) k2).trans g4⟩, g6.trans ⟨rfl, rfl, rfl, by simp, fun k hk => World.putObj_heap_other (by omega)⟩⟩
    case Kk =>
      intro W l o o' hl ho hc
      exact KpX.put o' (by omega) (by omega) ho hc
    case h0 =>
      intro o1 o2
      have gg : w3.grownBy ((w3.alloc o1).alloc o2) none := grown_trans (World.grownBy_alloc _ _ _) (World.grownBy_alloc _ _ _)
      have p1 := grown_both gg hct.1 hct.2
      have p2 := grown_both gg hrc3 hrf3
      exact ⟨by simp, by simpa [treesOf, wSum, wrap64] using p1.1, p1.2, p2.1, p2.2, hb3.grown gg (by omega) (fun k e => by cases e)⟩
    case assign =>
      intro l x W K hK
      gi_wp2
      exact hK
    case body =>
      rintro l pre x W ⟨g1, g2, g3, g4, g5, g6⟩ hlt
      have hrx := Rep.below x.2.1 g6
      have hall : stops x.1.2 = false → ∀ y ∈ pre ++ [x], stops y.1.2 = false := by
        intro h y hy
        rcases List.mem_append.1 hy with h2 | h2
        · exact g1 y h2
        · simp at h2; subst h2; exact h
      have hsn : wSum (treesOf (pre ++ [x])) = wSum (treesOf pre) + wOf x.1.2 := by simp only [treesOf, List.map_append, List.map_cons, List.map_nil]; exact wSum_snoc _ _
      rcases node_class hrx with ⟨t, u, hxv, hq, hst, hwf⟩ | ⟨hxv, hst⟩ | ⟨hxv, hst⟩ | ⟨hxv, hst⟩ | ⟨hxv, hst⟩ | ⟨b, tv, p, hxT, hpk, hxv, hnb, hc0, hc1, _, _⟩
      · obtain ⟨f1, f2, f3, f4, f5⟩ := ta_quiet hq u
        have HS : Hid (wSum (treesOf (pre ++ [x])) = wSum (treesOf pre)) := by unfold Hid; rw [hsn, hwf]; omega
        rw [hxv]
        clear hxv hrx hsn hwf hq
        gi_wp2
        exact ⟨KeepsOthers.refl _, KpX.refl _ _ _, hall hst, by rw [HS.out]; exact g2, g3, g4, g5, g6⟩
      · have f := ta_line
        obtain ⟨f1, f2, f3, f4, f5⟩ := f
        rw [hxv]
        clear hxv hrx
        gi_wp2
        exact ⟨KeepsOthers.setCell _ _ _, ⟨pre, x, rfl, g1, hst, World.cell?_setCell_same' _ _ _ (by rw [g4]; rfl)⟩, (g6.mono (show w.heap.size ≤ w1.heap.size by omega)).setCell (p := ⟨w.heap.size, 0, none⟩) (Nat.le_refl _) _⟩
      · have f := ta_soft
        obtain ⟨f1, f2, f3, f4, f5⟩ := f
        rw [hxv]
        clear hxv hrx
        gi_wp2
        exact ⟨KeepsOthers.setCell _ _ _, ⟨pre, x, rfl, g1, hst, World.cell?_setCell_same' _ _ _ (by rw [g4]; rfl)⟩, (g6.mono (show w.heap.size ≤ w1.heap.size by omega)).setCell (p := ⟨w.heap.size, 0, none⟩) (Nat.le_refl _) _⟩
      · have f := ta_hard
        obtain ⟨f1, f2, f3, f4, f5⟩ := f
        rw [hxv]
        clear hxv hrx
        gi_wp2
        exact ⟨KeepsOthers.setCell _ _ _, ⟨pre, x, rfl, g1, hst, World.cell?_setCell_same' _ _ _ (by rw [g4]; rfl)⟩, (g6.mono (show w.heap.size ≤ w1.heap.size by omega)).setCell (p := ⟨w.heap.size, 0, none⟩) (Nat.le_refl _) _⟩
      · have f := ta_raw
        obtain ⟨f1, f2, f3, f4, f5⟩ := f
        rw [hxv]
        clear hxv hrx
        gi_wp2
        exact ⟨KeepsOthers.setCell _ _ _, ⟨pre, x, rfl, g1, hst, World.cell?_setCell_same' _ _ _ (by rw [g4]; rfl)⟩, (g6.mono (show w.heap.size ≤ w1.heap.size by omega)).setCell (p := ⟨w.heap.size, 0, none⟩) (Nat.le_refl _) _⟩
      · have f1 := ta_text (.pointer (some ⟨b, 0, none⟩))
        have hwt : wOf x.1.2 = widthR p.t := by rw [hxT]; simp [wOf, hpk]
        have hst : stops x.1.2 = false := by rw [hxT]; simp [stops, hpk]
        have HS : Hid (wSum (treesOf (pre ++ [x])) = wSum (treesOf pre) + widthR p.t) := by unfold Hid; rw [hsn, hwt]
        have hbt : b ≠ w1.heap.size := by omega
        have HA : Hid (∀ y ∈ pre ++ [x], stops y.1.2 = false) := hall hst
        rw [hxv]
        clear hxv hrx hsn hwt hall hst hxT
        generalize wSum (treesOf pre) = s0 at *
        generalize widthR p.t = wd at *
        gi_wp2
        gi_region_with (fail)
        all_goals gi_wp2
        all_goals
          refine ⟨(KeepsOthers.setCell _ _ _).trans (KeepsOthers.drew _), KpX.drewSet (Nat.le_refl _) g2 _ _, HA.out, ?_, ?_, ?_, ?_, ?_⟩
          · rw [HS.out]
            exact (World.cell?_setCell_same' W ⟨w1.heap.size, 0, none⟩ _ (by rw [g2]; rfl)).trans (by rw [wrapEq, wrap_add])
          · exact (World.frozen?_setCell ..).trans g3
          · exact (World.cell?_setCell_other W _ _ _ (by intro e; have := congrArg Addr.block e; simp at this; omega)).trans g4
          · exact (World.frozen?_setCell ..).trans g5
          · exact (g6.setCell (p := ⟨w1.heap.size, 0, none⟩) (Nat.le_refl _) _).drew
    case seq =>
      intro l R Rx W hW hR hRx hRW hI0 hY
      have hs3 : w3.heap.size ≤ W.heap.size := hW.size
      have hXt : ∀ b, Xt w1.heap.size W b → b = w1.heap.size := by
        intro b hb
        rcases hb with h | ⟨v, h, h'⟩
        · exact h
        · rw [hI0.2.1] at h; cases h; cases h'
      refine metIn1_in (n - 1) (by omega) l (w1.heap.size + 1) (w1.heap.size + 1 + 1) w1.heap.size w1.heap.size false w1 root _ _ R Rx _ (Nat.le_refl _) (by rw [hroot]; exact hszT) W hR ?_ hY ?_ ?_ hI0.2.2.2.2.2 (by omega) ?_ ?_ hI0 hRW
      · rintro s A B row ⟨g1, g2, g3, g4, g5, g6⟩ hg hrow
        have n1 : some w1.heap.size ≠ row := fun e => (hrow _ e.symm).2 (.inl rfl)
        have n2 : some w.heap.size ≠ row := fun e => by have := (hrow _ e.symm).1; omega
        have l1 := World.block_lt_of_cell? A _ g2
        have l2 := World.block_lt_of_cell? A _ g4
        exact ⟨g1, hg.cell g2 n1, (World.frozen?_of_block (hg.block _ l1 n1)).trans g3, hg.cell g4 n2, (World.frozen?_of_block (hg.block _ l2 n2)).trans g5, g6.grown hg g6.size (fun k e => by have := (hrow k e).1; omega)⟩
      · rw [hroot]; exact hbr.kept (grown_of_below hW) (by simp)
      · exact hbf.kept (grown_of_below hW) (by simp)
      · intro h; have := hXt _ h; omega
      · intro b hb; have := hXt b hb; omega
    case done =>
      rintro D ys W hD hS ⟨g1, g2, g3, g4, g5, g6⟩ hK
      have HW : Hid (wSum (treesOf ys) = (leadT T).1) := by
        have hT2 : root.1.2 = T := by rw [hroot]
        exact lead_done hokA (by rw [← hT2]; exact hS) (by intro x hx; simp only [treesOf, List.mem_map] at hx; obtain ⟨y, hy, rfl⟩ := hx; exact g1 y hy)
      have hwr : wrap64 (wSum (treesOf ys)) = (leadT T).1 := by rw [HW.out]; unfold wrap64; omega
      rw [hwr] at g2
      generalize (leadT T).1 = res at *
      gi_wp2
      have hK' := (KeepsOthers.setCell W ⟨w.heap.size, 0, none⟩ (.int .i64 res)).same D _ hK rfl
      refine ⟨by simp, .inl ⟨_, _, rfl, run_takeDeferred hK', ?_⟩⟩
      have hc5 := cell_kept (World.cell?_setCell_same' W ⟨w.heap.size, 0, none⟩ (.int .i64 res) (by rw [g4]; rfl)) (grownBy_putObj' _ D (.deferred none)) (fun r e => by cases e; exact ⟨_, hK', rfl⟩)
      refine ⟨.int .i64 res, ?_, by rw [HF.out], ?_⟩
      · simp [results, Tryd.f35, go_sem, hc5]
      · exact (hBw.trans ((g6.mono (show w.heap.size ≤ w1.heap.size by omega)).setCell (p := ⟨w.heap.size, 0, none⟩) (Nat.le_refl _) _)).trans ⟨rfl, rfl, rfl, by simp, fun k hk => World.putObj_heap_other (by omega)⟩
    case stop =>
      rintro D pre W hD hS ⟨⟨q, x, hq, g1, gx, g4⟩, g6⟩ hK
      have HW : Hid (wSum (treesOf q) = (leadT T).1) := by
        have hT2 : root.1.2 = T := by rw [hroot]
        refine lead_stop (x := x.1.2) hokA ?_ (by intro x hx; simp only [treesOf, List.mem_map] at hx; obtain ⟨y, hy, rfl⟩ := hx; exact g1 y hy) gx
        rw [← hT2]; rw [hq] at hS; simpa [treesOf] using hS
      have hwr : wrap64 (wSum (treesOf q)) = (leadT T).1 := by rw [HW.out]; unfold wrap64; omega
      rw [hwr] at g4
      generalize (leadT T).1 = res at *
      gi_wp2
      refine ⟨by simp, .inl ⟨_, _, rfl, run_takeDeferred hK, ?_⟩⟩
      have hc5 := cell_kept g4 (grownBy_putObj' _ D (.deferred none)) (fun r e => by cases e; exact ⟨_, hK, rfl⟩)
      refine ⟨.int .i64 res, ?_, by rw [HF.out], (hBw.trans g6).trans ⟨rfl, rfl, rfl, by simp, fun k hk => World.putObj_heap_other (by omega)⟩⟩
      simp [results, Tryd.f35, go_sem, hc5]
  · have HF : Hid (leadR doc = -1) := by unfold Hid leadR; rw [if_neg (by rw [hs]; simp)]
    clear ht1 htr hs
    gi_wp2
    refine ⟨.int .i64 (-1), ?_, by rw [HF.out], ?_⟩
    · simp [results, Tryd.f35, go_sem, hrc]
    · exact (((Below.refl _ w).alloc (Nat.le_refl _) _).trans (bel.mono (by simp))).setCell (p := ⟨w.heap.size, 0, none⟩) (Nat.le_refl _) _

theorem implLead_any (v : Value) (doc : List Pc) (w : World) (hv : RdP w.heap.size w v doc) (hd : Doc doc) (hT : Tab w) :
    Calls Tryd.prog 35 #[v] w fun e w' => e = .returned (.int .i64 (leadR doc)) ∧ w.grownBy w' none :=
  (callsIn_wide.1 (implLead_in 3 (Nat.le_refl _) v doc w hv hd hT)).mono fun _ _ h => ⟨h.1, grown_of_below h.2⟩

end Go.Proofs.YtbiiopiaglkicaaDoor
