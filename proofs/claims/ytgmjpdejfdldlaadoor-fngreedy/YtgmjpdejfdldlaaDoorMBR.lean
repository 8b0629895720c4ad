import Derived.Test.YtgmjpdejfdldlaaDoorMAA
import Derived.Test.YtgmjpdejfdldlaaDoorMBN
import Derived.Test.YtgmjpdejfdldlaaDoorMBQ
namespace Go.Proofs.YtgmjpdejfdldlaaDoor
open Go.RowKit Go.Shelf
attribute [local go_sem] Oper.semAt_some
attribute [-go_sem] Builtin.append_

/-- A node, as the switch sees it. -/
theorem node_kind {X : Nat → Prop} {B : Nat} {w : World} {v : Value} {T : Tr} (h : Rep X B w v T) :
    (∃ t u, v = .iface t u ∧ Quiet t ∧ bars T = false ∧ txOf T = []) ∨ (v = .iface 81 (.agg #[]) ∧ bars T = false ∧ txOf T = [32]) ∨ (v = .iface 128 (.agg #[]) ∧ bars T = false ∧ txOf T = []) ∨ (v = .iface 82 (.agg #[]) ∧ bars T = true) ∨
    (v = .iface 83 (.agg #[]) ∧ bars T = true) ∨ (∃ b tv p, T = .leaf p ∧ p.k = 1 ∧ v = .iface 75 (.pointer (some ⟨b, 0, none⟩)) ∧ ¬ X b ∧ w.cell? ⟨b, 0, none⟩ = some tv ∧ RdB B w tv p.t ∧ Sl tv p.t.length) := by
  cases T with
  | leaf p =>
    simp only [Rep] at h
    rcases h with h | h | h | h | h | ⟨h1, b, tv, h2, h3, h4, h5, h7, h8⟩
    · exact .inl ⟨_, _, h.2, .inl rfl, by simp [bars, h.1], by simp [txOf, h.1]⟩
    · exact .inr (.inl ⟨h.2, by simp [bars, h.1], by simp [txOf, h.1]⟩)
    · exact .inr (.inr (.inl ⟨h.2, by simp [bars, h.1], by simp [txOf, h.1]⟩))
    · exact .inr (.inr (.inr (.inl ⟨h.2, by simp [bars, h.1]⟩)))
    · exact .inr (.inr (.inr (.inr (.inl ⟨h.2, by simp [bars, h.1]⟩))))
    · exact .inr (.inr (.inr (.inr (.inr ⟨b, tv, p, rfl, h1, h2, h3, by simp [World.cell?, h5], h7, h8⟩))))
  | un p x =>
    simp only [Rep] at h
    obtain ⟨b, u, h3, h4, h5, h6, h7 | h7⟩ := h
    · exact .inl ⟨_, _, h7.2, .inr (.inl rfl), rfl, rfl⟩
    · exact .inl ⟨_, _, h7.2, .inr (.inr (.inl rfl)), rfl, rfl⟩
  | bin p x y =>
    simp only [Rep] at h
    obtain ⟨b, u, u', h3, h4, h5, h5', h6, h6', h7 | h7⟩ := h
    · exact .inl ⟨_, _, h7.2, .inr (.inr (.inr (.inl rfl))), rfl, rfl⟩
    · exact .inl ⟨_, _, h7.2, .inr (.inr (.inr (.inr rfl))), rfl, rfl⟩

/-- An append onto the row that the variable at tb holds. -/
theorem KpX.app {n₀ tb : Nat} {W w' : World} {tv v' : Value} (hc : W.cell? ⟨tb, 0, none⟩ = some tv) (hg : W.grownBy w' tv.ownBlock) (hn : n₀ ≤ tb) (hW : n₀ ≤ W.heap.size) (hrow : ∀ g, tv.ownBlock = some g → n₀ ≤ g) (htb : tv.ownBlock ≠ some tb)
    (hat : v'.ownBlock = tv.ownBlock ∨ ∃ g, v'.ownBlock = some g ∧ W.heap.size ≤ g ∧ g < w'.heap.size) : KpX n₀ tb W (w'.setCell ⟨tb, 0, none⟩ v') := by
  have hlt := World.block_lt_of_cell? W _ hc
  have hc' : w'.cell? ⟨tb, 0, none⟩ = some tv := hg.cell hc (fun e => htb e.symm)
  refine ⟨((Below.refl n₀ W).grown hg hW hrow).setCell (p := ⟨tb, 0, none⟩) hn _, fun b o ho _ hx => ?_, fun b hb => ?_⟩
  · rw [heap_setCell_other _ _ _ _ (fun e => hx (.inl (by simpa using e)))]
    exact (hg.block b (Array.getElem?_eq_some_iff.1 ho).1 (fun e => hx (.inr ⟨tv, hc, e.symm⟩))).trans ho
  · rcases hb with h | ⟨v, h, h'⟩
    · exact .inl (.inl h)
    · rw [World.cell?_setCell_same' _ _ _ (by rw [hc']; rfl)] at h
      cases h
      rcases hat with h2 | ⟨g, h2, h3, h4⟩
      · exact .inl (.inr ⟨tv, hc, by rw [← h2]; exact h'⟩)
      · rw [h2] at h'; cases h'; exact .inr (by simp; omega)

theorem keeps_app {W w' : World} {tv : Value} {b0 n : Nat} {xs : List Value} (hrow : W.ownsRow b0 5 1 tv n xs) (hg : W.grownBy w' tv.ownBlock) (a : Addr) (v' : Value) : KeepsOthers W (w'.setCell a v') := by
  refine (KeepsOthers.of_grownBy hg (fun j o e ho => ?_)).trans (KeepsOthers.setCell _ _ _)
  rcases hrow.2 with ⟨h1, _⟩ | ⟨g2, cap2, cur, hv, _, hg2, _⟩
  · rw [h1] at e; cases e
  · rw [hv] at e; cases e; rw [hg2] at ho; cases ho; rfl

/-- The text so far, in the variable at tb. -/
structure Txt (w1 w3 : World) (tb n : Nat) (o : List Int) (W : World) : Prop where
  cell : ∃ tv, W.cell? ⟨tb, 0, none⟩ = some tv ∧ OwB w3.heap.size W tv o
  froz : W.frozen? ⟨tb, 0, none⟩ = false
  len : o.length ≤ 140001 * n
  bel : Below w1.heap.size w1 W


theorem Txt.step {w1 w3 A B : World} {tb n : Nat} {o : List Int} {row : Option Nat} (h : Txt w1 w3 tb n o A) (hg : A.grownBy B row) (hrow : ∀ g, row = some g → w1.heap.size ≤ g ∧ ¬ Xt tb A g) : Txt w1 w3 tb n o B := by
  obtain ⟨⟨tv, hc, hO⟩, hf, hl, hb⟩ := h
  have hne : some tb ≠ row := fun e => (hrow tb e.symm).2 (.inl rfl)
  refine ⟨⟨tv, hg.cell hc hne, World.ownsRow.kept hO hg ?_⟩, (World.frozen?_of_block (hg.block tb (World.block_lt_of_cell? A _ hc) hne)).trans hf, hl, hb.grown hg hb.size (fun k e => (hrow k e).1)⟩
  cases hv : tv.ownBlock with
  | none => exact .inl rfl
  | some g => exact .inr (fun e => (hrow g e.symm).2 (.inr ⟨tv, hc, hv⟩))

theorem Txt.notCells {w1 w3 W : World} {tb n : Nat} {o : List Int} (h : Txt w1 w3 tb n o W) {l : Nat} {ob : Obj} (hl : W.heap[l]? = some ob) (hc : ob.isCells = false) : ¬ Xt tb W l := by
  obtain ⟨⟨tv, hcell, hO⟩, _, _, _⟩ := h
  intro hx
  rcases hx with e | ⟨v, e1, e2⟩
  · subst e
    unfold World.cell? at hcell
    simp only [hl] at hcell
    cases ob <;> simp_all [Obj.isCells]
  · rw [hcell] at e1; cases e1
    rcases hO.2 with ⟨h1, _⟩ | ⟨g2, cap2, cur, hv, _, hg2, _⟩
    · rw [h1] at e2; cases e2
    · rw [hv] at e2; cases e2; rw [hg2] at hl; cases hl; cases hc

theorem Txt.high {w1 w3 W : World} {tb n : Nat} {o : List Int} (h : Txt w1 w3 tb n o W) {b : Nat} (hx : Xt tb W b) : b < W.heap.size ∧ (b = tb ∨ w3.heap.size ≤ b) := by
  obtain ⟨⟨tv, hcell, hO⟩, _, _, _⟩ := h
  rcases hx with e | ⟨v, e1, e2⟩
  · subst e; exact ⟨World.block_lt_of_cell? W _ hcell, .inl rfl⟩
  · rw [hcell] at e1; cases e1
    have := World.ownsRow.lt hO b e2
    exact ⟨this.2, .inr this.1⟩

/-- The variable at tb behind an append. -/
theorem Txt.app {w1 w3 W w' : World} {tb n : Nat} {o t : List Int} {tv v' : Value} (h : Txt w1 w3 tb n o W) (hc : W.cell? ⟨tb, 0, none⟩ = some tv) (ht : t.length ≤ 140000) (h13 : w1.heap.size ≤ tb ∧ tb < w3.heap.size)
    (hO' : OwB w3.heap.size w' v' (o ++ t)) (hg : W.grownBy w' tv.ownBlock) (hat : v'.ownBlock = tv.ownBlock ∨ ∃ g, v'.ownBlock = some g ∧ W.heap.size ≤ g) :
    Txt w1 w3 tb (n + 1) (o ++ t) (w'.setCell ⟨tb, 0, none⟩ v') ∧ KpX w1.heap.size tb W (w'.setCell ⟨tb, 0, none⟩ v') ∧ KeepsOthers W (w'.setCell ⟨tb, 0, none⟩ v') := by
  obtain ⟨⟨tv2, hc2, hO⟩, hf, hl, hb⟩ := h
  rw [hc] at hc2; cases hc2
  have hlt := World.ownsRow.lt hO
  have hlt' := World.ownsRow.lt hO'
  have htb : tv.ownBlock ≠ some tb := fun e => by have := hlt tb e; omega
  have hvb : v'.ownBlock ≠ some tb := fun e => by have := hlt' tb e; omega
  have hc' : w'.cell? ⟨tb, 0, none⟩ = some tv := hg.cell hc (fun e => htb e.symm)
  have hat' : v'.ownBlock = tv.ownBlock ∨ ∃ g, v'.ownBlock = some g ∧ W.heap.size ≤ g ∧ g < w'.heap.size := by
    rcases hat with h | ⟨g, h1, h2⟩
    · exact .inl h
    · exact .inr ⟨g, h1, h2, (hlt' g h1).2⟩
  have hk := KpX.app (n₀ := w1.heap.size) hc hg h13.1 hb.size (fun g e => by have := hlt g e; omega) htb hat'
  refine ⟨⟨⟨v', World.cell?_setCell_same' _ _ _ (by rw [hc']; rfl), row_set hO' _ _ hvb⟩, ?_, by simp; omega, hb.trans hk.bel⟩, hk, keeps_app hO hg _ _⟩
  rw [World.frozen?_setCell]
  exact (World.frozen?_of_block (hg.block tb (World.block_lt_of_cell? W _ hc) (fun e => htb e.symm))).trans hf

/-- The results' cells, as they were laid. -/
structure Res (r : Nat) (W : World) : Prop where
  a : W.cell? ⟨r, 0, none⟩ = some (.slice none 0 0)
  fa : W.frozen? ⟨r, 0, none⟩ = false
  b : W.cell? ⟨r + 1, 0, none⟩ = some (.bool false)
  fb : W.frozen? ⟨r + 1, 0, none⟩ = false
theorem Res.keep {r : Nat} {A B : World} (h : Res r A) (h1 : B.heap[r]? = A.heap[r]?) (h2 : B.heap[r + 1]? = A.heap[r + 1]?) : Res r B :=
  ⟨(World.cell?_of_block (a := ⟨r, 0, none⟩) h1).trans h.a, (World.frozen?_of_block (a := ⟨r, 0, none⟩) h1).trans h.fa, (World.cell?_of_block (a := ⟨r + 1, 0, none⟩) h2).trans h.b, (World.frozen?_of_block (a := ⟨r + 1, 0, none⟩) h2).trans h.fb⟩
theorem Res.lt {r : Nat} {W : World} (h : Res r W) : r + 1 < W.heap.size := World.block_lt_of_cell? W _ h.b

set_option maxRecDepth 100000 in
set_option maxHeartbeats 4000000 in
theorem implFlat_in (n : Nat) (hn : 3 ≤ n) (v : Value) (doc : List Pc) (w : World) (hv : RdP w.heap.size w v doc) (hd : Doc doc) (hT : Tab w) :
    CallsIn Fence.wide n Tryd.prog 12 #[v] w fun e w' => ∃ v', e = .returned (.tuple #[v', .bool (flatB doc)]) ∧ OwB w.heap.size w' v' (flatL doc) ∧ Below w.heap.size w w' := by
  have h1 : 1 ≤ n := by omega
  have hn1 : ∀ (t : TypeId) (u : Value) (w : World), (binOp .eql 70 (.iface t u) .nilIface).run Tryd.prog w = .ok (.bool false) w := fun _ _ _ => rfl
  have hn2 : ∀ (w : World), (binOp .eql 70 .nilIface .nilIface).run Tryd.prog w = .ok (.bool true) w := fun _ => rfl
  obtain ⟨a, cap, hv0, _⟩ := id hv
  obtain ⟨wa, hwa⟩ : ∃ wa, (w.alloc (.cells #[.slice none 0 0] 22)).alloc (.cells #[.bool false] 4) = wa := ⟨_, rfl⟩
  have hga : w.grownBy wa none := by rw [← hwa]; exact grown_trans (World.grownBy_alloc _ _ _) (World.grownBy_alloc _ _ _)
  have hsa : wa.heap.size = w.heap.size + 2 := by rw [← hwa]; simp
  have hra : Res w.heap.size wa := by rw [← hwa]; exact ⟨by simp [go_sem], by simp [go_sem], by simp [go_sem], by simp [go_sem]⟩
  have htr := treeOf_any v doc wa ((hv.keep hga).wide hga.size) hd (hT.keep hga)
  subst hv0
  clear hv hT
  refine callsIn_of_wp_marks Tryd.func12 rfl trivial ?_ rfl
  simp only [Tryd.ntmps12, List.size_toArray, List.length_cons, List.length_nil, Nat.reduceAdd, Nat.reduceSub, Array.replicate_succ, Array.replicate_zero, List.push_toArray, List.append_toArray, List.nil_append, List.cons_append]
  gi_wp2_with fail
  refine ⟨trivial, (callsIn_wide.2 htr).mono ?_⟩
  intro e w1 ht1
  obtain ⟨bel, h2⟩ := treeOf_says ht1
  have hr1 : Res w.heap.size w1 := hra.keep (bel.block _ (by omega)) (bel.block _ (by omega))
  have hBw : Below w.heap.size w w1 := (below_of_grown hga).trans (bel.mono (by omega))
  have hws : w.heap.size + 2 ≤ w1.heap.size := by have := bel.size; omega
  rcases h2 with ⟨hs, T, u, hbd, hseg, rfl, hr⟩ | ⟨hs, rfl⟩
  · obtain ⟨tr, ur, hform⟩ := hr.form
    subst hform
    clear ht1 htr
    gi_wp2_with fail
    refine ⟨trivial, (metIn_in _ _ _ _ _).mono ?_⟩
    rintro e w2 ⟨rfl, rfl⟩
    gi_wp2_with fail
    have HF : Hid (flatR doc = flatT T []) := by unfold Hid flatR; rw [if_pos hs, hbd]
    have hszT := spec_sz doc hs T hbd
    obtain ⟨root, hroot⟩ : ∃ root : Nd w1.heap.size w1, root.1 = (.iface tr ur, T) := ⟨⟨(.iface tr ur, T), (hr.base (by have := bel.size; exact this)).turn (Nat.le_refl _) (fun _ _ _ => rfl) (fun b hb h => by omega) (fun _ _ h => h), hszT⟩, rfl⟩
    obtain ⟨w3, hw3⟩ : ∃ w3, ((w1.alloc (.cells #[.slice none 0 0] 22)).alloc (.cells #[.iface tr ur] 70)).alloc (.cells #[.bool true] 4) = w3 := ⟨_, rfl⟩
    have hsz3 : w3.heap.size = w1.heap.size + 3 := by rw [← hw3]; simp
    have hb3 : Below w1.heap.size w1 w3 := by rw [← hw3]; exact (((Below.refl _ w1).alloc (Nat.le_refl _) _).alloc (by simp) _).alloc (by simp; omega) _
    have hct : w3.cell? ⟨w1.heap.size, 0, none⟩ = some (.slice none 0 0) ∧ w3.frozen? ⟨w1.heap.size, 0, none⟩ = false := by rw [← hw3]; constructor <;> simp [go_sem]
    have hbr : Boxed w3 (w1.heap.size + 1) 70 (.iface tr ur) := by
      rw [← hw3]
      have := Boxed.new (w1.alloc (.cells #[.slice none 0 0] 22)) 70 (.iface tr ur)
      rw [World.size_alloc] at this
      exact this.kept (World.grownBy_alloc _ _ none) (by simp)
    have hbf : Boxed w3 (w1.heap.size + 1 + 1) 4 (.bool true) := by
      rw [← hw3]
      have := Boxed.new ((w1.alloc (.cells #[.slice none 0 0] 22)).alloc (.cells #[.iface tr ur] 70)) 4 (.bool true)
      simpa using this
    rw [hw3]
    have hr3 : Res w.heap.size w3 := hr1.keep (hb3.block _ (by omega)) (hb3.block _ (by omega))
    clear hr hbd hseg hga hs bel hd hw3 hwa hra hr1
    refine range_known rfl h1 (gf := 52) (lb := #[.pointer (some ⟨w1.heap.size + 1, 0, none⟩), .pointer (some ⟨w1.heap.size + 1 + 1, 0, none⟩)]) rfl trivial (enters_of Tryd.func52 (by kernel_rfl) rfl)
      (fun x : Nd w1.heap.size w1 => #[x.1.1]) (fun _ => rfl)
      (fun pre W => (∀ x ∈ pre, bars x.1.2 = false) ∧ Txt w1 w3 w1.heap.size pre.length (txs (treesOf pre)) W ∧ Res w.heap.size W ∧ w3.heap.size ≤ W.heap.size)
      (fun pre W => (∃ q x, pre = q ++ [x] ∧ (∀ y ∈ q, bars y.1.2 = false) ∧ bars x.1.2 = true) ∧ Res w.heap.size W ∧ Below w.heap.size w1 W)
      (KpX w1.heap.size w1.heap.size) (fun ys => treesOf ys = preo true root.1.2) (fun pre => treesOf pre <+: preo true root.1.2) (preo true root.1.2).length
      ?Ik ?Ixk ?Kk (fun _ _ _ h k => h.trans k) ?h0
      (fun x => { tmps := #[.slice a doc.length cap, undef, .pointer (some ⟨w.heap.size, 0, none⟩), .pointer (some ⟨w.heap.size + 1, 0, none⟩), .iface tr ur, .pointer (some ⟨w1.heap.size, 0, none⟩), x.1.1, undef, undef, undef, .slice a doc.length cap, .iface tr ur, .iface tr ur, .bool false, .iface tr ur, .func (.func 52) #[] #[.pointer (some ⟨w1.heap.size + 1, 0, none⟩), .pointer (some ⟨w1.heap.size + 1 + 1, 0, none⟩)], x.1.1, undef, undef, undef, undef, undef, undef, undef, undef, undef, undef, undef, undef, undef, undef, undef, undef, undef, undef, undef, undef, undef, undef, undef, undef], defers := [] })
      ?assign ?body ?seq ?done ?stop
    case Ik =>
      rintro s W l o o' hl ho hc ⟨g1, g2, g3, g4⟩
      exact ⟨g1, g2.step (grownBy_putObj' W l o') (fun g e => by cases e; exact ⟨by omega, g2.notCells ho hc⟩), g3.keep (World.putObj_heap_other (by omega)) (World.putObj_heap_other (by omega)), by simpa using g4⟩
    case Ixk =>
      rintro s W l o o' hl ho hc ⟨g1, g3, g6⟩
      exact ⟨g1, g3.keep (World.putObj_heap_other (by omega)) (World.putObj_heap_other (by omega)), g6.trans ⟨rfl, rfl, rfl, by simp, fun k hk => World.putObj_heap_other (by omega)⟩⟩
    case Kk =>
      intro W l o o' hl ho hc
      exact KpX.put o' (by omega) (by omega) ho hc
    case h0 =>
      intro o1 o2
      have gg : w3.grownBy ((w3.alloc o1).alloc o2) none := grown_trans (World.grownBy_alloc _ _ _) (World.grownBy_alloc _ _ _)
      refine ⟨by simp, ?_, hr3.keep (gg.block _ (by have := hr3.lt; omega) (by simp)) (gg.block _ (by have := hr3.lt; omega) (by simp)), by simp; omega⟩
      have t0 : Txt w1 w3 w1.heap.size 0 [] w3 := ⟨⟨_, hct.1, World.ownsRow_nil _ _ _ _⟩, hct.2, by simp, hb3⟩
      exact t0.step gg (fun g e => by cases e)
    case assign =>
      intro l x W K hK
      gi_wp2
      exact hK
    case body =>
      rintro l pre x W ⟨g1, g2, g3, g4⟩ hlt
      have hrx := Rep.below x.2.1 g2.bel
      have hxz := x.2.2
      have ca := g3.a; have cb := g3.b; have fa := g3.fa; have fb := g3.fb
      have hall : bars x.1.2 = false → ∀ y ∈ pre ++ [x], bars y.1.2 = false := by
        intro h y hy
        rcases List.mem_append.1 hy with h2 | h2
        · exact g1 y h2
        · simp at h2; subst h2; exact h
      have hsn : txs (treesOf (pre ++ [x])) = txs (treesOf pre) ++ txOf x.1.2 := by simp only [treesOf, List.map_append, List.map_cons, List.map_nil]; exact txs_snoc _ _
      have hlen : (pre ++ [x]).length = pre.length + 1 := by simp
      rcases node_kind hrx with ⟨t, u, hxv, hq, hst, hwf⟩ | ⟨hxv, hst, hwf⟩ | ⟨hxv, hst, hwf⟩ | ⟨hxv, hst⟩ | ⟨hxv, hst⟩ | ⟨b, ntv, p, hxT, hpk, hxv, hnb, hc0, hrd, hsl⟩
      · obtain ⟨f1, f2, f3, f4, f5⟩ := ta_quiet hq u
        have HS : Hid (txs (treesOf (pre ++ [x])) = txs (treesOf pre)) := by unfold Hid; rw [hsn, hwf]; simp
        rw [hxv]
        clear hxv hrx hsn hwf
        gi_wp2
        refine ⟨KeepsOthers.refl _, KpX.refl _ _ _, hall hst, ?_, g3, g4⟩
        rw [HS.out]
        exact ⟨g2.cell, g2.froz, by have := g2.len; simp; omega, g2.bel⟩
      · obtain ⟨f1, f2, f3, f4, f5⟩ := ta_line
        obtain ⟨i0, hi, hz0, hz1, hz2⟩ := info_parts info5
        obtain ⟨tv, hc, hO⟩ := g2.cell
        have fr := g2.froz
        have hol := g2.len
        have hNl : pre.length ≤ 140000 := by
          have := preos_len true [root.1.2]
          simp only [preos, szs, List.append_nil] at this
          rw [hroot] at this hlt
          simp only at this hlt
          omega
        have gg : W.grownBy ((W.alloc (.cells #[] 81)).alloc (.cells #[.int .u8 32] 5)) none := grown_trans (World.grownBy_alloc _ _ _) (World.grownBy_alloc _ _ _)
        obtain ⟨v', w', hrun, hown', hgrow, _, hat⟩ := run_append_own_at (P := Tryd.prog) ((W.alloc (.cells #[] 81)).alloc (.cells #[.int .u8 32] 5)) w3.heap.size 22 22 5 i0 (.int .u8 0) 1 1 Tryd.underlying22 hi hz0 hz1 hz2 rfl (by decide) tv _ _ (hO.later gg) ⟨W.heap.size + 1, 0, none⟩ 1 1 [.int .u8 32] rfl (by have := cell_one_new (W.alloc (.cells #[] 81)) (.int .u8 32) 5; rw [World.size_alloc] at this; exact this) (by intro u hu; simp at hu; subst hu; rfl) (by unfold maxLen; omega) (by omega) (by simp; omega)
        have hgW : W.grownBy w' tv.ownBlock := ⟨hgrow.os.trans gg.os, hgrow.tape.trans gg.tape, hgrow.output.trans gg.output, Nat.le_trans gg.size hgrow.size, fun i hi hn => (hgrow.block i (Nat.lt_of_lt_of_le hi gg.size) hn).trans (gg.block i hi (by simp))⟩
        have hatW : v'.ownBlock = tv.ownBlock ∨ ∃ g, v'.ownBlock = some g ∧ W.heap.size ≤ g := by
          rcases hat with h | h
          · exact .inl h
          · exact .inr ⟨_, h, by simp; omega⟩
        have hO' : OwB w3.heap.size w' v' (txs (treesOf pre) ++ [32]) := by unfold OwB Ow; simpa using hown'
        obtain ⟨k1, k2, k3⟩ := g2.app hc (t := [32]) (by simp) ⟨Nat.le_refl _, by omega⟩ hO' hgW hatW
        have HT : Hid (Txt w1 w3 w1.heap.size (pre.length + 1) (txs (treesOf pre) ++ [32]) (w'.setCell ⟨w1.heap.size, 0, none⟩ v')) := k1
        have HK : Hid (KpX w1.heap.size w1.heap.size W (w'.setCell ⟨w1.heap.size, 0, none⟩ v')) := k2
        have htb : tv.ownBlock ≠ some w1.heap.size := fun e => by have := World.ownsRow.lt hO w1.heap.size e; omega
        have hcw : w'.cell? ⟨w1.heap.size, 0, none⟩ = some tv := hgW.cell hc (fun e => htb e.symm)
        have hfw : w'.frozen? ⟨w1.heap.size, 0, none⟩ = false := (World.frozen?_of_block (hgW.block w1.heap.size (World.block_lt_of_cell? W _ hc) (fun e => htb e.symm))).trans fr
        have HR : Hid (Res w.heap.size (w'.setCell ⟨w1.heap.size, 0, none⟩ v')) := by
          have hlt3 := g3.lt
          refine g3.keep ?_ ?_
          · rw [heap_setCell_other _ _ _ _ (by simp; omega)]; exact hgW.block _ (by omega) (fun e => by have := World.ownsRow.lt hO _ e.symm; omega)
          · rw [heap_setCell_other _ _ _ _ (by simp; omega)]; exact hgW.block _ (by omega) (fun e => by have := World.ownsRow.lt hO _ e.symm; omega)
        have HS : Hid (txs (treesOf (pre ++ [x])) = txs (treesOf pre) ++ [32]) := by unfold Hid; rw [hsn, hwf]
        have hgs := hgW.size
        obtain ⟨ta, tcap, htv, _, _⟩ := row_form hO
        obtain ⟨va, vcap, hvv, _, _⟩ := row_form hO'
        rw [List.length_append] at hvv
        simp only [List.length_cons, List.length_nil, Nat.zero_add] at hvv
        have hcl : (W.alloc (.cells #[] 81)).cell? ⟨w1.heap.size, 0, none⟩ = some tv := cell_alloc1 _ hc
        have HA := hall hst
        rw [hxv]
        clear hxv hrx hsn hwf hO hO' hown' hall htb hgrow hat hatW hgW k1 k2 g2 g3 gg hi hz0 hz1 hz2
        subst htv hvv
        gi_wp2
        all_goals exact ⟨k3, HK.out, HA, by rw [hlen, HS.out]; exact HT.out, HR.out, by simp; omega⟩
      · obtain ⟨f1, f2, f3, f4, f5⟩ := ta_soft
        have HS : Hid (txs (treesOf (pre ++ [x])) = txs (treesOf pre)) := by unfold Hid; rw [hsn, hwf]; simp
        rw [hxv]
        clear hxv hrx hsn hwf
        gi_wp2
        refine ⟨KeepsOthers.refl _, KpX.refl _ _ _, hall hst, ?_, g3, g4⟩
        rw [HS.out]
        exact ⟨g2.cell, g2.froz, by have := g2.len; simp; omega, g2.bel⟩
      · obtain ⟨f1, f2, f3, f4, f5⟩ := ta_hard
        rw [hxv]
        clear hxv hrx hsn
        gi_wp2
        refine ⟨(KeepsOthers.setCell _ _ _).trans (KeepsOthers.setCell _ _ _), ⟨pre, x, rfl, g1, hst⟩, ⟨by simp [go_sem, ca], by simpa using fa, by simp [go_sem, cb], by simpa using fb⟩, ?_⟩
        exact (((g2.bel).mono (show w.heap.size ≤ w1.heap.size by omega)).setCell (p := ⟨w.heap.size, 0, none⟩) (Nat.le_refl _) _).setCell (p := ⟨w.heap.size + 1, 0, none⟩) (by simp) _
      · obtain ⟨f1, f2, f3, f4, f5⟩ := ta_raw
        rw [hxv]
        clear hxv hrx hsn
        gi_wp2
        refine ⟨(KeepsOthers.setCell _ _ _).trans (KeepsOthers.setCell _ _ _), ⟨pre, x, rfl, g1, hst⟩, ⟨by simp [go_sem, ca], by simpa using fa, by simp [go_sem, cb], by simpa using fb⟩, ?_⟩
        exact (((g2.bel).mono (show w.heap.size ≤ w1.heap.size by omega)).setCell (p := ⟨w.heap.size, 0, none⟩) (Nat.le_refl _) _).setCell (p := ⟨w.heap.size + 1, 0, none⟩) (by simp) _
      · have f1 := ta_text (.pointer (some ⟨b, 0, none⟩))
        have hst : bars x.1.2 = false := by rw [hxT]; simp [bars, hpk]
        have hwf : txOf x.1.2 = p.t := by rw [hxT]; simp [txOf, hpk]
        have hpl : p.t.length ≤ 140000 := by rw [hxT] at hxz; simp only [sz] at hxz; omega
        obtain ⟨tv, hc, hO⟩ := g2.cell
        have fr := g2.froz
        have hol := g2.len
        have hNl : pre.length ≤ 140000 := by
          have := preos_len true [root.1.2]
          simp only [preos, szs, List.append_nil] at this
          rw [hroot] at this hlt
          simp only at this hlt
          omega
        obtain ⟨v', w', hrun, hO', hgrow, hat⟩ := append_text w3.heap.size w1.heap.size W.drew tv ntv (txs (treesOf pre)) p.t hO hrd g4 (by omega)
        have hgW : W.grownBy w' tv.ownBlock := ⟨hgrow.os, hgrow.tape, hgrow.output, hgrow.size, hgrow.block⟩
        have hatW : v'.ownBlock = tv.ownBlock ∨ ∃ g, v'.ownBlock = some g ∧ W.heap.size ≤ g := by
          rcases hat with h | h
          · exact .inl h
          · exact .inr ⟨_, h, Nat.le_refl _⟩
        obtain ⟨k1, k2, k3⟩ := g2.app hc (t := p.t) hpl ⟨Nat.le_refl _, by omega⟩ hO' hgW hatW
        have HT : Hid (Txt w1 w3 w1.heap.size (pre.length + 1) (txs (treesOf pre) ++ p.t) (w'.setCell ⟨w1.heap.size, 0, none⟩ v')) := k1
        have HK : Hid (KpX w1.heap.size w1.heap.size W (w'.setCell ⟨w1.heap.size, 0, none⟩ v')) := k2
        have htb : tv.ownBlock ≠ some w1.heap.size := fun e => by have := World.ownsRow.lt hO w1.heap.size e; omega
        have hcw : w'.cell? ⟨w1.heap.size, 0, none⟩ = some tv := hgW.cell hc (fun e => htb e.symm)
        have hfw : w'.frozen? ⟨w1.heap.size, 0, none⟩ = false := (World.frozen?_of_block (hgW.block w1.heap.size (World.block_lt_of_cell? W _ hc) (fun e => htb e.symm))).trans fr
        have HR : Hid (Res w.heap.size (w'.setCell ⟨w1.heap.size, 0, none⟩ v')) := by
          have hlt3 := g3.lt
          refine g3.keep ?_ ?_
          · rw [heap_setCell_other _ _ _ _ (by simp; omega)]; exact hgW.block _ (by omega) (fun e => by have := World.ownsRow.lt hO _ e.symm; omega)
          · rw [heap_setCell_other _ _ _ _ (by simp; omega)]; exact hgW.block _ (by omega) (fun e => by have := World.ownsRow.lt hO _ e.symm; omega)
        have HS : Hid (txs (treesOf (pre ++ [x])) = txs (treesOf pre) ++ p.t) := by unfold Hid; rw [hsn, hwf]
        have hgs := hgW.size
        have HA := hall hst
        obtain ⟨ta, tcap, htv, _, _⟩ := row_form hO
        obtain ⟨va, vcap, hvv, _, _⟩ := row_form hO'
        obtain ⟨na, ncap, hnv, _, _⟩ := hsl
        rw [List.length_append] at hvv
        rw [hxv]
        clear htb hxv hrx hsn hwf hO hO' hgrow hat hatW hgW k1 k2 g2 g3 hall hxT
        subst htv hvv hnv
        gi_wp2
        gi_region_with (fail)
        all_goals gi_wp2
        all_goals exact ⟨k3, HK.out, HA, by rw [hlen, HS.out]; exact HT.out, HR.out, by simp; omega⟩
    case seq =>
      intro l R Rx W hW hR hRx hRW hI0 hY
      have hs3 : w3.heap.size ≤ W.heap.size := hW.size
      refine metIn1_in (n - 1) (by omega) l (w1.heap.size + 1) (w1.heap.size + 1 + 1) w1.heap.size w1.heap.size true w1 root _ _ R Rx _ (Nat.le_refl _) (by rw [hroot]; exact hszT) W hR ?_ hY ?_ ?_ hI0.2.1.bel (by omega) ?_ ?_ hI0 hRW
      · rintro s A B row ⟨g1, g2, g3, g4⟩ hg hrow
        refine ⟨g1, g2.step hg (fun g e => ⟨by have := (hrow g e).1; omega, (hrow g e).2⟩), g3.keep ?_ ?_, Nat.le_trans g4 hg.size⟩
        · exact hg.block _ (by have := g3.lt; omega) (fun e => by have := (hrow _ e.symm).1; omega)
        · exact hg.block _ g3.lt (fun e => by have := (hrow _ e.symm).1; omega)
      · rw [hroot]; exact hbr.kept (grown_of_below hW) (by simp)
      · exact hbf.kept (grown_of_below hW) (by simp)
      · intro h; have := hI0.2.1.high h; omega
      · intro b hb; exact (hI0.2.1.high hb).1
    case done =>
      rintro D ys W hD hS ⟨g1, g2, g3, g4⟩ hK
      have hT2 : root.1.2 = T := by rw [hroot]
      have HW : Hid (flatB doc = true ∧ flatL doc = txs (treesOf ys)) := by
        have := flat_done (T := T) (ys := treesOf ys) (by rw [← hT2]; exact hS) (by intro x hx; simp only [treesOf, List.mem_map] at hx; obtain ⟨y, hy, rfl⟩ := hx; exact g1 y hy)
        unfold Hid flatB flatL
        rw [HF.out, this]
        exact ⟨rfl, rfl⟩
      obtain ⟨tv, hc, hO⟩ := g2.cell
      have hbelW := g2.bel
      obtain ⟨ta, tcap, htv, _, _⟩ := row_form hO
      have ca := g3.a; have cb := g3.b; have fa := g3.fa; have fb := g3.fb
      have HO : Hid (OwB w3.heap.size W tv (txs (treesOf ys))) := hO
      have hlo := World.ownsRow.lt hO
      clear hO g2 g3 g1
      generalize txs (treesOf ys) = o at *
      subst htv
      gi_wp2
      have hK' := ((KeepsOthers.setCell W ⟨w.heap.size, 0, none⟩ (.slice ta o.length tcap)).trans (KeepsOthers.setCell _ ⟨w.heap.size + 1, 0, none⟩ (.bool true))).same D _ hK rfl
      refine ⟨by simp, .inl ⟨_, _, rfl, run_takeDeferred hK', ?_⟩⟩
      have c1 : ((W.setCell ⟨w.heap.size, 0, none⟩ (.slice ta o.length tcap)).setCell ⟨w.heap.size + 1, 0, none⟩ (.bool true)).cell? ⟨w.heap.size, 0, none⟩ = some (.slice ta o.length tcap) := by simp [go_sem, ca]
      have c2 : ((W.setCell ⟨w.heap.size, 0, none⟩ (.slice ta o.length tcap)).setCell ⟨w.heap.size + 1, 0, none⟩ (.bool true)).cell? ⟨w.heap.size + 1, 0, none⟩ = some (.bool true) := by simp [go_sem, cb]
      have hc5 := cell_kept c1 (grownBy_putObj' _ D (.deferred none)) (fun r e => by cases e; exact ⟨_, hK', rfl⟩)
      have hc6 := cell_kept c2 (grownBy_putObj' _ D (.deferred none)) (fun r e => by cases e; exact ⟨_, hK', rfl⟩)
      refine ⟨.tuple #[.slice ta o.length tcap, .bool true], ?_, .slice ta o.length tcap, by rw [HW.out.1], ?_, ?_⟩
      · simp [results, Tryd.f12, go_sem, hc5, hc6]
      · rw [HW.out.2]
        exact row_base (by omega) (ownsRow_putObj (row_set (row_set HO.out ⟨w.heap.size, 0, none⟩ (.slice ta o.length tcap) (fun e => by have := hlo _ e; simp at this; omega)) ⟨w.heap.size + 1, 0, none⟩ (.bool true) (fun e => by have := hlo _ e; simp at this; omega)) _ hK' rfl)
      · exact (((hBw.trans (hbelW.mono (show w.heap.size ≤ w1.heap.size by omega))).setCell (p := ⟨w.heap.size, 0, none⟩) (Nat.le_refl _) _).setCell (p := ⟨w.heap.size + 1, 0, none⟩) (by simp) _).trans ⟨rfl, rfl, rfl, by simp, fun k hk => World.putObj_heap_other (by omega)⟩
    case stop =>
      rintro D pre W hD hS ⟨⟨q, x, hq, g1, gx⟩, g3, g6⟩ hK
      have hT2 : root.1.2 = T := by rw [hroot]
      have HW : Hid (flatB doc = false ∧ flatL doc = []) := by
        have := flat_stop (T := T) (q := treesOf q) (x := x.1.2) (by rw [← hT2]; rw [hq] at hS; simpa [treesOf] using hS) (by intro x hx; simp only [treesOf, List.mem_map] at hx; obtain ⟨y, hy, rfl⟩ := hx; exact g1 y hy) gx
        unfold Hid flatB flatL
        rw [HF.out, this]
        exact ⟨rfl, rfl⟩
      have ca := g3.a; have cb := g3.b
      clear g3 g1 hq
      gi_wp2
      refine ⟨by simp, .inl ⟨_, _, rfl, run_takeDeferred hK, ?_⟩⟩
      have hc5 := cell_kept ca (grownBy_putObj' _ D (.deferred none)) (fun r e => by cases e; exact ⟨_, hK, rfl⟩)
      have hc6 := cell_kept cb (grownBy_putObj' _ D (.deferred none)) (fun r e => by cases e; exact ⟨_, hK, rfl⟩)
      refine ⟨.tuple #[.slice none 0 0, .bool false], ?_, .slice none 0 0, by rw [HW.out.1], by rw [HW.out.2]; exact World.ownsRow_nil _ _ _ _, (hBw.trans g6).trans ⟨rfl, rfl, rfl, by simp, fun k hk => World.putObj_heap_other (by omega)⟩⟩
      simp [results, Tryd.f12, go_sem, hc5, hc6]
  · have H1 : Hid (flatB doc = false ∧ flatL doc = []) := by unfold Hid flatB flatL flatR; rw [if_neg (by rw [hs]; simp)]; exact ⟨rfl, rfl⟩
    have ca := hr1.a; have cb := hr1.b; have fa := hr1.fa; have fb := hr1.fb
    clear ht1 htr hs
    gi_wp2
    refine ⟨.tuple #[.slice none 0 0, .bool false], ?_, .slice none 0 0, by rw [H1.out.1], by rw [H1.out.2]; exact World.ownsRow_nil _ _ _ _, ?_⟩
    · simp [results, Tryd.f12, go_sem, ca, cb]
    · exact (hBw.setCell (p := ⟨w.heap.size, 0, none⟩) (Nat.le_refl _) _).setCell (p := ⟨w.heap.size + 1, 0, none⟩) (by simp) _

theorem implFlat_any (v : Value) (doc : List Pc) (w : World) (hv : RdP w.heap.size w v doc) (hd : Doc doc) (hT : Tab w) :
    Calls Tryd.prog 12 #[v] w fun e w' => ∃ v', e = .returned (.tuple #[v', .bool (flatB doc)]) ∧ OwB w.heap.size w' v' (flatL doc) ∧ w.grownBy w' none :=
  (callsIn_wide.1 (implFlat_in 3 (Nat.le_refl _) v doc w hv hd hT)).mono fun _ _ ⟨v', h1, h2, h3⟩ => ⟨v', h1, h2, grown_of_below h3⟩

end Go.Proofs.YtgmjpdejfdldlaaDoor

namespace Go.Proofs.YtgmjpdejfdldlaaDoor
open Go.RowKit

theorem sameB_false_of {za zb : List Int} (k : Nat) (h : za[k]?.getD 0 ≠ zb[k]?.getD 0) : decide (za = zb) = false := by
  simp only [decide_eq_false_iff_not]; intro e; exact h (by rw [e])

set_option maxHeartbeats 400000 in
set_option maxRecDepth 100000 in
theorem sameB_any (va vb : Value) (za zb : List Int) (w : World) (ha : Rd .u8 w.heap.size w va za) (hb : Rd .u8 w.heap.size w vb zb) (hn : za.length ≤ 600000000) :
    Calls Tryd.prog 8 #[va, vb] w fun e w' => e = .returned (.bool (decide (za = zb))) ∧ ∃ m, w' = w.drewN m := by
  obtain ⟨a, capa, rfl, hra⟩ := ha
  obtain ⟨b, capb, rfl, hrb⟩ := hb
  by_cases hl : za.length = zb.length
  · have hne : ((za.length : Int) != (zb.length : Int)) = false := by simp [hl]
    have HL : Hid (za.length = zb.length) := hl
    clear hl
    go_enter Tryd.func8, Tryd.ntmps8
    go_wp2
    go_loopw [5] (fun i wr => ∃ k m : Nat, k ≤ za.length ∧ i = .int .i64 k ∧ za.take k = zb.take k ∧ wr = w.drewN m)
      (fun i _ => za.length - (intOf i).toNat)
    case atStart => exact ⟨0, 0, Nat.zero_le _, rfl, by simp, rfl⟩
    case round =>
      obtain ⟨k, m, hk, rfl, ht, hwr⟩ := hrel
      subst hwr
      by_cases hlt : k < za.length
      · have hlt2 : k < zb.length := by rw [← HL.out]; exact hlt
        obtain ⟨ba, offa, rfl, hba, hca⟩ := hra (fun h => by simp [h] at hlt)
        obtain ⟨bb, offb, rfl, hbb, hcb⟩ := hrb (fun h => by simp [h] at hlt2)
        have hxa := hca k hlt
        have hxb := hcb k hlt2
        have hta := take_snoc za k hlt
        have htb := take_snoc zb k hlt2
        have hla : (k : Int) < (za.length : Int) := by omega
        have hlb : (k : Int) < (zb.length : Int) := by omega
        clear hca hcb hra hrb
        by_cases hz : za[k]?.getD 0 = zb[k]?.getD 0
        · have HT : Hid (za.take (k + 1) = zb.take (k + 1)) := by unfold Hid; rw [hta, htb, ht, hz]
          clear hta htb ht
          rw [← hz] at hxb
          clear hz
          generalize za[k]?.getD 0 = z at hxa hxb
          go_wp2
          go_quiet (fail)
          go_wp2
          go_roundw
          case rel => exact ⟨k + 1, _, by omega, by go_num, HT.out, rfl⟩
          case measure => simp [intOf]; omega
        · have HF : Hid (decide (za = zb) = false) := sameB_false_of k hz
          generalize za[k]?.getD 0 = z at hxa hz
          generalize zb[k]?.getD 0 = z2 at hxb hz
          clear hta htb ht
          have hz2 : (z != z2) = true := by simp [hz]
          clear hz
          go_wp2
          go_quiet (fail)
          go_wp2
          go_ret
          exact ⟨by rw [HF.out]; rfl, m + nq, by rw [World.drewN_drewN]⟩
      · have HF : Hid (decide (za = zb) = true) := by
          unfold Hid
          rw [List.take_of_length_le (by omega), List.take_of_length_le (by have := HL.out; omega)] at ht
          simp [ht]
        clear ht
        go_wp2
        go_ret
        exact ⟨by rw [HF.out]; rfl, _, rfl⟩
  · have hne : ((za.length : Int) != (zb.length : Int)) = true := by simp; omega
    have HF : Hid (decide (za = zb) = false) := by
      unfold Hid
      simp only [decide_eq_false_iff_not]; intro e; exact hl (by rw [e])
    clear hl
    go_enter Tryd.func8, Tryd.ntmps8
    go_wp2
    go_ret
    exact ⟨by rw [HF.out]; rfl, 0, rfl⟩

theorem sameB_same (va vb : Value) (zs : List Int) (w : World) (ha : Rd .u8 w.heap.size w va zs) (hb : Rd .u8 w.heap.size w vb zs) (hn : zs.length ≤ 600000000) :
    Calls Tryd.prog 8 #[va, vb] w fun e w' => e = .returned (.bool true) ∧ w.grownBy w' none := by
  refine (sameB_any va vb zs zs w ha hb hn).mono ?_
  rintro e w' ⟨rfl, m, rfl⟩
  exact ⟨by simp, grown_drewN (World.grownBy.refl _ _) m⟩

end Go.Proofs.YtgmjpdejfdldlaaDoor

