import Derived.Test.YtakkdniikhgpdaaGreatDoorRows
import Derived.Stop.LaidTwo
import Derived.Stop.JoinedAt
import Derived.WalkSmall
import Derived.Deep.DeepHandedRow
import Derived.Test.YtakkdniikhgpdaaGreatDoorNAU
namespace Go.Proofs.YtakkdniikhgpdaaGreatDoor
open Go.RowKit

/-- Three variables that hold errors of errors.New's make: they are different pointers, and what they point at is no part of frozen memory. -/
theorem laid_three {P : Program} {n0 n1 n2 nm : String} {text0 text1 text2 : List UInt8} {r : List (String × DataW Unit)} {W : World} {g0 g1 g2 : Nat} {ti tp te ts : TypeId} {ms : Array (String × TypeId)} {f : Field}
    (h : laidMet P ((n0, .iface nm (.ptr (.agg [.lit (.string text0)]))) :: (n1, .iface nm (.ptr (.agg [.lit (.string text1)]))) :: (n2, .iface nm (.ptr (.agg [.lit (.string text2)]))) :: r) W)
    (hg0 : P.globalNamed n0 = some g0) (ht0 : (P.globals[g0]?).map (·.type) = some ti) (hg1 : P.globalNamed n1 = some g1) (ht1 : (P.globals[g1]?).map (·.type) = some ti) (hg2 : P.globalNamed n2 = some g2) (ht2 : (P.globals[g2]?).map (·.type) = some ti)
    (hi : P.underlying ti = some (.interface ms)) (hrow : ∀ u, P.typeName? 3 u = some nm → u = tp)
    (hp : P.underlying tp = some (.pointer te)) (he : P.underlying te = some (.struct #[f])) (hft : f.type = ts) (hfo : f.offset = 0) (hs : P.underlying ts = some .string) (hc : P.cellsOf te = 1) (hcs : P.cellsOf ts = 1) :
    ∃ a0 a1 a2 : Addr, W.var? P n0 = some #[.iface tp (.pointer (some a0))] ∧ W.var? P n1 = some #[.iface tp (.pointer (some a1))] ∧ W.var? P n2 = some #[.iface tp (.pointer (some a2))] ∧ a0 ≠ a1 ∧ a0 ≠ a2 ∧ a1 ≠ a2 ∧
      (∃ c t, W.heap[a0.block]? = some (.cells c t (0, 0))) ∧ (∃ c t, W.heap[a1.block]? = some (.cells c t (0, 0))) ∧ (∃ c t, W.heap[a2.block]? = some (.cells c t (0, 0))) := by
  obtain ⟨ps, ⟨g0', t0', cs0, f0, p0, q0, hg0', ht0', hv0, hd0, ⟨g1', t1', cs1, f1, p1, q1, hg1', ht1', hv1, hd1, ⟨g2', t2', cs2, f2, p2, q2, hg2', ht2', hv2, hd2, _, e2⟩, e1⟩, e0⟩, hnd, hrows⟩ := h
  obtain rfl := Option.some.inj (hg0.symm.trans hg0')
  obtain rfl := Option.some.inj (hg1.symm.trans hg1')
  obtain rfl := Option.some.inj (hg2.symm.trans hg2')
  obtain rfl := Option.some.inj (ht0.symm.trans ht0')
  obtain rfl := Option.some.inj (ht1.symm.trans ht1')
  obtain rfl := Option.some.inj (ht2.symm.trans ht2')
  subst e2
  subst e1
  subst e0
  obtain ⟨l0⟩ := cs0
  obtain ⟨l1⟩ := cs1
  obtain ⟨l2⟩ := cs2
  have ok0 : ∀ u v, l0 = [.iface u v] → Value.okWide P W .any 0 u v := fun u v e => by
    subst e
    exact (hrows g0 0 (by simp [MemPlace.row])).2 u v (by simpa using World.var?_cell hg0' hv0 0)
  have ok1 : ∀ u v, l1 = [.iface u v] → Value.okWide P W .any 0 u v := fun u v e => by
    subst e
    exact (hrows g1 0 (by simp [MemPlace.row])).2 u v (by simpa using World.var?_cell hg1' hv1 0)
  have ok2 : ∀ u v, l2 = [.iface u v] → Value.okWide P W .any 0 u v := fun u v e => by
    subst e
    exact (hrows g2 0 (by simp [MemPlace.row])).2 u v (by simpa using World.var?_cell hg2' hv2 0)
  obtain ⟨a0, s0, rfl, hc0, hs0, hz0, rfl⟩ := errorString_of_trod hi hrow hp he hft hfo hs hc hcs hd0 ok0
  obtain ⟨a1, s1, rfl, hc1, hs1, hz1, rfl⟩ := errorString_of_trod hi hrow hp he hft hfo hs hc hcs hd1 ok1
  obtain ⟨a2, s2, rfl, hc2, hs2, hz2, rfl⟩ := errorString_of_trod hi hrow hp he hft hfo hs hc hcs hd2 ok2
  have k0 := (hrows a0.block a0.off (by simp [MemPlace.row])).1
  have k1 := (hrows a1.block a1.off (by simp [MemPlace.row])).1
  have k2 := (hrows a2.block a2.off (by simp [MemPlace.row])).1
  refine ⟨a0, a1, a2, hv0, hv1, hv2, ?_, ?_, ?_, k0, k1, k2⟩
  · rintro rfl
    simp [MemPlace.row] at hnd
  · rintro rfl
    simp [MemPlace.row] at hnd
  · rintro rfl
    simp [MemPlace.row] at hnd

theorem gBad : Tryz.prog.globalNamed "loop.example/s02863/impl.errBad" = some 0 := by kernel_rfl
theorem gNone : Tryz.prog.globalNamed "loop.example/s02863/impl.errNone" = some 1 := by kernel_rfl
theorem gFull : Tryz.prog.globalNamed "loop.example/s02863/impl.errFull" = some 2 := by kernel_rfl
theorem gBadT : (Tryz.prog.globals[0]?).map (·.type) = some 54 := by kernel_rfl
theorem gNoneT : (Tryz.prog.globals[1]?).map (·.type) = some 54 := by kernel_rfl
theorem gFullT : (Tryz.prog.globals[2]?).map (·.type) = some 54 := by kernel_rfl
theorem cellsEs : Tryz.prog.cellsOf 191 = 1 := by kernel_rfl
theorem cellsSt : Tryz.prog.cellsOf 9 = 1 := by kernel_rfl
theorem starEs : "*" ++ "errors.errorString" = "*errors.errorString" := by decide
theorem rowEs (u : TypeId) (h : Tryz.prog.typeName? 3 u = some "*errors.errorString") : u = 159 :=
  typeName_ptr_named (nm := "errors.errorString") (by rw [starEs]; kernel_rfl) (by kernel_rfl) (by decide) u (by rw [starEs]; exact h)

/-- The three variables, as a world holds them. -/
structure Vars3 (W : World) (a0 a1 a2 : Addr) : Prop where
  v0 : W.var? Tryz.prog "loop.example/s02863/impl.errBad" = some #[Er a0]
  v1 : W.var? Tryz.prog "loop.example/s02863/impl.errNone" = some #[Er a1]
  v2 : W.var? Tryz.prog "loop.example/s02863/impl.errFull" = some #[Er a2]

theorem var_below {P : Program} {B g : Nat} {W W' : World} {n : String} {cs : Array Value} (h : Below B W W') (hg : P.globalNamed n = some g) (hgB : g < B) (hv : W.var? P n = some cs) : W'.var? P n = some cs := by
  unfold World.var? at hv ⊢
  simp only [hg, Option.bind_some] at hv ⊢
  rw [h.block g hgB]
  exact hv
theorem Vars3.below {W W' : World} {a0 a1 a2 : Addr} (h : Vars3 W a0 a1 a2) (he : Errs W a0 a1 a2) (hb : Below W.heap.size W W') : Vars3 W' a0 a1 a2 :=
  ⟨var_below hb gBad (World.block_lt_of_cell? _ _ he.g0) h.v0, var_below hb gNone (World.block_lt_of_cell? _ _ he.g1) h.v1, var_below hb gFull (World.block_lt_of_cell? _ _ he.g2) h.v2⟩

theorem laid_errs {W : World} (h : laidMet Tryz.prog [("loop.example/s02863/impl.errBad", Rows.laid_loop_example_s02863_impl_errBad), ("loop.example/s02863/impl.errNone", Rows.laid_loop_example_s02863_impl_errNone), ("loop.example/s02863/impl.errFull", Rows.laid_loop_example_s02863_impl_errFull)] W) :
    ∃ a0 a1 a2, Vars3 W a0 a1 a2 ∧ Errs W a0 a1 a2 := by
  obtain ⟨a0, a1, a2, h0, h1, h2, n01, n02, n12, b0, b1, b2⟩ := laid_three h gBad gBadT gNone gNoneT gFull gFullT Tryz.underlying54 rowEs Tryz.underlying159 Tryz.underlying191 rfl rfl Tryz.underlying9 cellsEs cellsSt
  refine ⟨a0, a1, a2, ⟨h0, h1, h2⟩, ?_, ?_, ?_, n01, n02, n12, b0, b1, b2⟩
  · simpa using World.var?_cell gBad h0 0
  · simpa using World.var?_cell gNone h1 0
  · simpa using World.var?_cell gFull h2 0

theorem vars_at {H : Type} (enc : TypeId × Value → H) {W : World} {a0 a1 a2 : Addr} (h : Vars3 W a0 a1 a2) (sp : Nat → Bool) :
    DataW.TrodVars enc Tryz.prog W sp ["loop.example/s02863/impl.errBad", "loop.example/s02863/impl.errNone", "loop.example/s02863/impl.errFull"] [tok enc (Er a0), tok enc (Er a1), tok enc (Er a2)] [.cell 0 0, .cell 1 0, .cell 2 0] :=
  ⟨0, 54, #[Er a0], 1, [], [.cell 1 0, .cell 2 0], gBad, gBadT, h.v0, trod_held Tryz.underlying54 (show IsIface (Er a0) from trivial) 0, ⟨1, 54, #[Er a1], 1, [], [.cell 2 0], gNone, gNoneT, h.v1, trod_held Tryz.underlying54 (show IsIface (Er a1) from trivial) 0, ⟨2, 54, #[Er a2], 1, [], [], gFull, gFullT, h.v2, trod_held Tryz.underlying54 (show IsIface (Er a2) from trivial) 0, rfl, rfl⟩, rfl⟩, rfl⟩

end Go.Proofs.YtakkdniikhgpdaaGreatDoor

