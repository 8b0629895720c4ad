import Derived.Test.YtlblcgceieegbaaDoorStarts
import Derived.Test.YtlblcgceieegbaaDoorWidthImpl
namespace Go.Proofs.YtlblcgceieegbaaDoor
open Go.RowKit

theorem infoMade : (Tryd.prog.info? 72).map (fun i => (i.zero, i.size, i.bytes)) = some (some (.agg #[.nilIface, .int .i64 0]), 2, 24) := by kernel_rfl

/-- The node value v is the tree T, in memory that no block of X is part of; texts lie below block B. -/
def Rep (X : Nat → Prop) (B : Nat) (w : World) : Value → Tr → Prop
  | v, .leaf p =>
    (p.k = 0 ∧ v = .iface 80 (.agg #[])) ∨ (p.k = 2 ∧ v = .iface 60 (.agg #[])) ∨ (p.k = 3 ∧ v = .iface 61 (.agg #[])) ∨
    (p.k = 4 ∧ v = .iface 62 (.agg #[])) ∨ (p.k = 5 ∧ v = .iface 63 (.agg #[])) ∨
    (p.k = 1 ∧ ∃ b tv, v = .iface 54 (.pointer (some ⟨b, 0, none⟩)) ∧ ¬ X b ∧ b < w.heap.size ∧ w.heap[b]? = some (.cells #[tv, .int .i64 (widthR p.t)] 58) ∧ RdB B w tv p.t ∧ Sl tv p.t.length)
  | v, .un p x =>
    ∃ b u, ¬ X b ∧ b < w.heap.size ∧ w.cell? ⟨b, 0, none⟩ = some u ∧ Rep X B w u x ∧
      ((p.k = 8 ∧ v = .iface 95 (.pointer (some ⟨b, 0, none⟩))) ∨ (p.k = 7 ∧ v = .iface 98 (.pointer (some ⟨b, 0, none⟩))))
  | v, .bin p x y =>
    ∃ b u u', ¬ X b ∧ b < w.heap.size ∧ w.cell? ⟨b, 0, none⟩ = some u ∧ w.cell? ⟨b, 1, none⟩ = some u' ∧ Rep X B w u x ∧ Rep X B w u' y ∧
      ((p.k = 6 ∧ v = .iface 90 (.pointer (some ⟨b, 0, none⟩))) ∨ (p.k = 9 ∧ v = .iface 87 (.pointer (some ⟨b, 0, none⟩))))

/-- What is kept where the blocks outside of X' are kept. -/
theorem Rep.turn {X X' : Nat → Prop} {B : Nat} {w w' : World} (hs : w.heap.size ≤ w'.heap.size) (hk : ∀ b, b < w.heap.size → ¬ X b → w'.heap[b]? = w.heap[b]?) (hX : ∀ b, b < w.heap.size → X' b → X b)
    (hT : ∀ tv t, RdB B w tv t → RdB B w' tv t) : ∀ {T : Tr} {v : Value}, Rep X B w v T → Rep X' B w' v T
  | .leaf p, v, h => by
    simp only [Rep] at h ⊢
    rcases h with h | h | h | h | h | ⟨h1, b, tv, h2, h3, h4, h5, h7, h8⟩
    · exact .inl h
    · exact .inr (.inl h)
    · exact .inr (.inr (.inl h))
    · exact .inr (.inr (.inr (.inl h)))
    · exact .inr (.inr (.inr (.inr (.inl h))))
    · have hb := hk b h4 h3
      exact .inr (.inr (.inr (.inr (.inr ⟨h1, b, tv, h2, fun hx => h3 (hX b h4 hx), by omega, hb.trans h5, hT _ _ h7, h8⟩))))
  | .un p x, v, h => by
    simp only [Rep] at h ⊢
    obtain ⟨b, u, h3, h4, h5, h6, h7⟩ := h
    have hb := hk b h4 h3
    exact ⟨b, u, fun hx => h3 (hX b h4 hx), by omega, (World.cell?_of_block hb).trans h5, h6.turn hs hk hX hT, h7⟩
  | .bin p x y, v, h => by
    simp only [Rep] at h ⊢
    obtain ⟨b, u, u', h3, h4, h5, h5', h6, h6', h7⟩ := h
    have hb := hk b h4 h3
    exact ⟨b, u, u', fun hx => h3 (hX b h4 hx), by omega, (World.cell?_of_block hb).trans h5, (World.cell?_of_block hb).trans h5', h6.turn hs hk hX hT, h6'.turn hs hk hX hT, h7⟩

/-- A node's value is an interface value that holds something. -/
theorem Rep.form {X : Nat → Prop} {B : Nat} {w : World} : ∀ {T : Tr} {v : Value}, Rep X B w v T → ∃ t u, v = .iface t u
  | .leaf p, v, h => by
    simp only [Rep] at h
    rcases h with h | h | h | h | h | ⟨h1, b, tv, h2, _⟩
    · exact ⟨_, _, h.2⟩
    · exact ⟨_, _, h.2⟩
    · exact ⟨_, _, h.2⟩
    · exact ⟨_, _, h.2⟩
    · exact ⟨_, _, h.2⟩
    · exact ⟨_, _, h2⟩
  | .un p x, v, h => by
    simp only [Rep] at h
    obtain ⟨b, u, h3, h4, h5, h6, h7 | h7⟩ := h
    · exact ⟨_, _, h7.2⟩
    · exact ⟨_, _, h7.2⟩
  | .bin p x y, v, h => by
    simp only [Rep] at h
    obtain ⟨b, u, u', h3, h4, h5, h5', h6, h6', h7 | h7⟩ := h
    · exact ⟨_, _, h7.2⟩
    · exact ⟨_, _, h7.2⟩

/-- A tree of the program's, with the sum of its nests. -/
structure Mk where
  v : Value
  T : Tr
  n : Int

/-- The cells of the trees that are ready, the newest last. -/
def mCells : List Mk → List Value
  | [] => []
  | x :: r => x.v :: .int .i64 x.n :: mCells r

theorem mCells_len : ∀ (r : List Mk), (mCells r).length = r.length * 2
  | [] => rfl
  | x :: r => by simp only [mCells, List.length_cons, mCells_len r]; omega
theorem mCells_app : ∀ (r s : List Mk), mCells (r ++ s) = mCells r ++ mCells s
  | [], s => rfl
  | x :: r, s => by simp only [List.cons_append, mCells, mCells_app r s]

/-- The blocks that the builder writes into. -/
def Xof (bb : Nat) (rv : Value) (b : Nat) : Prop := b = bb ∨ rv.ownBlock = some b

/-- The builder at block bb: its row of ready trees (the newest last), and its room. -/
structure Bst (B : Nat) (w : World) (bb : Nat) (rv : Value) (rs : List Mk) (room : Int) : Prop where
  big : B ≤ bb
  c0 : w.cell? ⟨bb, 0, none⟩ = some rv
  f0 : w.frozen? ⟨bb, 0, none⟩ = false
  c1 : w.cell? ⟨bb, 1, none⟩ = some (.int .i64 room)
  f1 : w.frozen? ⟨bb, 1, none⟩ = false
  row : w.ownsRow B 72 2 rv rs.length (mCells rs)
  ap : rv.ownBlock ≠ some bb
  rep : ∀ x ∈ rs, Rep (Xof bb rv) B w x.v x.T

theorem Bst.lt {B : Nat} {w : World} {bb : Nat} {rv : Value} {rs : List Mk} {room : Int} (h : Bst B w bb rv rs room) : bb < w.heap.size := World.block_lt_of_cell? w _ h.c0

/-- What is laid anew leaves the builder as it is. -/
theorem Bst.keep {B : Nat} {w w' : World} {bb : Nat} {rv : Value} {rs : List Mk} {room : Int} (h : Bst B w bb rv rs room) (hg : w.grownBy w' none) : Bst B w' bb rv rs room := by
  have a := grown_both hg h.c0 h.f0
  have b := grown_both hg h.c1 h.f1
  refine ⟨h.big, a.1, a.2, b.1, b.2, World.ownsRow.kept h.row hg (by cases rv.ownBlock <;> simp), h.ap, fun x hx => (h.rep x hx).turn hg.size (fun b hb _ => hg.block b hb (by simp)) (fun _ _ h => h) (fun tv t hr => hr.keep hg)⟩

theorem Rep.keep {X : Nat → Prop} {B : Nat} {w w' : World} {T : Tr} {v : Value} (h : Rep X B w v T) (hg : w.grownBy w' none) : Rep X B w' v T :=
  h.turn hg.size (fun b hb _ => hg.block b hb (by simp)) (fun _ _ h => h) (fun tv t hr => hr.keep hg)

/-- What a method of the builder leaves: all but the builder and its row. -/
structure Fr (B bb : Nat) (rv rv' : Value) (w w' : World) : Prop where
  bel : Below B w w'
  blk : ∀ b, b < w.heap.size → ¬ Xof bb rv b → w'.heap[b]? = w.heap[b]?
  mono : ∀ b, b < w.heap.size → Xof bb rv' b → Xof bb rv b
theorem Fr.rep {B bb : Nat} {rv rv' : Value} {w w' : World} (h : Fr B bb rv rv' w w') {T : Tr} {v : Value} (hr : Rep (Xof bb rv) B w v T) : Rep (Xof bb rv') B w' v T :=
  hr.turn h.bel.size h.blk h.mono (fun _ _ hr => Rd.below hr h.bel)
theorem Fr.cell {B bb : Nat} {rv rv' : Value} {w w' : World} (h : Fr B bb rv rv' w w') {a : Addr} {v : Value} (hc : w.cell? a = some v) (hx : ¬ Xof bb rv a.block) : w'.cell? a = some v :=
  (World.cell?_of_block (h.blk a.block (World.block_lt_of_cell? w a hc) hx)).trans hc
theorem Fr.grown {B bb : Nat} {rv rv' : Value} {w w' w2 : World} (h : Fr B bb rv rv' w w') (hg : w'.grownBy w2 none) (hB : B ≤ w.heap.size) : Fr B bb rv rv' w w2 :=
  ⟨h.bel.grown hg (Nat.le_trans hB h.bel.size) (fun k e => by cases e), fun b hb hx => (hg.block b (Nat.lt_of_lt_of_le hb h.bel.size) (by simp)).trans (h.blk b hb hx), h.mono⟩
theorem Fr.trans {B bb : Nat} {rv rv' rv2 : Value} {w w' w2 : World} (h : Fr B bb rv rv' w w') (k : Fr B bb rv' rv2 w' w2) : Fr B bb rv rv2 w w2 :=
  ⟨h.bel.trans k.bel, fun b hb hx => (k.blk b (Nat.lt_of_lt_of_le hb h.bel.size) (fun e => hx (h.mono b hb e))).trans (h.blk b hb hx), fun b hb e => h.mono b hb (k.mono b (Nat.lt_of_lt_of_le hb h.bel.size) e)⟩
theorem Fr.first {B bb : Nat} {rv rv' : Value} {w w1 w2 : World} (hg : w.grownBy w1 none) (h : Fr B bb rv rv' w1 w2) (hB : B ≤ w.heap.size) : Fr B bb rv rv' w w2 :=
  ⟨((Below.refl B w).grown hg hB (fun k e => by cases e)).trans h.bel, fun b hb hx => (h.blk b (Nat.lt_of_lt_of_le hb hg.size) hx).trans (hg.block b hb (by simp)), fun b hb e => h.mono b (Nat.lt_of_lt_of_le hb hg.size) e⟩

theorem cells_pair (w : World) (x y : Value) (t : TypeId) : ∀ j u, [x, y][j]? = some u → (w.alloc (.cells #[x, y] t)).cell? ((⟨w.heap.size, 0, none⟩ : Addr).add j) = some u := by
  intro j u hj
  match j, hj with
  | 0, hj =>
    simp at hj
    subst hj
    simp [Addr.add]
  | 1, hj =>
    simp at hj
    subst hj
    simp [Addr.add]

set_option maxHeartbeats 1000000 in
set_option maxRecDepth 100000 in
theorem put_any (B : Nat) (w : World) (bb : Nat) (rv : Value) (rs : List Mk) (room : Int) (x : Mk) (hS : Bst B w bb rv rs room) (hx : Rep (Xof bb rv) B w x.v x.T) (hB : B ≤ w.heap.size) (hl : rs.length ≤ 1048576) :
    Calls Tryd.prog 36 #[.pointer (some ⟨bb, 0, none⟩), x.v, .int .i64 x.n] w fun e w' => e = .returned (.tuple #[]) ∧ ∃ rv', Bst B w' bb rv' (rs ++ [x]) room ∧ Fr B bb rv rv' w w' := by
  obtain ⟨i0, hi, hz0, hz1, hz2⟩ := info_parts infoMade
  obtain ⟨t, u, hxv⟩ := hx.form
  obtain ⟨ra, rcap, hrv, _, _⟩ := row_form hS.row
  have c0 := hS.c0; have f0 := hS.f0
  have hbl := hS.lt
  have HS : Hid (Bst B w bb rv rs room) := hS
  have HX : Hid (Rep (Xof bb rv) B w x.v x.T) := hx
  have hrow := hS.row
  have hap := hS.ap
  clear hS hx
  rw [hxv]
  subst hrv
  go_enter Tryd.func36, Tryd.ntmps36
  go_wp2_with (at_builtin; refine wpList_append_own_at _ rfl _ _ 68 rfl B 72 i0 (.agg #[.nilIface, .int .i64 0]) 2 24 Tryd.underlying68 hi hz0 hz1 hz2 rfl (by decide) _ _ _ rfl (World.ownsRow.alloc hrow _) ⟨w.heap.size, 0, none⟩ 1 1 [.iface t u, .int .i64 x.n] rfl rfl (cells_pair _ _ _ _) (by intro u hu; simp at hu; rcases hu with rfl | rfl <;> rfl) (by unfold maxLen; omega) (by omega) (by simp; omega) ?_; intro v' w1 hown' hgrow _ hat; have hne : some bb ≠ (Value.slice ra rs.length rcap).ownBlock := fun e => hap e.symm; have d0 := hgrow.cell (a := ⟨bb, 0, none⟩) (cell_alloc1 _ c0) hne; have e0 : w1.frozen? ⟨bb, 0, none⟩ = false := (World.frozen?_of_block (hgrow.block bb (by simp; omega) hne)).trans (frozen_alloc1 _ c0 f0); obtain ⟨va, vcap, hv', _, _⟩ := row_form hown'; subst hv')
  go_returns
  have hS := HS.out
  have hX := HX.out
  have hat2 : (Value.slice va (rs.length + 1) vcap).ownBlock = (Value.slice ra rs.length rcap).ownBlock ∨ (Value.slice va (rs.length + 1) vcap).ownBlock = some (w.heap.size + 1) := by
    rcases hat with h | h
    · exact .inl h
    · exact .inr (h.trans (by simp))
  have hvb : (Value.slice va (rs.length + 1) vcap).ownBlock ≠ some bb := by
    intro e
    rcases hat2 with h | h
    · exact hap (by rw [← h]; exact e)
    · rw [e] at h; simp at h; omega
  have bel : Below B w (w1.setCell ⟨bb, 0, none⟩ (Value.slice va (rs.length + 1) vcap)) :=
    ((((Below.refl B w).alloc hB _).grown hgrow (by simp; omega) (fun k hk => (World.ownsRow.lt hrow k hk).1))).setCell hS.big _
  have fr : Fr B bb (Value.slice ra rs.length rcap) (Value.slice va (rs.length + 1) vcap) w (w1.setCell ⟨bb, 0, none⟩ (Value.slice va (rs.length + 1) vcap)) := by
    refine ⟨bel, ?_, ?_⟩
    · intro b hb hnx
      unfold Xof at hnx
      rw [heap_setCell_other _ _ _ _ (fun e => hnx (.inl (by simpa using e)))]
      rw [hgrow.block b (by simp; omega) (fun e => hnx (.inr e.symm))]
      exact heap_alloc_old w _ hb
    · intro b hb hx
      unfold Xof at hx ⊢
      rcases hx with h | h
      · exact .inl h
      · rcases hat2 with h2 | h2
        · exact .inr (by rw [← h2]; exact h)
        · rw [h] at h2; simp at h2; omega
  have d1 := hgrow.cell (a := ⟨bb, 1, none⟩) (cell_alloc1 _ hS.c1) hne
  have e1 : w1.frozen? ⟨bb, 1, none⟩ = false := (World.frozen?_of_block (hgrow.block bb (by simp; omega) hne)).trans (frozen_alloc1 _ hS.c1 hS.f1)
  refine ⟨rfl, Value.slice va (rs.length + 1) vcap, ⟨hS.big, by simp [go_sem, d0], by simp [go_sem, e0], by simp [go_sem, d1], by simp [go_sem, e1], ?_, hvb, ?_⟩, fr⟩
  · have := row_set hown' ⟨bb, 0, none⟩ (Value.slice va (rs.length + 1) vcap) hvb
    rw [mCells_app, List.length_append]
    simpa [mCells, hxv] using this
  · intro y hy
    rcases List.mem_append.1 hy with h | h
    · exact fr.rep (hS.rep y h)
    · simp at h
      subst h
      exact fr.rep hX

end Go.Proofs.YtlblcgceieegbaaDoor
