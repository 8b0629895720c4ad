import Derived.Test.YtgmjpdejfdldlaaDoorMAF
import Derived.Test.YtgmjpdejfdldlaaDoorMAJ
namespace Go.Proofs.YtgmjpdejfdldlaaDoor
open Go.RowKit

theorem infoNode : (Tryd.prog.info? 70).map (fun i => (i.zero, i.size, i.bytes)) = some (some .nilIface, 1, 16) := by kernel_rfl
theorem infoMade : (Tryd.prog.info? 155).map (fun i => (i.zero, i.size, i.bytes)) = some (some (.agg #[.nilIface, .int .i64 0]), 2, 24) := by kernel_rfl

/-- The node value v is the tree T, in memory that no block of X is part of; texts lie below block B. -/
def Rep (X : Nat → Prop) (B : Nat) (w : World) : Value → Tr → Prop
  | v, .leaf p =>
    (p.k = 0 ∧ v = .iface 127 (.agg #[])) ∨ (p.k = 2 ∧ v = .iface 81 (.agg #[])) ∨ (p.k = 3 ∧ v = .iface 128 (.agg #[])) ∨
    (p.k = 4 ∧ v = .iface 82 (.agg #[])) ∨ (p.k = 5 ∧ v = .iface 83 (.agg #[])) ∨
    (p.k = 1 ∧ ∃ b tv, v = .iface 75 (.pointer (some ⟨b, 0, none⟩)) ∧ ¬ X b ∧ b < w.heap.size ∧ w.heap[b]? = some (.cells #[tv, .int .i64 (widthR p.t)] 79) ∧ RdB B w tv p.t ∧ Sl tv p.t.length)
  | v, .un p x =>
    ∃ b u, ¬ X b ∧ b < w.heap.size ∧ w.cell? ⟨b, 0, none⟩ = some u ∧ Rep X B w u x ∧
      ((p.k = 8 ∧ v = .iface 135 (.pointer (some ⟨b, 0, none⟩))) ∨ (p.k = 7 ∧ v = .iface 130 (.pointer (some ⟨b, 0, none⟩))))
  | v, .bin p x y =>
    ∃ b u u', ¬ X b ∧ b < w.heap.size ∧ w.cell? ⟨b, 0, none⟩ = some u ∧ w.cell? ⟨b, 1, none⟩ = some u' ∧ Rep X B w u x ∧ Rep X B w u' y ∧
      ((p.k = 6 ∧ v = .iface 138 (.pointer (some ⟨b, 0, none⟩))) ∨ (p.k = 9 ∧ v = .iface 142 (.pointer (some ⟨b, 0, none⟩))))

/-- What is kept where the blocks outside of X' are kept. -/
theorem Rep.turn {X X' : Nat → Prop} {B : Nat} {w w' : World} (hs : w.heap.size ≤ w'.heap.size) (hk : ∀ b, b < w.heap.size → ¬ X b → w'.heap[b]? = w.heap[b]?) (hX : ∀ b, b < w.heap.size → X' b → X b)
    (hT : ∀ tv t, RdB B w tv t → RdB B w' tv t) : ∀ {T : Tr} {v : Value}, Rep X B w v T → Rep X' B w' v T
  | .leaf p, v, h => by
    simp only [Rep] at h ⊢
    rcases h with h | h | h | h | h | ⟨h1, b, tv, h2, h3, h4, h5, h7, h8⟩
    · exact .inl h
    · exact .inr (.inl h)
    · exact .inr (.inr (.inl h))
    · exact .inr (.inr (.inr (.inl h)))
    · exact .inr (.inr (.inr (.inr (.inl h))))
    · have hb := hk b h4 h3
      exact .inr (.inr (.inr (.inr (.inr ⟨h1, b, tv, h2, fun hx => h3 (hX b h4 hx), by omega, hb.trans h5, hT _ _ h7, h8⟩))))
  | .un p x, v, h => by
    simp only [Rep] at h ⊢
    obtain ⟨b, u, h3, h4, h5, h6, h7⟩ := h
    have hb := hk b h4 h3
    exact ⟨b, u, fun hx => h3 (hX b h4 hx), by omega, (World.cell?_of_block hb).trans h5, h6.turn hs hk hX hT, h7⟩
  | .bin p x y, v, h => by
    simp only [Rep] at h ⊢
    obtain ⟨b, u, u', h3, h4, h5, h5', h6, h6', h7⟩ := h
    have hb := hk b h4 h3
    exact ⟨b, u, u', fun hx => h3 (hX b h4 hx), by omega, (World.cell?_of_block hb).trans h5, (World.cell?_of_block hb).trans h5', h6.turn hs hk hX hT, h6'.turn hs hk hX hT, h7⟩

/-- A node's value is an interface value that holds something. -/
theorem Rep.form {X : Nat → Prop} {B : Nat} {w : World} : ∀ {T : Tr} {v : Value}, Rep X B w v T → ∃ t u, v = .iface t u
  | .leaf p, v, h => by
    simp only [Rep] at h
    rcases h with h | h | h | h | h | ⟨h1, b, tv, h2, _⟩
    · exact ⟨_, _, h.2⟩
    · exact ⟨_, _, h.2⟩
    · exact ⟨_, _, h.2⟩
    · exact ⟨_, _, h.2⟩
    · exact ⟨_, _, h.2⟩
    · exact ⟨_, _, h2⟩
  | .un p x, v, h => by
    simp only [Rep] at h
    obtain ⟨b, u, h3, h4, h5, h6, h7 | h7⟩ := h
    · exact ⟨_, _, h7.2⟩
    · exact ⟨_, _, h7.2⟩
  | .bin p x y, v, h => by
    simp only [Rep] at h
    obtain ⟨b, u, u', h3, h4, h5, h5', h6, h6', h7 | h7⟩ := h
    · exact ⟨_, _, h7.2⟩
    · exact ⟨_, _, h7.2⟩

/-- The nodes of the tree T at v, operands first. -/
def Post (w : World) : Value → Tr → List Value → Prop
  | v, .leaf _, l => l = [v]
  | v, .un p x, l => ∃ t b u l1, v = .iface t (.pointer (some ⟨b, 0, none⟩)) ∧ w.cell? ⟨b, 0, none⟩ = some u ∧ (p.k = 7 → w.cell? ⟨b, 1, none⟩ = some (.int .i64 p.n)) ∧ Post w u x l1 ∧ l = l1 ++ [v]
  | v, .bin _ x y, l => ∃ t b u u' l1 l2, v = .iface t (.pointer (some ⟨b, 0, none⟩)) ∧ w.cell? ⟨b, 0, none⟩ = some u ∧ w.cell? ⟨b, 1, none⟩ = some u' ∧ Post w u x l1 ∧ Post w u' y l2 ∧ l = l1 ++ l2 ++ [v]

theorem Post.turn {X : Nat → Prop} {B : Nat} {w w' : World} (hk : ∀ b, b < w.heap.size → ¬ X b → w'.heap[b]? = w.heap[b]?) : ∀ {T : Tr} {v : Value} {l : List Value}, Rep X B w v T → Post w v T l → Post w' v T l
  | .leaf _, v, l, _, h => h
  | .un p x, v, l, hr, h => by
    simp only [Rep] at hr
    simp only [Post] at h ⊢
    obtain ⟨b0, u0, h3, h4, h5, h6, h7⟩ := hr
    obtain ⟨t, b, u, l1, hv, k1, k2, k3, k4⟩ := h
    have hbb : b = b0 := by
      rcases h7 with ⟨_, h7⟩ | ⟨_, h7⟩ <;> (rw [hv] at h7; simp at h7; exact h7.2)
    subst hbb
    have hb := hk b h4 h3
    have hu : u0 = u := by rw [h5] at k1; exact Option.some.inj k1
    subst hu
    exact ⟨t, b, u0, l1, hv, (World.cell?_of_block hb).trans k1, fun e => (World.cell?_of_block hb).trans (k2 e), k3.turn hk h6, k4⟩
  | .bin p x y, v, l, hr, h => by
    simp only [Rep] at hr
    simp only [Post] at h ⊢
    obtain ⟨b0, u0, u0', h3, h4, h5, h5', h6, h6', h7⟩ := hr
    obtain ⟨t, b, u, u', l1, l2, hv, k1, k1', k3, k3', k4⟩ := h
    have hbb : b = b0 := by
      rcases h7 with ⟨_, h7⟩ | ⟨_, h7⟩ <;> (rw [hv] at h7; simp at h7; exact h7.2)
    subst hbb
    have hb := hk b h4 h3
    have hu : u0 = u := by rw [h5] at k1; exact Option.some.inj k1
    have hu' : u0' = u' := by rw [h5'] at k1'; exact Option.some.inj k1'
    subst hu hu'
    exact ⟨t, b, u0, u0', l1, l2, hv, (World.cell?_of_block hb).trans k1, (World.cell?_of_block hb).trans k1', k3.turn hk h6, k3'.turn hk h6', k4⟩

/-- A tree of the program's, with the sum of its nests, and its nodes. -/
structure Mk where
  v : Value
  T : Tr
  n : Int
  l : List Value

/-- The cells of the trees that are ready, the newest last. -/
def mCells : List Mk → List Value
  | [] => []
  | x :: r => x.v :: .int .i64 x.n :: mCells r
/-- All nodes of the trees that are ready. -/
def lsOf : List Mk → List Value
  | [] => []
  | x :: r => x.l ++ lsOf r

theorem mCells_len : ∀ (r : List Mk), (mCells r).length = r.length * 2
  | [] => rfl
  | x :: r => by simp only [mCells, List.length_cons, mCells_len r]; omega
theorem mCells_app : ∀ (r s : List Mk), mCells (r ++ s) = mCells r ++ mCells s
  | [], s => rfl
  | x :: r, s => by simp only [List.cons_append, mCells, mCells_app r s]
theorem lsOf_app : ∀ (r s : List Mk), lsOf (r ++ s) = lsOf r ++ lsOf s
  | [], s => rfl
  | x :: r, s => by simp only [List.cons_append, lsOf, lsOf_app r s, List.append_assoc]
theorem lsOf_one (x : Mk) : lsOf [x] = x.l := by simp [lsOf]

/-- The blocks that the builder writes into. -/
def Xof (bb : Nat) (nv rv : Value) (b : Nat) : Prop := b = bb ∨ nv.ownBlock = some b ∨ rv.ownBlock = some b

/-- No node that is a pointer stands twice; each points to a block of its own, outside of X. -/
structure Once (X : Nat → Prop) (w : World) (ns : List Value) : Prop where
  nd : ns.Pairwise fun x y => ∀ t b, y = .iface t (.pointer (some ⟨b, 0, none⟩)) → x ≠ y
  lt : ∀ t b, .iface t (.pointer (some ⟨b, 0, none⟩)) ∈ ns → ¬ X b ∧ ∃ cs t', w.heap[b]? = some (.cells cs t')
theorem Once.lts {X : Nat → Prop} {w : World} {ns : List Value} (h : Once X w ns) {t : TypeId} {b : Nat} (hm : .iface t (.pointer (some ⟨b, 0, none⟩)) ∈ ns) : b < w.heap.size := by
  obtain ⟨_, cs, t', hb⟩ := h.lt t b hm
  exact (Array.getElem?_eq_some_iff.1 hb).1
theorem Once.turn {X X' : Nat → Prop} {w w' : World} {ns : List Value} (hk : ∀ b, b < w.heap.size → ¬ X b → w'.heap[b]? = w.heap[b]?) (hX : ∀ b, b < w.heap.size → X' b → X b) (h : Once X w ns) : Once X' w' ns := by
  refine ⟨h.nd, fun t b hm => ?_⟩
  have hb := h.lts hm
  obtain ⟨h1, cs, t', h2⟩ := h.lt t b hm
  exact ⟨fun hx => h1 (hX b hb hx), cs, t', (hk b hb h1).trans h2⟩
theorem Once.snoc {X X' : Nat → Prop} {w w' : World} {ns : List Value} {v : Value} (hk : ∀ b, b < w.heap.size → ¬ X b → w'.heap[b]? = w.heap[b]?) (hX : ∀ b, b < w.heap.size → X' b → X b) (h : Once X w ns)
    (hf : ∀ t b, v = .iface t (.pointer (some ⟨b, 0, none⟩)) → (¬ X b ∧ ∃ cs t', w.heap[b]? = some (.cells cs t')) ∧ v ∉ ns) : Once X' w' (ns ++ [v]) := by
  refine ⟨?_, ?_⟩
  · rw [List.pairwise_append]
    refine ⟨h.nd, by simp, ?_⟩
    intro a ha b hb t k he e
    simp only [List.mem_singleton] at hb
    subst hb
    subst e
    exact (hf t k he).2 ha
  · intro t b hm
    rcases List.mem_append.1 hm with h1 | h1
    · exact (h.turn hk hX).lt t b h1
    · simp only [List.mem_singleton] at h1
      obtain ⟨⟨h2, cs, t', h3⟩, _⟩ := hf t b h1.symm
      have hb := (Array.getElem?_eq_some_iff.1 h3).1
      exact ⟨fun hx => h2 (hX b hb hx), cs, t', (hk b hb h2).trans h3⟩
theorem Once.new {X : Nat → Prop} {w : World} {ns : List Value} (h : Once X w ns) (t : TypeId) (b : Nat) (hb : w.heap.size ≤ b) : .iface t (.pointer (some ⟨b, 0, none⟩)) ∉ ns := fun hm => by
  have := h.lts hm; omega

/-- The builder at block bb: its row of nodes, its row of ready trees (the newest last), and its room. -/
structure Bst (B : Nat) (w : World) (bb : Nat) (nv rv : Value) (rs : List Mk) (ns : List Value) (room : Int) : Prop where
  big : B ≤ bb
  c0 : w.cell? ⟨bb, 0, none⟩ = some nv
  f0 : w.frozen? ⟨bb, 0, none⟩ = false
  c1 : w.cell? ⟨bb, 1, none⟩ = some rv
  f1 : w.frozen? ⟨bb, 1, none⟩ = false
  c2 : w.cell? ⟨bb, 2, none⟩ = some (.int .i64 room)
  f2 : w.frozen? ⟨bb, 2, none⟩ = false
  nrow : w.ownsRow B 70 1 nv ns.length ns
  row : w.ownsRow B 155 2 rv rs.length (mCells rs)
  ap : rv.ownBlock ≠ some bb
  nap : nv.ownBlock ≠ some bb
  nr : ∀ g, nv.ownBlock = some g → rv.ownBlock ≠ some g
  once : Once (Xof bb nv rv) w ns
  rep : ∀ x ∈ rs, Rep (Xof bb nv rv) B w x.v x.T
  post : ∀ x ∈ rs, Post w x.v x.T x.l

theorem Bst.lt {B : Nat} {w : World} {bb : Nat} {nv rv : Value} {rs : List Mk} {ns : List Value} {room : Int} (h : Bst B w bb nv rv rs ns room) : bb < w.heap.size := World.block_lt_of_cell? w _ h.c0

/-- What is laid anew leaves the builder as it is. -/
theorem Bst.keep {B : Nat} {w w' : World} {bb : Nat} {nv rv : Value} {rs : List Mk} {ns : List Value} {room : Int} (h : Bst B w bb nv rv rs ns room) (hg : w.grownBy w' none) : Bst B w' bb nv rv rs ns room := by
  have a := grown_both hg h.c0 h.f0
  have b := grown_both hg h.c1 h.f1
  have c := grown_both hg h.c2 h.f2
  refine ⟨h.big, a.1, a.2, b.1, b.2, c.1, c.2, World.ownsRow.kept h.nrow hg (by cases nv.ownBlock <;> simp), World.ownsRow.kept h.row hg (by cases rv.ownBlock <;> simp), h.ap, h.nap, h.nr, h.once.turn (fun b hb _ => hg.block b hb (by simp)) (fun _ _ h => h), fun x hx => (h.rep x hx).turn hg.size (fun b hb _ => hg.block b hb (by simp)) (fun _ _ h => h) (fun tv t hr => hr.keep hg),
    fun x hx => (h.post x hx).turn (fun b hb _ => hg.block b hb (by simp)) (h.rep x hx)⟩

theorem Rep.keep {X : Nat → Prop} {B : Nat} {w w' : World} {T : Tr} {v : Value} (h : Rep X B w v T) (hg : w.grownBy w' none) : Rep X B w' v T :=
  h.turn hg.size (fun b hb _ => hg.block b hb (by simp)) (fun _ _ h => h) (fun tv t hr => hr.keep hg)
theorem Post.keep {X : Nat → Prop} {B : Nat} {w w' : World} {T : Tr} {v : Value} {l : List Value} (h : Post w v T l) (hr : Rep X B w v T) (hg : w.grownBy w' none) : Post w' v T l :=
  h.turn (fun b hb _ => hg.block b hb (by simp)) hr

/-- What a method of the builder leaves: all but the builder and its rows. -/
structure Fr (B bb : Nat) (nv rv nv' rv' : Value) (w w' : World) : Prop where
  bel : Below B w w'
  blk : ∀ b, b < w.heap.size → ¬ Xof bb nv rv b → w'.heap[b]? = w.heap[b]?
  mono : ∀ b, b < w.heap.size → Xof bb nv' rv' b → Xof bb nv rv b
theorem Fr.rep {B bb : Nat} {nv rv nv' rv' : Value} {w w' : World} (h : Fr B bb nv rv nv' rv' w w') {T : Tr} {v : Value} (hr : Rep (Xof bb nv rv) B w v T) : Rep (Xof bb nv' rv') B w' v T :=
  hr.turn h.bel.size h.blk h.mono (fun _ _ hr => Rd.below hr h.bel)
theorem Fr.post {B bb : Nat} {nv rv nv' rv' : Value} {w w' : World} (h : Fr B bb nv rv nv' rv' w w') {T : Tr} {v : Value} {l : List Value} (hr : Rep (Xof bb nv rv) B w v T) (hp : Post w v T l) : Post w' v T l :=
  hp.turn h.blk hr
theorem Fr.cell {B bb : Nat} {nv rv nv' rv' : Value} {w w' : World} (h : Fr B bb nv rv nv' rv' w w') {a : Addr} {v : Value} (hc : w.cell? a = some v) (hx : ¬ Xof bb nv rv a.block) : w'.cell? a = some v :=
  (World.cell?_of_block (h.blk a.block (World.block_lt_of_cell? w a hc) hx)).trans hc
theorem Fr.grown {B bb : Nat} {nv rv nv' rv' : Value} {w w' w2 : World} (h : Fr B bb nv rv nv' rv' w w') (hg : w'.grownBy w2 none) (hB : B ≤ w.heap.size) : Fr B bb nv rv nv' rv' w w2 :=
  ⟨h.bel.grown hg (Nat.le_trans hB h.bel.size) (fun k e => by cases e), fun b hb hx => (hg.block b (Nat.lt_of_lt_of_le hb h.bel.size) (by simp)).trans (h.blk b hb hx), h.mono⟩
theorem Fr.trans {B bb : Nat} {nv rv nv' rv' nv2 rv2 : Value} {w w' w2 : World} (h : Fr B bb nv rv nv' rv' w w') (k : Fr B bb nv' rv' nv2 rv2 w' w2) : Fr B bb nv rv nv2 rv2 w w2 :=
  ⟨h.bel.trans k.bel, fun b hb hx => (k.blk b (Nat.lt_of_lt_of_le hb h.bel.size) (fun e => hx (h.mono b hb e))).trans (h.blk b hb hx), fun b hb e => h.mono b hb (k.mono b (Nat.lt_of_lt_of_le hb h.bel.size) e)⟩
theorem Fr.first {B bb : Nat} {nv rv nv' rv' : Value} {w w1 w2 : World} (hg : w.grownBy w1 none) (h : Fr B bb nv rv nv' rv' w1 w2) (hB : B ≤ w.heap.size) : Fr B bb nv rv nv' rv' w w2 :=
  ⟨((Below.refl B w).grown hg hB (fun k e => by cases e)).trans h.bel, fun b hb hx => (h.blk b (Nat.lt_of_lt_of_le hb hg.size) hx).trans (hg.block b hb (by simp)), fun b hb e => h.mono b (Nat.lt_of_lt_of_le hb hg.size) e⟩

theorem cells_pair (w : World) (x y : Value) (t : TypeId) : ∀ j u, [x, y][j]? = some u → (w.alloc (.cells #[x, y] t)).cell? ((⟨w.heap.size, 0, none⟩ : Addr).add j) = some u := by
  intro j u hj
  match j, hj with
  | 0, hj =>
    simp at hj
    subst hj
    simp [Addr.add]
  | 1, hj =>
    simp at hj
    subst hj
    simp [Addr.add]
theorem cells_sole (w : World) (x : Value) (t : TypeId) : ∀ j u, [x][j]? = some u → (w.alloc (.cells #[x] t)).cell? ((⟨w.heap.size, 0, none⟩ : Addr).add j) = some u := by
  intro j u hj
  match j, hj with
  | 0, hj =>
    simp at hj
    subst hj
    simp [Addr.add]

set_option maxHeartbeats 2000000 in
set_option maxRecDepth 100000 in
theorem put_any (B : Nat) (w : World) (bb : Nat) (nv rv : Value) (rs : List Mk) (ns : List Value) (room : Int) (x : Mk) (hS : Bst B w bb nv rv rs ns room) (hx : Rep (Xof bb nv rv) B w x.v x.T) (hp : Post w x.v x.T x.l)
    (hf : ∀ t b, x.v = .iface t (.pointer (some ⟨b, 0, none⟩)) → (¬ Xof bb nv rv b ∧ ∃ cs t', w.heap[b]? = some (.cells cs t')) ∧ x.v ∉ ns) (hB : B ≤ w.heap.size) (hl : rs.length ≤ 1048576) (hln : ns.length ≤ 1048576) :
    Calls Tryd.prog 60 #[.pointer (some ⟨bb, 0, none⟩), x.v, .int .i64 x.n] w fun e w' => e = .returned (.tuple #[]) ∧ ∃ nv' rv', Bst B w' bb nv' rv' (rs ++ [x]) (ns ++ [x.v]) room ∧ Fr B bb nv rv nv' rv' w w' := by
  obtain ⟨i0, hi, hz0, hz1, hz2⟩ := info_parts infoMade
  obtain ⟨j0, hj, hy0, hy1, hy2⟩ := info_parts infoNode
  obtain ⟨t, u, hxv⟩ := hx.form
  obtain ⟨ra, rcap, hrv, _, _⟩ := row_form hS.row
  obtain ⟨na, ncap, hnv, _, _⟩ := row_form hS.nrow
  have c0 := hS.c0; have f0 := hS.f0
  have c1 := hS.c1; have f1 := hS.f1
  have hbl := hS.lt
  have HS : Hid (Bst B w bb nv rv rs ns room) := hS
  have HX : Hid (Rep (Xof bb nv rv) B w x.v x.T) := hx
  have HP : Hid (Post w x.v x.T x.l) := hp
  have HFr : Hid (∀ t b, x.v = .iface t (.pointer (some ⟨b, 0, none⟩)) → (¬ Xof bb nv rv b ∧ ∃ cs t', w.heap[b]? = some (.cells cs t')) ∧ x.v ∉ ns) := hf
  have hrow := hS.row
  have hnrow := hS.nrow
  have hap := hS.ap
  have hnap := hS.nap
  have hnr := hS.nr
  clear hS hx hp hf
  rw [hxv]
  subst hrv
  subst hnv
  go_enter Tryd.func60, Tryd.ntmps60
  go_wp2_with (at_builtin; refine wpList_append_own_at _ rfl _ _ 54 rfl B 70 j0 .nilIface 1 16 Tryd.underlying54 hj hy0 hy1 hy2 rfl (by decide) _ _ _ rfl (World.ownsRow.alloc hnrow _) ⟨w.heap.size, 0, none⟩ 1 1 [.iface t u] rfl rfl (cells_sole _ _ _) (by intro u hu; simp at hu; subst hu; rfl) (by unfold maxLen; omega) (by omega) (by simp; omega) ?_)
  intro v1 w1 hown1 hgrow1 _ hat1
  obtain ⟨va, vcap, hv1, _, _⟩ := row_form hown1
  subst hv1
  have hne1 : some bb ≠ (Value.slice na ns.length ncap).ownBlock := fun e => hnap e.symm
  have d0 := hgrow1.cell (a := ⟨bb, 0, none⟩) (cell_alloc1 _ c0) hne1
  have e0 : w1.frozen? ⟨bb, 0, none⟩ = false := (World.frozen?_of_block (hgrow1.block bb (by simp; omega) hne1)).trans (frozen_alloc1 _ c0 f0)
  have d1 := hgrow1.cell (a := ⟨bb, 1, none⟩) (cell_alloc1 _ c1) hne1
  have e1 : w1.frozen? ⟨bb, 1, none⟩ = false := (World.frozen?_of_block (hgrow1.block bb (by simp; omega) hne1)).trans (frozen_alloc1 _ c1 f1)
  have hat1' : (Value.slice va (ns.length + 1) vcap).ownBlock = (Value.slice na ns.length ncap).ownBlock ∨ (Value.slice va (ns.length + 1) vcap).ownBlock = some (w.heap.size + 1) := by
    rcases hat1 with h | h
    · exact .inl h
    · exact .inr (h.trans (by simp))
  have hvb : (Value.slice va (ns.length + 1) vcap).ownBlock ≠ some bb := by
    intro e
    rcases hat1' with h | h
    · exact hnap (by rw [← h]; exact e)
    · rw [e] at h; simp at h; omega
  have hrlt := World.ownsRow.lt hrow
  have hvr : ∀ g, (Value.slice va (ns.length + 1) vcap).ownBlock = some g → (Value.slice ra rs.length rcap).ownBlock ≠ some g := by
    intro g h1 h2
    rcases hat1' with h | h
    · exact hnr g (by rw [← h]; exact h1) h2
    · rw [h1] at h; simp at h; have := hrlt g h2; omega
  have hr1 : (w1.setCell ⟨bb, 0, none⟩ (Value.slice va (ns.length + 1) vcap)).ownsRow B 155 2 (.slice ra rs.length rcap) rs.length (mCells rs) := by
    refine row_set ?_ _ _ hap
    refine World.ownsRow.kept (World.ownsRow.alloc hrow _) hgrow1 ?_
    cases hra : (Value.slice ra rs.length rcap).ownBlock with
    | none => exact .inl rfl
    | some g => exact .inr fun e => hnr g e.symm hra
  have hs1 := hgrow1.size
  simp only [World.size_alloc] at hs1
  go_wp2_with (at_builtin; refine wpList_append_own_at _ rfl _ _ 99 rfl B 155 i0 (.agg #[.nilIface, .int .i64 0]) 2 24 Tryd.underlying99 hi hz0 hz1 hz2 rfl (by decide) _ _ _ rfl (World.ownsRow.alloc hr1 _) ⟨w1.heap.size, 0, none⟩ 1 1 [.iface t u, .int .i64 x.n] rfl rfl (by have := cells_pair (w1.setCell ⟨bb, 0, none⟩ (Value.slice va (ns.length + 1) vcap)) (.iface t u) (.int .i64 x.n) 155; simpa using this) (by intro u hu; simp at hu; rcases hu with rfl | rfl <;> rfl) (by unfold maxLen; omega) (by omega) (by simp; omega) ?_)
  intro v2 w2 hown2 hgrow2 _ hat2
  obtain ⟨ua, ucap, hv2, _, _⟩ := row_form hown2
  subst hv2
  have hne2 : some bb ≠ (Value.slice ra rs.length rcap).ownBlock := fun e => hap e.symm
  have hbs1 : bb < w1.heap.size := by omega
  have a0 : (w1.setCell ⟨bb, 0, none⟩ (Value.slice va (ns.length + 1) vcap)).cell? ⟨bb, 0, none⟩ = some (Value.slice va (ns.length + 1) vcap) := by simp [go_sem, d0]
  have a1 : (w1.setCell ⟨bb, 0, none⟩ (Value.slice va (ns.length + 1) vcap)).cell? ⟨bb, 1, none⟩ = some (Value.slice ra rs.length rcap) := by simp [go_sem, d1]
  have b0 : (w1.setCell ⟨bb, 0, none⟩ (Value.slice va (ns.length + 1) vcap)).frozen? ⟨bb, 0, none⟩ = false := by simpa using e0
  have b1 : (w1.setCell ⟨bb, 0, none⟩ (Value.slice va (ns.length + 1) vcap)).frozen? ⟨bb, 1, none⟩ = false := by simpa using e1
  have x0 := hgrow2.cell (a := ⟨bb, 0, none⟩) (cell_alloc1 _ a0) hne2
  have x1 := hgrow2.cell (a := ⟨bb, 1, none⟩) (cell_alloc1 _ a1) hne2
  have y0 : w2.frozen? ⟨bb, 0, none⟩ = false := (World.frozen?_of_block (hgrow2.block bb (by simp; omega) hne2)).trans (frozen_alloc1 _ a0 b0)
  have y1 : w2.frozen? ⟨bb, 1, none⟩ = false := (World.frozen?_of_block (hgrow2.block bb (by simp; omega) hne2)).trans (frozen_alloc1 _ a1 b1)
  have HA : Hid ((w1.setCell ⟨bb, 0, none⟩ (Value.slice va (ns.length + 1) vcap)).ownsRow B 70 1 (Value.slice va (ns.length + 1) vcap) (ns.length + 1) (ns ++ [.iface t u])) := row_set hown1 _ _ hvb
  clear a0 a1 b0 b1 d0 d1 e0 e1 c0 c1 f0 f1
  go_wp2
  go_returns
  have hS := HS.out
  have hX := HX.out
  have hs2 := hgrow2.size
  simp only [World.size_alloc, World.size_setCell] at hs2
  have hat2' : (Value.slice ua (rs.length + 1) ucap).ownBlock = (Value.slice ra rs.length rcap).ownBlock ∨ (Value.slice ua (rs.length + 1) ucap).ownBlock = some (w1.heap.size + 1) := by
    rcases hat2 with h | h
    · exact .inl h
    · exact .inr (h.trans (by simp))
  have hub : (Value.slice ua (rs.length + 1) ucap).ownBlock ≠ some bb := by
    intro e
    rcases hat2' with h | h
    · exact hap (by rw [← h]; exact e)
    · rw [e] at h; simp at h; omega
  have hvlt : ∀ g, (Value.slice va (ns.length + 1) vcap).ownBlock = some g → g < w1.heap.size := fun g h => (World.ownsRow.lt hown1 g h).2
  have hvu : ∀ g, (Value.slice va (ns.length + 1) vcap).ownBlock = some g → (Value.slice ua (rs.length + 1) ucap).ownBlock ≠ some g := by
    intro g h1 h2
    rcases hat2' with h | h
    · exact hvr g h1 (by rw [← h]; exact h2)
    · rw [h2] at h; simp at h; have := hvlt g h1; omega
  have bel : Below B w (w2.setCell ⟨bb, 1, none⟩ (Value.slice ua (rs.length + 1) ucap)) :=
    (((((((Below.refl B w).alloc hB _).grown hgrow1 (by simp; omega) (fun k hk => (World.ownsRow.lt hnrow k hk).1))).setCell hS.big _).alloc (by simp; omega) _).grown hgrow2 (by simp; omega) (fun k hk => (World.ownsRow.lt hrow k hk).1)).setCell hS.big _
  have fr : Fr B bb (Value.slice na ns.length ncap) (Value.slice ra rs.length rcap) (Value.slice va (ns.length + 1) vcap) (Value.slice ua (rs.length + 1) ucap) w (w2.setCell ⟨bb, 1, none⟩ (Value.slice ua (rs.length + 1) ucap)) := by
    refine ⟨bel, ?_, ?_⟩
    · intro b hb hnx
      unfold Xof at hnx
      rw [heap_setCell_other _ _ _ _ (fun e => hnx (.inl (by simpa using e)))]
      rw [hgrow2.block b (by simp; omega) (fun e => hnx (.inr (.inr e.symm)))]
      rw [heap_alloc_old _ _ (by simp; omega)]
      rw [heap_setCell_other _ _ _ _ (fun e => hnx (.inl (by simpa using e)))]
      rw [hgrow1.block b (by simp; omega) (fun e => hnx (.inr (.inl e.symm)))]
      exact heap_alloc_old w _ hb
    · intro b hb hx
      unfold Xof at hx ⊢
      rcases hx with h | h | h
      · exact .inl h
      · rcases hat1' with h2 | h2
        · exact .inr (.inl (by rw [← h2]; exact h))
        · rw [h] at h2; simp at h2; omega
      · rcases hat2' with h2 | h2
        · exact .inr (.inr (by rw [← h2]; exact h))
        · rw [h] at h2; simp at h2; omega
  have c2 := hgrow1.cell (a := ⟨bb, 2, none⟩) (cell_alloc1 _ hS.c2) hne1
  have f2 : w1.frozen? ⟨bb, 2, none⟩ = false := (World.frozen?_of_block (hgrow1.block bb (by simp; omega) hne1)).trans (frozen_alloc1 _ hS.c2 hS.f2)
  have a2 : (w1.setCell ⟨bb, 0, none⟩ (Value.slice va (ns.length + 1) vcap)).cell? ⟨bb, 2, none⟩ = some (.int .i64 room) := by simp [go_sem, c2]
  have b2 : (w1.setCell ⟨bb, 0, none⟩ (Value.slice va (ns.length + 1) vcap)).frozen? ⟨bb, 2, none⟩ = false := by simpa using f2
  have x2 := hgrow2.cell (a := ⟨bb, 2, none⟩) (cell_alloc1 _ a2) hne2
  have y2 : w2.frozen? ⟨bb, 2, none⟩ = false := (World.frozen?_of_block (hgrow2.block bb (by simp; omega) hne2)).trans (frozen_alloc1 _ a2 b2)
  refine ⟨rfl, Value.slice va (ns.length + 1) vcap, Value.slice ua (rs.length + 1) ucap, ⟨hS.big, by simp [go_sem, x0], by simp [go_sem, y0], by simp [go_sem, x1], by simp [go_sem, y1], by simp [go_sem, x2], by simp [go_sem, y2], ?_, ?_, hub, hvb, hvu, ?_, ?_, ?_⟩, fr⟩
  · have h1 := row_set (World.ownsRow.kept (World.ownsRow.alloc HA.out _) hgrow2 (by
      cases hva : (Value.slice va (ns.length + 1) vcap).ownBlock with
      | none => exact .inl rfl
      | some g => exact .inr fun e => hvr g hva e.symm)) ⟨bb, 1, none⟩ (Value.slice ua (rs.length + 1) ucap) hvb
    rw [List.length_append]
    exact h1
  · have := row_set hown2 ⟨bb, 1, none⟩ (Value.slice ua (rs.length + 1) ucap) hub
    rw [mCells_app, List.length_append]
    simpa [mCells, hxv] using this
  · have hfr := HFr.out
    rw [hxv] at hfr
    exact Once.snoc fr.blk fr.mono hS.once hfr
  · intro y hy
    rcases List.mem_append.1 hy with h | h
    · exact fr.rep (hS.rep y h)
    · simp at h
      subst h
      exact fr.rep hX
  · intro y hy
    rcases List.mem_append.1 hy with h | h
    · exact fr.post (hS.rep y h) (hS.post y h)
    · simp at h
      subst h
      exact fr.post hX HP.out

end Go.Proofs.YtgmjpdejfdldlaaDoor

namespace Go.Proofs.YtgmjpdejfdldlaaDoor
open Go.RowKit

theorem mCells_last (rs : List Mk) (x : Mk) : (mCells (rs ++ [x]))[rs.length * 2]? = some x.v ∧ (mCells (rs ++ [x]))[rs.length * 2 + 1]? = some (.int .i64 x.n) := by
  rw [mCells_app]
  constructor
  · rw [List.getElem?_append_right (by rw [mCells_len]; omega), mCells_len]; simp [mCells]
  · rw [List.getElem?_append_right (by rw [mCells_len]; omega), mCells_len]; simp [mCells]

set_option maxHeartbeats 1000000 in
set_option maxRecDepth 100000 in
theorem pop_any (B : Nat) (w : World) (bb : Nat) (nv rv : Value) (rs : List Mk) (ns : List Value) (room : Int) (x : Mk) (hS : Bst B w bb nv rv (rs ++ [x]) ns room) (hB : B ≤ w.heap.size) (hl : rs.length ≤ 1048576) :
    Calls Tryd.prog 76 #[.pointer (some ⟨bb, 0, none⟩)] w fun e w' => e = .returned (.agg #[x.v, .int .i64 x.n]) ∧ ∃ rv', Bst B w' bb nv rv' rs ns room ∧ Fr B bb nv rv nv rv' w w' := by
  obtain ⟨t, u, hxv⟩ := (hS.rep x (by simp)).form
  rcases hS.row.2 with ⟨_, h0⟩ | ⟨g, cap, cur, hrv, hbg, hg, hnc, hcm, hcs, htake⟩
  · simp at h0
  subst hrv
  have hrow := hS.row
  have m0 := World.ownsRow.cellAt hrow (rs.length * 2) (by simp <;> omega)
  have m1 := World.ownsRow.cellAt hrow (rs.length * 2 + 1) (by simp <;> omega)
  rw [(mCells_last rs x).1, hxv] at m0
  rw [(mCells_last rs x).2] at m1
  have c1 := hS.c1; have f1 := hS.f1
  have hbl := hS.lt
  have HS : Hid (Bst B w bb nv (.slice (some ⟨g, 0, none⟩) (rs ++ [x]).length cap) (rs ++ [x]) ns room) := hS
  have hne : g ≠ bb := fun e => hS.ap (by rw [e]; rfl)
  have hgs := (Array.getElem?_eq_some_iff.1 hg).1
  have hle : (rs ++ [x]).length = rs.length + 1 := by simp
  rw [hle] at c1 hnc
  unfold maxLen at hcm
  have hcut := row_cut hrow (m := rs.length) (by simp)
  clear hS hrow hg hcs htake hbg
  rw [hxv]
  go_enter Tryd.func76, Tryd.ntmps76
  go_wp2
  go_returns
  have hS := HS.out
  have bel0 : Below B w (w.setCell ⟨bb, 1, none⟩ (.slice (some ⟨g, 0, none⟩) rs.length cap)) := (Below.refl B w).setCell hS.big _
  have fr : Fr B bb nv (.slice (some ⟨g, 0, none⟩) (rs ++ [x]).length cap) nv (.slice (some ⟨g, 0, none⟩) rs.length cap) w (w.setCell ⟨bb, 1, none⟩ (.slice (some ⟨g, 0, none⟩) rs.length cap)) := by
    refine ⟨bel0, ?_, fun _ _ h => h⟩
    intro b hb hnx
    exact heap_setCell_other _ _ _ _ (fun e => hnx (.inl (by simpa using e)))
  have hb0 : Bst B (w.setCell ⟨bb, 1, none⟩ (.slice (some ⟨g, 0, none⟩) rs.length cap)) bb nv (.slice (some ⟨g, 0, none⟩) rs.length cap) rs ns room := by
    refine ⟨hS.big, ?_, by simpa using hS.f0, World.cell?_setCell_same' _ _ _ (by rw [c1]; rfl), by simpa using f1, ?_, by simpa using hS.f2, row_set hS.nrow _ _ hS.nap, ?_, by simpa [Value.ownBlock] using hne, hS.nap, hS.nr, hS.once.turn fr.blk fr.mono, fun y hy => fr.rep (hS.rep y (by simp [hy])), fun y hy => fr.post (hS.rep y (by simp [hy])) (hS.post y (by simp [hy]))⟩
    · have := hS.c0; simp [go_sem, this]
    · have := hS.c2; simp [go_sem, this]
    · refine row_set ?_ _ _ (by simpa [Value.ownBlock] using hne)
      have e1 : (mCells (rs ++ [x])).take (rs.length * 2) = mCells rs := by rw [mCells_app, ← mCells_len rs]; exact List.take_left
      rw [e1] at hcut
      exact hcut
  have gg : ∀ (W : World) (o1 o2 : Obj), W.grownBy ((W.alloc o1).alloc o2) none := fun _ _ _ => grown_trans (World.grownBy_alloc _ _ _) (World.grownBy_alloc _ _ _)
  exact ⟨rfl, _, hb0.keep (gg _ _ _), fr.grown (gg _ _ _) hB⟩

end Go.Proofs.YtgmjpdejfdldlaaDoor

