import Derived.Test.YtbiiopiaglkicaaDoorRangeOwn
import Derived.Test.YtbiiopiaglkicaaDoorCatPush
import Derived.Test.YtbiiopiaglkicaaDoorTreeOf
import Derived.Sort.LoopGhostIn
namespace Go.Proofs.YtbiiopiaglkicaaDoor
open Go.RowKit Go.Shelf
attribute [local go_sem] Oper.semAt_some

/-- A node of the tree as it lies in w0, below block n₀. -/
abbrev Nd (n₀ : Nat) (w0 : World) : Type := { x : Value × Tr // Rep (fun b => n₀ ≤ b) n₀ w0 x.1 x.2 ∧ sz x.2 ≤ 140000 }

theorem Rep.below {n₀ : Nat} {w w' : World} {v : Value} {T : Tr} (h : Rep (fun b => n₀ ≤ b) n₀ w v T) (hb : Below n₀ w w') : Rep (fun b => n₀ ≤ b) n₀ w' v T :=
  h.turn hb.size (fun b _ hx => hb.block b (by omega)) (fun _ _ h => h) (fun _ _ hr => Rd.below hr hb)

/-- How a node is pushed: which function, on which receiver, and what comes upon the work. -/
def Pushes (n₀ : Nat) (w0 : World) (fl : Bool) (x : Nd n₀ w0) : Prop :=
  ∃ (t : TypeId) (v : Value) (ks : List (Nd n₀ w0)), x.1.1 = .iface t v ∧ ks.map (·.1.2) = kids fl x.1.2 ∧
    (∀ W : World, (nilAhead 303 t v pushN).run Tryd.prog W = .ok (some false) W) ∧
    ∃ rv,
      ((∀ W, Below n₀ w0 W → (method 303 t v pushN).run Tryd.prog W = .ok (129, rv) W) ∧
        ∀ B W wv n vs, n₀ ≤ B → B ≤ W.heap.size → Below n₀ w0 W → n ≤ 1048576 → W.ownsRow B 84 1 wv n vs → Calls Tryd.prog 129 #[rv, wv, .bool fl] W fun e W' => PushSays B W wv n vs (ks.map (·.1.1)).reverse e W') ∨
      ((∀ W, Below n₀ w0 W → (method 303 t v pushN).run Tryd.prog W = .ok (130, rv) W) ∧
        ∀ B W wv n vs, n₀ ≤ B → B ≤ W.heap.size → Below n₀ w0 W → n ≤ 1048576 → W.ownsRow B 84 1 wv n vs → Calls Tryd.prog 130 #[rv, wv, .bool fl] W fun e W' => PushSays B W wv n vs (ks.map (·.1.1)).reverse e W') ∨
      ((∀ W, Below n₀ w0 W → (method 303 t v pushN).run Tryd.prog W = .ok (131, rv) W) ∧
        ∀ B W wv n vs, n₀ ≤ B → B ≤ W.heap.size → Below n₀ w0 W → n ≤ 1048576 → W.ownsRow B 84 1 wv n vs → Calls Tryd.prog 131 #[rv, wv, .bool fl] W fun e W' => PushSays B W wv n vs (ks.map (·.1.1)).reverse e W') ∨
      ((∀ W, Below n₀ w0 W → (method 303 t v pushN).run Tryd.prog W = .ok (132, rv) W) ∧
        ∀ B W wv n vs, n₀ ≤ B → B ≤ W.heap.size → Below n₀ w0 W → n ≤ 1048576 → W.ownsRow B 84 1 wv n vs → Calls Tryd.prog 132 #[rv, wv, .bool fl] W fun e W' => PushSays B W wv n vs (ks.map (·.1.1)).reverse e W')

theorem bel_cell {n₀ b o : Nat} {w0 W : World} {v : Value} (hb : Below n₀ w0 W) (hx : ¬ n₀ ≤ b) (h : w0.cell? ⟨b, o, none⟩ = some v) : W.cell? ⟨b, o, none⟩ = some v := (hb.cell (by simpa using hx)).trans h

theorem pushes (n₀ : Nat) (w0 : World) (fl : Bool) (x : Nd n₀ w0) : Pushes n₀ w0 fl x := by
  obtain ⟨⟨v, T⟩, hr, hz⟩ := x
  cases T with
  | leaf p =>
    simp only [Rep] at hr
    rcases hr with h | h | h | h | h | ⟨h1, b, tv, h2, h3, h4, h5, h7, h8⟩
    · exact ⟨_, _, [], h.2, rfl, fun W => na_leaf _ (.inl rfl) W, _, .inl ⟨fun W _ => me_leaf _ (.inl rfl) W, fun B W wv n vs _ _ _ _ hrow => leafPush_any B W wv n vs fl hrow⟩⟩
    · exact ⟨_, _, [], h.2, rfl, fun W => na_leaf _ (.inr (.inl rfl)) W, _, .inl ⟨fun W _ => me_leaf _ (.inr (.inl rfl)) W, fun B W wv n vs _ _ _ _ hrow => leafPush_any B W wv n vs fl hrow⟩⟩
    · exact ⟨_, _, [], h.2, rfl, fun W => na_leaf _ (.inr (.inr (.inl rfl))) W, _, .inl ⟨fun W _ => me_leaf _ (.inr (.inr (.inl rfl))) W, fun B W wv n vs _ _ _ _ hrow => leafPush_any B W wv n vs fl hrow⟩⟩
    · exact ⟨_, _, [], h.2, rfl, fun W => na_leaf _ (.inr (.inr (.inr (.inl rfl)))) W, _, .inl ⟨fun W _ => me_leaf _ (.inr (.inr (.inr (.inl rfl)))) W, fun B W wv n vs _ _ _ _ hrow => leafPush_any B W wv n vs fl hrow⟩⟩
    · exact ⟨_, _, [], h.2, rfl, fun W => na_leaf _ (.inr (.inr (.inr (.inr rfl)))) W, _, .inl ⟨fun W _ => me_leaf _ (.inr (.inr (.inr (.inr rfl)))) W, fun B W wv n vs _ _ _ _ hrow => leafPush_any B W wv n vs fl hrow⟩⟩
    · exact ⟨_, _, [], h2, rfl, fun W => na_ptr _ (.inl rfl) _ W, _, .inl ⟨fun W hb => me_text b W _ ((hb.block b (by omega)).trans h5), fun B W wv n vs _ _ _ _ hrow => leafPush_any B W wv n vs fl hrow⟩⟩
  | un p y =>
    simp only [Rep] at hr
    obtain ⟨b, u, h3, h4, h5, h6, h7⟩ := hr
    obtain ⟨tu, uu, hu⟩ := h6.form
    subst hu
    rcases h7 with h7 | h7
    · exact ⟨_, _, [⟨(.iface tu uu, y), h6, by show sz y ≤ 140000; simp only [sz] at hz; omega⟩], h7.2, rfl, fun W => na_ptr _ (.inr (.inl rfl)) _ W, _, .inr (.inl ⟨fun W hb => me_group b _ W (bel_cell hb h3 h5), fun B W wv n vs _ hB _ hn hrow => operandPush_any B W wv n vs fl tu uu hrow hB hn⟩)⟩
    · exact ⟨_, _, [⟨(.iface tu uu, y), h6, by show sz y ≤ 140000; simp only [sz] at hz; omega⟩], h7.2, rfl, fun W => na_ptr _ (.inr (.inr (.inl rfl))) _ W, _, .inr (.inl ⟨fun W hb => me_nest b _ W (bel_cell hb h3 h5), fun B W wv n vs _ hB _ hn hrow => operandPush_any B W wv n vs fl tu uu hrow hB hn⟩)⟩
  | bin p y z =>
    simp only [Rep] at hr
    obtain ⟨b, u, u', h3, h4, h5, h5', h6, h6', h7⟩ := hr
    obtain ⟨tu, uu, hu⟩ := h6.form
    obtain ⟨tu', uu', hu'⟩ := h6'.form
    subst hu hu'
    rcases h7 with h7 | h7
    · exact ⟨_, _, [⟨(.iface tu uu, y), h6, by show sz y ≤ 140000; simp only [sz] at hz; omega⟩, ⟨(.iface tu' uu', z), h6', by show sz z ≤ 140000; simp only [sz] at hz; omega⟩], h7.2, by simp [kids, h7.1], fun W => na_ptr _ (.inr (.inr (.inr (.inl rfl)))) _ W, _, .inr (.inr (.inl ⟨fun W _ => me_cat _ W, fun B W wv n vs _ hB hb hn hrow => catPush_any B W wv n vs fl b tu tu' uu uu' (bel_cell hb h3 h5) (bel_cell hb h3 h5') hrow hB hn⟩))⟩
    · cases fl with
      | true => exact ⟨_, _, [⟨(.iface tu' uu', z), h6', by show sz z ≤ 140000; simp only [sz] at hz; omega⟩], h7.2, by simp [kids, h7.1], fun W => na_ptr _ (.inr (.inr (.inr (.inr rfl)))) _ W, _, .inr (.inr (.inr ⟨fun W _ => me_alt _ W, fun B W wv n vs _ hB hb hn hrow => altPush_any B W wv n vs true b tu tu' uu uu' (bel_cell hb h3 h5) (bel_cell hb h3 h5') hrow hB hn⟩))⟩
      | false => exact ⟨_, _, [⟨(.iface tu uu, y), h6, by show sz y ≤ 140000; simp only [sz] at hz; omega⟩], h7.2, by simp [kids, h7.1], fun W => na_ptr _ (.inr (.inr (.inr (.inr rfl)))) _ W, _, .inr (.inr (.inr ⟨fun W _ => me_alt _ W, fun B W wv n vs _ hB hb hn hrow => altPush_any B W wv n vs false b tu tu' uu uu' (bel_cell hb h3 h5) (bel_cell hb h3 h5') hrow hB hn⟩))⟩

/-- The blocks that a body may write: its variable's, and the row that this holds. -/
def Xt (tb : Nat) (W : World) (b : Nat) : Prop := b = tb ∨ ∃ v, W.cell? ⟨tb, 0, none⟩ = some v ∧ v.ownBlock = some b

/-- What a round that goes on keeps. -/
structure KpX (n₀ tb : Nat) (W W' : World) : Prop where
  bel : Below n₀ W W'
  blk : ∀ b o, W.heap[b]? = some o → o.isCells = true → ¬ Xt tb W b → W'.heap[b]? = some o
  mono : ∀ b, Xt tb W' b → Xt tb W b ∨ (W.heap.size ≤ b ∧ b < W'.heap.size)

theorem KpX.trans {n₀ tb : Nat} {A B C : World} (h : KpX n₀ tb A B) (k : KpX n₀ tb B C) : KpX n₀ tb A C := by
  refine ⟨h.bel.trans k.bel, fun b o ho hc hx => ?_, fun b hb => ?_⟩
  · refine k.blk b o (h.blk b o ho hc hx) hc (fun e => ?_)
    have hlt := (Array.getElem?_eq_some_iff.1 ho).1
    rcases h.mono b e with h1 | h1
    · exact hx h1
    · omega
  · have := h.bel.size
    have := k.bel.size
    rcases k.mono b hb with h1 | h1
    · rcases h.mono b h1 with h2 | h2
      · exact .inl h2
      · exact .inr (by omega)
    · exact .inr (by omega)

theorem Xt_same {tb : Nat} {W W' : World} (h : W'.heap[tb]? = W.heap[tb]?) (b : Nat) : Xt tb W' b ↔ Xt tb W b := by
  unfold Xt
  rw [World.cell?_of_block (a := ⟨tb, 0, none⟩) h]

theorem KpX.put {n₀ tb : Nat} {W : World} {l : Nat} {o : Obj} (o' : Obj) (hn : n₀ ≤ l) (ht : tb ≠ l) (ho : W.heap[l]? = some o) (hc : o.isCells = false) : KpX n₀ tb W (W.putObj l o') := by
  have ht2 : (W.putObj l o').heap[tb]? = W.heap[tb]? := World.putObj_heap_other ht
  refine ⟨⟨rfl, rfl, rfl, by simp, fun k hk => World.putObj_heap_other (by omega)⟩, fun b o2 h2 hc2 _ => ?_, fun b hb => .inl ((Xt_same ht2 b).1 hb)⟩
  rw [World.putObj_heap_other (fun e => by subst e; rw [ho] at h2; cases h2; rw [hc] at hc2; cases hc2)]
  exact h2

end Go.Proofs.YtbiiopiaglkicaaDoor
