import Derived.Deep.RegionWith
import Derived.Deep.RegionLaw
import Derived.Sort.LoopGhostIn
import Derived.Test.YtgmjpdejfdldlaaDoorMAF
import Derived.Test.YtgmjpdejfdldlaaDoorMAK
import Derived.Test.YtgmjpdejfdldlaaDoorMAN
import Derived.Test.YtgmjpdejfdldlaaDoorMAO
namespace Go.Proofs.YtgmjpdejfdldlaaDoor
open Go.RowKit

abbrev pushN : String := "loop.example/s02863/impl.push"

theorem na_leaf (t : TypeId) (h : t = 127 ∨ t = 81 ∨ t = 128 ∨ t = 82 ∨ t = 83) (w : World) : (nilAhead 290 t (.agg #[]) pushN).run Tryd.prog w = .ok (some false) w := by
  rcases h with rfl | rfl | rfl | rfl | rfl <;> kernel_rfl
theorem na_ptr (t : TypeId) (h : t = 75 ∨ t = 135 ∨ t = 130 ∨ t = 138 ∨ t = 142) (a : Addr) (w : World) : (nilAhead 290 t (.pointer (some a)) pushN).run Tryd.prog w = .ok (some false) w := by
  rcases h with rfl | rfl | rfl | rfl | rfl <;> kernel_rfl
theorem me_leaf (t : TypeId) (h : t = 127 ∨ t = 81 ∨ t = 128 ∨ t = 82 ∨ t = 83) (w : World) : (method 290 t (.agg #[]) pushN).run Tryd.prog w = .ok (103, .agg #[]) w := by
  rcases h with rfl | rfl | rfl | rfl | rfl <;> kernel_rfl
theorem me_cat (a : Addr) (w : World) : (method 290 138 (.pointer (some a)) pushN).run Tryd.prog w = .ok (105, .pointer (some a)) w := by kernel_rfl
theorem me_alt (a : Addr) (w : World) : (method 290 142 (.pointer (some a)) pushN).run Tryd.prog w = .ok (106, .pointer (some a)) w := by kernel_rfl
end Go.Proofs.YtgmjpdejfdldlaaDoor

namespace Go.Proofs.YtgmjpdejfdldlaaDoor
open Go.RowKit

set_option maxRecDepth 100000
theorem fi_text : (Tryd.t75.methods.find? fun x => x.name == pushN) = some { name := pushN, sig := 117, path := #[{ struct := 79, index := 0, deref := true }], func := some (103, false) } := by kernel_rfl
theorem fi_group : (Tryd.t135.methods.find? fun x => x.name == pushN) = some { name := pushN, sig := 117, path := #[{ struct := 137, index := 0, deref := true }], func := some (104, false) } := by kernel_rfl
theorem fi_nest : (Tryd.t130.methods.find? fun x => x.name == pushN) = some { name := pushN, sig := 117, path := #[{ struct := 134, index := 0, deref := true }], func := some (104, false) } := by kernel_rfl

theorem me_group (b : Nat) (u : Value) (w : World) (h : w.cell? ⟨b, 0, none⟩ = some u) : (method 290 135 (.pointer (some ⟨b, 0, none⟩)) pushN).run Tryd.prog w = .ok (104, .agg #[u]) w := by
  unfold method
  simp [go_sem]
  rw [fi_group]
  simp [go_sem, follow, receiverAt, Place.get, h, fieldPlace]
theorem me_nest (b : Nat) (u : Value) (w : World) (h : w.cell? ⟨b, 0, none⟩ = some u) : (method 290 130 (.pointer (some ⟨b, 0, none⟩)) pushN).run Tryd.prog w = .ok (104, .agg #[u]) w := by
  unfold method
  simp [go_sem]
  rw [fi_nest]
  simp [go_sem, follow, receiverAt, Place.get, h, fieldPlace]
theorem part_zero (b : Nat) (w : World) (cs : Array Value) (h : w.heap[b]? = some (.cells cs 79)) : (partAt ⟨b, 0, none⟩ 0 0).run Tryd.prog w = .ok ⟨b, 0, none⟩ w := by
  have hs : w.shape? b = some (79, cs.size) := by simp [World.shape?, h]
  have h1 : Tryd.prog.cellsOf 79 = 2 := by kernel_rfl
  have h2 : byteOfCell Tryd.prog Tryd.prog.depth 79 0 = some 0 := by kernel_rfl
  unfold partAt byteOf noView viewAt
  simp [go_sem, hs, h1, h2]
theorem me_text (b : Nat) (w : World) (cs : Array Value) (h : w.heap[b]? = some (.cells cs 79)) : (method 290 75 (.pointer (some ⟨b, 0, none⟩)) pushN).run Tryd.prog w = .ok (103, .agg #[]) w := by
  unfold method
  simp [go_sem]
  rw [fi_text]
  simp [go_sem, follow, Place.get, fieldPlace, part_zero b w cs h]
  simp [go_sem, receiverAt, Place.get]
end Go.Proofs.YtgmjpdejfdldlaaDoor

namespace Go.Proofs.YtgmjpdejfdldlaaDoor
open Go.RowKit

/-- What a push leaves: ks behind what lay there. -/
def PushSays (B : Nat) (w : World) (wv : Value) (n : Nat) (vs ks : List Value) (e : Ending) (w' : World) : Prop :=
  ∃ wv', e = .returned wv' ∧ w'.ownsRow B 70 1 wv' (n + ks.length) (vs ++ ks) ∧ w.grownBy w' wv.ownBlock ∧ (wv'.ownBlock = wv.ownBlock ∨ ∃ g, wv'.ownBlock = some g ∧ w.heap.size ≤ g)

theorem grown_row {w w1 w' : World} {row : Option Nat} (h : w.grownBy w1 none) (k : w1.grownBy w' row) : w.grownBy w' row :=
  ⟨k.os.trans h.os, k.tape.trans h.tape, k.output.trans h.output, Nat.le_trans h.size k.size, fun i hi hn => (k.block i (Nat.lt_of_lt_of_le hi h.size) hn).trans (h.block i hi (by simp))⟩

set_option maxHeartbeats 1000000 in
set_option maxRecDepth 100000 in
theorem leafPush_any (B : Nat) (w : World) (wv : Value) (n : Nat) (vs : List Value) (fl : Bool) (hrow : w.ownsRow B 70 1 wv n vs) :
    Calls Tryd.prog 103 #[.agg #[], wv, .bool fl] w fun e w' => PushSays B w wv n vs [] e w' := by
  obtain ⟨a, cap, hwv, _, _⟩ := row_form hrow
  have HR : Hid (w.ownsRow B 70 1 wv n vs) := hrow
  subst hwv
  clear hrow
  go_enter Tryd.func103, Tryd.ntmps103
  go_wp2
  go_ret
  exact ⟨_, rfl, by simpa using World.ownsRow.alloc HR.out _, World.grownBy_alloc _ _ _, .inl rfl⟩

set_option maxHeartbeats 1000000 in
set_option maxRecDepth 100000 in
theorem operandPush_any (B : Nat) (w : World) (wv : Value) (n : Nat) (vs : List Value) (fl : Bool) (t : TypeId) (u : Value) (hrow : w.ownsRow B 70 1 wv n vs) (hB : B ≤ w.heap.size) (hn : n ≤ 1048576) :
    Calls Tryd.prog 104 #[.agg #[.iface t u], wv, .bool fl] w fun e w' => PushSays B w wv n vs [.iface t u] e w' := by
  obtain ⟨i0, hi, hz0, hz1, hz2⟩ := info_parts infoNode
  obtain ⟨a, cap, hwv, _, _⟩ := row_form hrow
  have hrow1 := World.ownsRow.alloc hrow (.cells #[.iface t u] 132)
  subst hwv
  clear hrow
  go_enter Tryd.func104, Tryd.ntmps104
  go_wp2_with (at_builtin; refine wpList_append_own_at _ rfl _ _ 54 rfl B 70 i0 .nilIface 1 16 Tryd.underlying54 hi hz0 hz1 hz2 rfl (by decide) _ _ _ rfl (World.ownsRow.alloc hrow1 _) ⟨w.heap.size + 1, 0, none⟩ 1 1 [.iface t u] rfl rfl (by have := cell_one_new (w.alloc (.cells #[.iface t u] 132)) (.iface t u) 70; rw [World.size_alloc] at this; exact this) (by intro u hu; simp at hu; subst hu; rfl) (by unfold maxLen; omega) (by omega) (by simp; omega) ?_; intro v' w1 hown' hgrow _ hat)
  go_ret
  refine ⟨v', rfl, hown', ?_, ?_⟩
  · exact grown_row (grown_trans (World.grownBy_alloc _ _ _) (World.grownBy_alloc _ _ _)) hgrow
  · rcases hat with h | h
    · exact .inl h
    · exact .inr ⟨_, h, by simp; omega⟩

set_option maxHeartbeats 1000000 in
set_option maxRecDepth 100000 in
theorem altPush_any (B : Nat) (w : World) (wv : Value) (n : Nat) (vs : List Value) (fl : Bool) (b : Nat) (t t' : TypeId) (u u' : Value) (c0 : w.cell? ⟨b, 0, none⟩ = some (.iface t u)) (c1 : w.cell? ⟨b, 1, none⟩ = some (.iface t' u')) (hrow : w.ownsRow B 70 1 wv n vs) (hB : B ≤ w.heap.size) (hn : n ≤ 1048576) :
    Calls Tryd.prog 106 #[.pointer (some ⟨b, 0, none⟩), wv, .bool fl] w fun e w' => PushSays B w wv n vs [if fl then .iface t' u' else .iface t u] e w' := by
  obtain ⟨i0, hi, hz0, hz1, hz2⟩ := info_parts infoNode
  obtain ⟨a, cap, hwv, _, _⟩ := row_form hrow
  subst hwv
  cases fl with
  | true =>
    go_enter Tryd.func106, Tryd.ntmps106
    go_wp2_with (at_builtin; refine wpList_append_own_at _ rfl _ _ 54 rfl B 70 i0 .nilIface 1 16 Tryd.underlying54 hi hz0 hz1 hz2 rfl (by decide) _ _ _ rfl (World.ownsRow.alloc hrow _) ⟨w.heap.size, 0, none⟩ 1 1 [.iface t' u'] rfl rfl (cell_one_new _ _ _) (by intro u hu; simp at hu; subst hu; rfl) (by unfold maxLen; omega) (by omega) (by simp; omega) ?_; intro v' w1 hown' hgrow _ hat)
    go_ret
    refine ⟨v', rfl, hown', grown_row (World.grownBy_alloc _ _ _) hgrow, ?_⟩
    rcases hat with h | h
    · exact .inl h
    · exact .inr ⟨_, h, by simp⟩
  | false =>
    go_enter Tryd.func106, Tryd.ntmps106
    go_wp2_with (at_builtin; refine wpList_append_own_at _ rfl _ _ 54 rfl B 70 i0 .nilIface 1 16 Tryd.underlying54 hi hz0 hz1 hz2 rfl (by decide) _ _ _ rfl (World.ownsRow.alloc hrow _) ⟨w.heap.size, 0, none⟩ 1 1 [.iface t u] rfl rfl (cell_one_new _ _ _) (by intro u hu; simp at hu; subst hu; rfl) (by unfold maxLen; omega) (by omega) (by simp; omega) ?_; intro v' w1 hown' hgrow _ hat)
    go_ret
    refine ⟨v', rfl, hown', grown_row (World.grownBy_alloc _ _ _) hgrow, ?_⟩
    rcases hat with h | h
    · exact .inl h
    · exact .inr ⟨_, h, by simp⟩

end Go.Proofs.YtgmjpdejfdldlaaDoor

namespace Go.Proofs.YtgmjpdejfdldlaaDoor
open Go.RowKit

/-- An append inside a region that draws its order, where what it does is known. -/
theorem step_append_known {P : Program} {ops : Array Oper} {o : Oper} {a : Act} {w : World} {K : Act → World → Prop} {Q : Exit → Act → World → Prop} {E : Prop} (hg : o.guard = none) (s x : Operand) (t : TypeId)
    (hop : o.op = Op.call { callee := Callee.builtin Builtin.append, args := #[s, x], argTypes := #[t, t] }) (v xv v' : Value) (w' : World) (hs : a.eval s = v) (hx : a.eval x = xv)
    (hrun : (Builtin.append_ #[t, t] o.type #[v, xv]).run P w = .ok v' w') (hK : K (a.put o.dst v') w') : if Region.wanted o (yielded ops a.tmps) = true then Oper.wp P o a w K Q else E := by
  rw [if_pos (show Region.wanted o (yielded ops a.tmps) = true by simp [Region.wanted, hg])]
  unfold Oper.wp
  simp only [execOp, hop, resolve, invoke, builtin, Sem.run_bind, Sem.run_pure, Result.andThen_ok, List.map_toArray, List.map_cons, List.map_nil, hs, hx, hrun]
  exact hK

set_option maxHeartbeats 2000000 in
set_option maxRecDepth 100000 in
theorem catPush_any (B : Nat) (w : World) (wv : Value) (n : Nat) (vs : List Value) (fl : Bool) (b : Nat) (t t' : TypeId) (u u' : Value) (c0 : w.cell? ⟨b, 0, none⟩ = some (.iface t u)) (c1 : w.cell? ⟨b, 1, none⟩ = some (.iface t' u')) (hrow : w.ownsRow B 70 1 wv n vs) (hB : B ≤ w.heap.size) (hn : n ≤ 1048576) :
    Calls Tryd.prog 105 #[.pointer (some ⟨b, 0, none⟩), wv, .bool fl] w fun e w' => PushSays B w wv n vs [.iface t' u', .iface t u] e w' := by
  obtain ⟨i0, hi, hz0, hz1, hz2⟩ := info_parts infoNode
  obtain ⟨a, cap, hwv, _, _⟩ := row_form hrow
  subst hwv
  have hrow1 : w.drew.ownsRow B 70 1 (.slice a n cap) n vs := hrow
  obtain ⟨v', w1, hrun, hown', hgrow, _, hat⟩ := run_append_own_at (P := Tryd.prog) (w.drew.alloc (.cells #[.iface t' u', .iface t u] 70)) B 54 54 70 i0 .nilIface 1 16 Tryd.underlying54 hi hz0 hz1 hz2 rfl (by decide) (.slice a n cap) n vs (World.ownsRow.alloc hrow1 _) ⟨w.heap.size, 0, none⟩ 2 2 [.iface t' u', .iface t u] rfl (cells_pair w.drew _ _ _) (by intro u hu; simp at hu; rcases hu with rfl | rfl <;> rfl) (by unfold maxLen; omega) (by omega) (by simp; omega)
  have hrun2 := hrun
  rw [World.alloc_drew] at hrun2
  have HO : Hid (w1.ownsRow B 70 1 v' (n + 2) (vs ++ [.iface t' u', .iface t u])) := hown'
  have g0 : w.grownBy (w.drew.alloc (.cells #[.iface t' u', .iface t u] 70)) none := ⟨rfl, rfl, rfl, by simp, fun i hi _ => Below.heap_alloc w.drew _ i hi⟩
  have HG : Hid (w.grownBy w1 (Value.slice a n cap).ownBlock) := grown_row g0 hgrow
  have HAt : Hid (v'.ownBlock = (Value.slice a n cap).ownBlock ∨ ∃ g, v'.ownBlock = some g ∧ w.heap.size ≤ g) := by
    rcases hat with h | h
    · exact .inl h
    · exact .inr ⟨_, h, by simp⟩
  obtain ⟨va, vcap, hv', _, _⟩ := row_form hown'
  clear hrow hrow1 hown' hgrow hat g0
  subst hv'
  go_enter Tryd.func105, Tryd.ntmps105
  go_wp2
  go_region_law (refine step_append_known rfl (.tmp 7) (.tmp 16) 54 rfl _ _ _ _ (by simp [Act.eval]) (by simp [Act.eval]) hrun2 ?_)
  all_goals
    go_wp2
    go_ret
    exact ⟨_, rfl, HO.out, HG.out, HAt.out⟩

end Go.Proofs.YtgmjpdejfdldlaaDoor

namespace Go.Proofs.YtgmjpdejfdldlaaDoor
open Go.RowKit Go.Shelf
attribute [local go_sem] Oper.semAt_some

/-- A node of the tree as it lies in w0, below block n₀. -/
abbrev Nd (n₀ : Nat) (w0 : World) : Type := { x : Value × Tr // Rep (fun b => n₀ ≤ b) n₀ w0 x.1 x.2 ∧ sz x.2 ≤ 140000 }

theorem Rep.below {n₀ : Nat} {w w' : World} {v : Value} {T : Tr} (h : Rep (fun b => n₀ ≤ b) n₀ w v T) (hb : Below n₀ w w') : Rep (fun b => n₀ ≤ b) n₀ w' v T :=
  h.turn hb.size (fun b _ hx => hb.block b (by omega)) (fun _ _ h => h) (fun _ _ hr => Rd.below hr hb)

/-- How a node is pushed: which function, on which receiver, and what comes upon the work. -/
def Pushes (n₀ : Nat) (w0 : World) (fl : Bool) (x : Nd n₀ w0) : Prop :=
  ∃ (t : TypeId) (v : Value) (ks : List (Nd n₀ w0)), x.1.1 = .iface t v ∧ ks.map (·.1.2) = kids fl x.1.2 ∧
    (∀ W : World, (nilAhead 290 t v pushN).run Tryd.prog W = .ok (some false) W) ∧
    ∃ rv,
      ((∀ W, Below n₀ w0 W → (method 290 t v pushN).run Tryd.prog W = .ok (103, rv) W) ∧
        ∀ B W wv n vs, n₀ ≤ B → B ≤ W.heap.size → Below n₀ w0 W → n ≤ 1048576 → W.ownsRow B 70 1 wv n vs → Calls Tryd.prog 103 #[rv, wv, .bool fl] W fun e W' => PushSays B W wv n vs (ks.map (·.1.1)).reverse e W') ∨
      ((∀ W, Below n₀ w0 W → (method 290 t v pushN).run Tryd.prog W = .ok (104, rv) W) ∧
        ∀ B W wv n vs, n₀ ≤ B → B ≤ W.heap.size → Below n₀ w0 W → n ≤ 1048576 → W.ownsRow B 70 1 wv n vs → Calls Tryd.prog 104 #[rv, wv, .bool fl] W fun e W' => PushSays B W wv n vs (ks.map (·.1.1)).reverse e W') ∨
      ((∀ W, Below n₀ w0 W → (method 290 t v pushN).run Tryd.prog W = .ok (105, rv) W) ∧
        ∀ B W wv n vs, n₀ ≤ B → B ≤ W.heap.size → Below n₀ w0 W → n ≤ 1048576 → W.ownsRow B 70 1 wv n vs → Calls Tryd.prog 105 #[rv, wv, .bool fl] W fun e W' => PushSays B W wv n vs (ks.map (·.1.1)).reverse e W') ∨
      ((∀ W, Below n₀ w0 W → (method 290 t v pushN).run Tryd.prog W = .ok (106, rv) W) ∧
        ∀ B W wv n vs, n₀ ≤ B → B ≤ W.heap.size → Below n₀ w0 W → n ≤ 1048576 → W.ownsRow B 70 1 wv n vs → Calls Tryd.prog 106 #[rv, wv, .bool fl] W fun e W' => PushSays B W wv n vs (ks.map (·.1.1)).reverse e W')

theorem bel_cell {n₀ b o : Nat} {w0 W : World} {v : Value} (hb : Below n₀ w0 W) (hx : ¬ n₀ ≤ b) (h : w0.cell? ⟨b, o, none⟩ = some v) : W.cell? ⟨b, o, none⟩ = some v := (hb.cell (by simpa using hx)).trans h

theorem pushes (n₀ : Nat) (w0 : World) (fl : Bool) (x : Nd n₀ w0) : Pushes n₀ w0 fl x := by
  obtain ⟨⟨v, T⟩, hr, hz⟩ := x
  cases T with
  | leaf p =>
    simp only [Rep] at hr
    rcases hr with h | h | h | h | h | ⟨h1, b, tv, h2, h3, h4, h5, h7, h8⟩
    · exact ⟨_, _, [], h.2, rfl, fun W => na_leaf _ (.inl rfl) W, _, .inl ⟨fun W _ => me_leaf _ (.inl rfl) W, fun B W wv n vs _ _ _ _ hrow => leafPush_any B W wv n vs fl hrow⟩⟩
    · exact ⟨_, _, [], h.2, rfl, fun W => na_leaf _ (.inr (.inl rfl)) W, _, .inl ⟨fun W _ => me_leaf _ (.inr (.inl rfl)) W, fun B W wv n vs _ _ _ _ hrow => leafPush_any B W wv n vs fl hrow⟩⟩
    · exact ⟨_, _, [], h.2, rfl, fun W => na_leaf _ (.inr (.inr (.inl rfl))) W, _, .inl ⟨fun W _ => me_leaf _ (.inr (.inr (.inl rfl))) W, fun B W wv n vs _ _ _ _ hrow => leafPush_any B W wv n vs fl hrow⟩⟩
    · exact ⟨_, _, [], h.2, rfl, fun W => na_leaf _ (.inr (.inr (.inr (.inl rfl)))) W, _, .inl ⟨fun W _ => me_leaf _ (.inr (.inr (.inr (.inl rfl)))) W, fun B W wv n vs _ _ _ _ hrow => leafPush_any B W wv n vs fl hrow⟩⟩
    · exact ⟨_, _, [], h.2, rfl, fun W => na_leaf _ (.inr (.inr (.inr (.inr rfl)))) W, _, .inl ⟨fun W _ => me_leaf _ (.inr (.inr (.inr (.inr rfl)))) W, fun B W wv n vs _ _ _ _ hrow => leafPush_any B W wv n vs fl hrow⟩⟩
    · exact ⟨_, _, [], h2, rfl, fun W => na_ptr _ (.inl rfl) _ W, _, .inl ⟨fun W hb => me_text b W _ ((hb.block b (by omega)).trans h5), fun B W wv n vs _ _ _ _ hrow => leafPush_any B W wv n vs fl hrow⟩⟩
  | un p y =>
    simp only [Rep] at hr
    obtain ⟨b, u, h3, h4, h5, h6, h7⟩ := hr
    obtain ⟨tu, uu, hu⟩ := h6.form
    subst hu
    rcases h7 with h7 | h7
    · exact ⟨_, _, [⟨(.iface tu uu, y), h6, by show sz y ≤ 140000; simp only [sz] at hz; omega⟩], h7.2, rfl, fun W => na_ptr _ (.inr (.inl rfl)) _ W, _, .inr (.inl ⟨fun W hb => me_group b _ W (bel_cell hb h3 h5), fun B W wv n vs _ hB _ hn hrow => operandPush_any B W wv n vs fl tu uu hrow hB hn⟩)⟩
    · exact ⟨_, _, [⟨(.iface tu uu, y), h6, by show sz y ≤ 140000; simp only [sz] at hz; omega⟩], h7.2, rfl, fun W => na_ptr _ (.inr (.inr (.inl rfl))) _ W, _, .inr (.inl ⟨fun W hb => me_nest b _ W (bel_cell hb h3 h5), fun B W wv n vs _ hB _ hn hrow => operandPush_any B W wv n vs fl tu uu hrow hB hn⟩)⟩
  | bin p y z =>
    simp only [Rep] at hr
    obtain ⟨b, u, u', h3, h4, h5, h5', h6, h6', h7⟩ := hr
    obtain ⟨tu, uu, hu⟩ := h6.form
    obtain ⟨tu', uu', hu'⟩ := h6'.form
    subst hu hu'
    rcases h7 with h7 | h7
    · exact ⟨_, _, [⟨(.iface tu uu, y), h6, by show sz y ≤ 140000; simp only [sz] at hz; omega⟩, ⟨(.iface tu' uu', z), h6', by show sz z ≤ 140000; simp only [sz] at hz; omega⟩], h7.2, by simp [kids, h7.1], fun W => na_ptr _ (.inr (.inr (.inr (.inl rfl)))) _ W, _, .inr (.inr (.inl ⟨fun W _ => me_cat _ W, fun B W wv n vs _ hB hb hn hrow => catPush_any B W wv n vs fl b tu tu' uu uu' (bel_cell hb h3 h5) (bel_cell hb h3 h5') hrow hB hn⟩))⟩
    · cases fl with
      | true => exact ⟨_, _, [⟨(.iface tu' uu', z), h6', by show sz z ≤ 140000; simp only [sz] at hz; omega⟩], h7.2, by simp [kids, h7.1], fun W => na_ptr _ (.inr (.inr (.inr (.inr rfl)))) _ W, _, .inr (.inr (.inr ⟨fun W _ => me_alt _ W, fun B W wv n vs _ hB hb hn hrow => altPush_any B W wv n vs true b tu tu' uu uu' (bel_cell hb h3 h5) (bel_cell hb h3 h5') hrow hB hn⟩))⟩
      | false => exact ⟨_, _, [⟨(.iface tu uu, y), h6, by show sz y ≤ 140000; simp only [sz] at hz; omega⟩], h7.2, by simp [kids, h7.1], fun W => na_ptr _ (.inr (.inr (.inr (.inr rfl)))) _ W, _, .inr (.inr (.inr ⟨fun W _ => me_alt _ W, fun B W wv n vs _ hB hb hn hrow => altPush_any B W wv n vs false b tu tu' uu uu' (bel_cell hb h3 h5) (bel_cell hb h3 h5') hrow hB hn⟩))⟩

/-- The blocks that a body may write: its variable's, and the row that this holds. -/
def Xt (tb : Nat) (W : World) (b : Nat) : Prop := b = tb ∨ ∃ v, W.cell? ⟨tb, 0, none⟩ = some v ∧ v.ownBlock = some b

/-- What a round that goes on keeps. -/
structure KpX (n₀ tb : Nat) (W W' : World) : Prop where
  bel : Below n₀ W W'
  blk : ∀ b o, W.heap[b]? = some o → o.isCells = true → ¬ Xt tb W b → W'.heap[b]? = some o
  mono : ∀ b, Xt tb W' b → Xt tb W b ∨ (W.heap.size ≤ b ∧ b < W'.heap.size)

theorem KpX.trans {n₀ tb : Nat} {A B C : World} (h : KpX n₀ tb A B) (k : KpX n₀ tb B C) : KpX n₀ tb A C := by
  refine ⟨h.bel.trans k.bel, fun b o ho hc hx => ?_, fun b hb => ?_⟩
  · refine k.blk b o (h.blk b o ho hc hx) hc (fun e => ?_)
    have hlt := (Array.getElem?_eq_some_iff.1 ho).1
    rcases h.mono b e with h1 | h1
    · exact hx h1
    · omega
  · have := h.bel.size
    have := k.bel.size
    rcases k.mono b hb with h1 | h1
    · rcases h.mono b h1 with h2 | h2
      · exact .inl h2
      · exact .inr (by omega)
    · exact .inr (by omega)

theorem Xt_same {tb : Nat} {W W' : World} (h : W'.heap[tb]? = W.heap[tb]?) (b : Nat) : Xt tb W' b ↔ Xt tb W b := by
  unfold Xt
  rw [World.cell?_of_block (a := ⟨tb, 0, none⟩) h]

theorem KpX.put {n₀ tb : Nat} {W : World} {l : Nat} {o : Obj} (o' : Obj) (hn : n₀ ≤ l) (ht : tb ≠ l) (ho : W.heap[l]? = some o) (hc : o.isCells = false) : KpX n₀ tb W (W.putObj l o') := by
  have ht2 : (W.putObj l o').heap[tb]? = W.heap[tb]? := World.putObj_heap_other ht
  refine ⟨⟨rfl, rfl, rfl, by simp, fun k hk => World.putObj_heap_other (by omega)⟩, fun b o2 h2 hc2 _ => ?_, fun b hb => .inl ((Xt_same ht2 b).1 hb)⟩
  rw [World.putObj_heap_other (fun e => by subst e; rw [ho] at h2; cases h2; rw [hc] at hc2; cases hc2)]
  exact h2

end Go.Proofs.YtgmjpdejfdldlaaDoor

