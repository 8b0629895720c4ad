import Derived.Test.YtgmjpdejfdldlaaDoorMAJ
import Derived.Test.YtgmjpdejfdldlaaDoorMAN
namespace Go.Proofs.YtgmjpdejfdldlaaDoor
open Go.RowKit

/-- A node of the list, its operands among those before it. -/
def Elem (B : Nat) (w : World) (pre : List Value) : Value → Tr → Prop
  | v, .leaf p => Rep (fun _ => False) B w v (.leaf p)
  | v, .un p x => ∃ b u, b < w.heap.size ∧ w.cell? ⟨b, 0, none⟩ = some u ∧ Rep (fun _ => False) B w u x ∧ u ∈ pre ∧
      ((p.k = 8 ∧ v = .iface 135 (.pointer (some ⟨b, 0, none⟩))) ∨ (p.k = 7 ∧ v = .iface 130 (.pointer (some ⟨b, 0, none⟩)) ∧ w.cell? ⟨b, 1, none⟩ = some (.int .i64 p.n)))
  | v, .bin p x y => ∃ b u u', b < w.heap.size ∧ w.cell? ⟨b, 0, none⟩ = some u ∧ w.cell? ⟨b, 1, none⟩ = some u' ∧ Rep (fun _ => False) B w u x ∧ Rep (fun _ => False) B w u' y ∧ u ∈ pre ∧ u' ∈ pre ∧
      ((p.k = 6 ∧ v = .iface 138 (.pointer (some ⟨b, 0, none⟩))) ∨ (p.k = 9 ∧ v = .iface 142 (.pointer (some ⟨b, 0, none⟩))))

theorem Elem.more {B : Nat} {w : World} {pre pre' : List Value} (h : ∀ v ∈ pre, v ∈ pre') : ∀ {T : Tr} {v : Value}, Elem B w pre v T → Elem B w pre' v T
  | .leaf _, _, e => e
  | .un _ _, _, ⟨b, u, h1, h2, h3, h4, h5⟩ => ⟨b, u, h1, h2, h3, h u h4, h5⟩
  | .bin _ _ _, _, ⟨b, u, u', h1, h2, h2', h3, h3', h4, h4', h5⟩ => ⟨b, u, u', h1, h2, h2', h3, h3', h u h4, h u' h4', h5⟩

theorem elem_root {B : Nat} {w : World} : ∀ {T : Tr} {v : Value} {l : List Value}, Rep (fun _ => False) B w v T → Post w v T l → ∃ l', l = l' ++ [v] ∧ Elem B w l' v T
  | .leaf p, v, l, hr, hp => ⟨[], by simpa [Post] using hp, hr⟩
  | .un p x, v, l, hr, hp => by
    simp only [Rep] at hr
    simp only [Post] at hp
    obtain ⟨b0, u0, h3, h4, h5, h6, h7⟩ := hr
    obtain ⟨t, b, u, l1, hv, k1, k2, k3, k4⟩ := hp
    have hbb : b = b0 := by
      rcases h7 with ⟨_, h7⟩ | ⟨_, h7⟩ <;> (rw [hv] at h7; simp at h7; exact h7.2)
    subst hbb
    have hu : u0 = u := by rw [h5] at k1; exact Option.some.inj k1
    subst hu
    obtain ⟨l', hl'⟩ := k3.last
    refine ⟨l1, k4, b, u0, h4, h5, h6, by rw [hl']; simp, ?_⟩
    rcases h7 with ⟨h7, h8⟩ | ⟨h7, h8⟩
    · exact .inl ⟨h7, h8⟩
    · exact .inr ⟨h7, h8, k2 h7⟩
  | .bin p x y, v, l, hr, hp => by
    simp only [Rep] at hr
    simp only [Post] at hp
    obtain ⟨b0, u0, u0', h3, h4, h5, h5', h6, h6', h7⟩ := hr
    obtain ⟨t, b, u, u', l1, l2, hv, k1, k1', k3, k3', k4⟩ := hp
    have hbb : b = b0 := by
      rcases h7 with ⟨_, h7⟩ | ⟨_, h7⟩ <;> (rw [hv] at h7; simp at h7; exact h7.2)
    subst hbb
    have hu : u0 = u := by rw [h5] at k1; exact Option.some.inj k1
    have hu' : u0' = u' := by rw [h5'] at k1'; exact Option.some.inj k1'
    subst hu hu'
    obtain ⟨l', hl'⟩ := k3.last
    obtain ⟨l'', hl''⟩ := k3'.last
    exact ⟨l1 ++ l2, k4, b, u0, u0', h4, h5, h5', h6, h6', by rw [hl']; simp, by rw [hl'']; simp, h7⟩

/-- Each node of the list is a tree, its operands among those before it. -/
theorem post_elem {B : Nat} {w : World} : ∀ {T : Tr} {v : Value} {l : List Value}, Rep (fun _ => False) B w v T → Post w v T l → ∀ (i : Nat) (u : Value), l[i]? = some u → ∃ T', Elem B w (l.take i) u T' ∧ Rep (fun _ => False) B w u T' ∧ sz T' ≤ sz T
  | .leaf p, v, l, hr, hp, i, u, hi => by
    simp only [Post] at hp
    subst hp
    match i, hi with
    | 0, hi =>
      simp at hi
      subst hi
      exact ⟨.leaf p, hr, hr, Nat.le_refl _⟩
  | .un p x, v, l, hr, hp, i, u, hi => by
    obtain ⟨l', hl', he⟩ := elem_root hr hp
    have hr0 := hr
    simp only [Rep] at hr
    simp only [Post] at hp
    obtain ⟨b0, u0, h3, h4, h5, h6, h7⟩ := hr
    obtain ⟨t, b, u1, l1, hv, k1, k2, k3, k4⟩ := hp
    have hbb : b = b0 := by
      rcases h7 with ⟨_, h7⟩ | ⟨_, h7⟩ <;> (rw [hv] at h7; simp at h7; exact h7.2)
    subst hbb
    have hu : u0 = u1 := by rw [h5] at k1; exact Option.some.inj k1
    subst hu
    have hll : l' = l1 := by rw [hl'] at k4; simpa using k4
    subst hll
    subst k4
    by_cases hlt : i < l'.length
    · rw [List.getElem?_append_left hlt] at hi
      obtain ⟨T', e1, e2, e3⟩ := post_elem h6 k3 i u hi
      rw [List.take_append_of_le_length (by omega)]
      exact ⟨T', e1, e2, by simp only [sz]; omega⟩
    · have hie : i = l'.length := by
        have := (List.getElem?_eq_some_iff.1 hi).1
        simp at this
        omega
      subst hie
      rw [List.getElem?_append_right (Nat.le_refl _)] at hi
      simp at hi
      subst hi
      exact ⟨.un p x, by simpa using he, hr0, Nat.le_refl _⟩
  | .bin p x y, v, l, hr, hp, i, u, hi => by
    obtain ⟨l', hl', he⟩ := elem_root hr hp
    have hr0 := hr
    simp only [Rep] at hr
    simp only [Post] at hp
    obtain ⟨b0, u0, u0', h3, h4, h5, h5', h6, h6', h7⟩ := hr
    obtain ⟨t, b, u1, u1', l1, l2, hv, k1, k1', k3, k3', k4⟩ := hp
    have hbb : b = b0 := by
      rcases h7 with ⟨_, h7⟩ | ⟨_, h7⟩ <;> (rw [hv] at h7; simp at h7; exact h7.2)
    subst hbb
    have hu : u0 = u1 := by rw [h5] at k1; exact Option.some.inj k1
    have hu' : u0' = u1' := by rw [h5'] at k1'; exact Option.some.inj k1'
    subst hu hu'
    have hll : l' = l1 ++ l2 := by rw [hl'] at k4; exact List.append_cancel_right k4
    subst hll
    subst k4
    by_cases hlt : i < l1.length
    · rw [List.append_assoc, List.getElem?_append_left hlt] at hi
      obtain ⟨T', e1, e2, e3⟩ := post_elem h6 k3 i u hi
      rw [List.append_assoc, List.take_append_of_le_length (by omega)]
      exact ⟨T', e1, e2, by simp only [sz]; omega⟩
    · by_cases hlt2 : i < l1.length + l2.length
      · rw [List.append_assoc, List.getElem?_append_right (by omega), List.getElem?_append_left (by omega)] at hi
        obtain ⟨T', e1, e2, e3⟩ := post_elem h6' k3' (i - l1.length) u hi
        refine ⟨T', e1.more ?_, e2, by simp only [sz]; omega⟩
        intro z hz
        rw [List.append_assoc, List.take_append]
        refine List.mem_append_right _ ?_
        rw [List.take_append_of_le_length (by omega)]
        exact hz
      · have hie : i = (l1 ++ l2).length := by
          have := (List.getElem?_eq_some_iff.1 hi).1
          simp at this ⊢
          omega
        subst hie
        rw [List.getElem?_append_right (Nat.le_refl _)] at hi
        simp at hi
        subst hi
        exact ⟨.bin p x y, by rw [List.take_left]; exact he, hr0, Nat.le_refl _⟩

/-- Two trees of one node: alike where the layout looks. -/
def Sim : Tr → Tr → Prop
  | .leaf p, .leaf q => p.k = q.k ∧ (p.k = 1 → widthR p.t = widthR q.t)
  | .un p x, .un q y => p.k = q.k ∧ Sim x y
  | .bin p x x', .bin q y y' => p.k = q.k ∧ Sim x y ∧ Sim x' y'
  | _, _ => False

/-- The width in flat mode, -1 where there is none. -/
def flatW : Tr → Int
  | .leaf p => if p.k = 1 then widthR p.t else if p.k = 2 then 1 else if p.k = 4 ∨ p.k = 5 then -1 else 0
  | .un _ x => flatW x
  | .bin p x y => if p.k = 6 then (if flatW x = -1 ∨ flatW y = -1 then -1 else flatW x + flatW y) else flatW y

theorem Sim.flatW : ∀ {T T' : Tr}, Sim T T' → flatW T = flatW T'
  | .leaf p, .leaf q, h => by
    simp only [Sim] at h
    simp only [Proofs.YtgmjpdejfdldlaaDoor.flatW, h.1]
    by_cases h1 : q.k = 1
    · rw [if_pos h1, if_pos h1, h.2 (by rw [h.1]; exact h1)]
    · rw [if_neg h1, if_neg h1]
  | .un _ x, .un _ y, h => by simp only [Proofs.YtgmjpdejfdldlaaDoor.flatW]; exact Sim.flatW h.2
  | .bin p x x', .bin q y y', h => by
    simp only [Proofs.YtgmjpdejfdldlaaDoor.flatW, h.1, Sim.flatW h.2.1, Sim.flatW h.2.2]
  | .leaf _, .un _ _, h => h.elim
  | .leaf _, .bin _ _ _, h => h.elim
  | .un _ _, .leaf _, h => h.elim
  | .un _ _, .bin _ _ _, h => h.elim
  | .bin _ _ _, .leaf _, h => h.elim
  | .bin _ _ _, .un _ _, h => h.elim
theorem Sim.leadT : ∀ {T T' : Tr}, Sim T T' → leadT T = leadT T'
  | .leaf p, .leaf q, h => by
    simp only [Sim] at h
    simp only [Proofs.YtgmjpdejfdldlaaDoor.leadT, h.1]
    by_cases h1 : q.k = 1
    · rw [if_pos h1, if_pos h1, h.2 (by rw [h.1]; exact h1)]
    · rw [if_neg h1, if_neg h1]
  | .un _ x, .un _ y, h => by simp only [Proofs.YtgmjpdejfdldlaaDoor.leadT]; exact Sim.leadT h.2
  | .bin p x x', .bin q y y', h => by
    simp only [Proofs.YtgmjpdejfdldlaaDoor.leadT, h.1, Sim.leadT h.2.1, Sim.leadT h.2.2]
  | .leaf _, .un _ _, h => h.elim
  | .leaf _, .bin _ _ _, h => h.elim
  | .un _ _, .leaf _, h => h.elim
  | .un _ _, .bin _ _ _, h => h.elim
  | .bin _ _ _, .leaf _, h => h.elim
  | .bin _ _ _, .un _ _, h => h.elim

theorem rep_sim {X : Nat → Prop} {B : Nat} {w : World} : ∀ {T T' : Tr} {v : Value}, Rep X B w v T → Rep X B w v T' → Sim T T'
  | .leaf p, .leaf q, v, h, h' => by
    simp only [Rep] at h h'
    simp only [Sim]
    rcases h with h | h | h | h | h | ⟨h1, b, tv, h2, _, _, h5, _⟩ <;> rcases h' with h' | h' | h' | h' | h' | ⟨h1', b', tv', h2', _, _, h5', _⟩
    all_goals first
      | (exfalso; have := h.2.symm.trans h'.2; simp at this; done)
      | (exfalso; have := h.2.symm.trans h2'; simp at this; done)
      | (exfalso; have := h2.symm.trans h'.2; simp at this; done)
      | (have hh := h.1.trans h'.1.symm; exact ⟨hh, fun e => by rw [h.1] at e; simp at e⟩)
      | skip
    have e := h2.symm.trans h2'
    simp only [Value.iface.injEq, Value.pointer.injEq, Option.some.injEq, Addr.mk.injEq, and_true, true_and] at e
    subst e
    rw [h5] at h5'
    refine ⟨by rw [h1, h1'], fun _ => ?_⟩
    simp at h5'
    exact h5'.2
  | .un p x, .un q y, v, h, h' => by
    simp only [Rep] at h h'
    simp only [Sim]
    obtain ⟨b, u, _, _, h5, h6, h7⟩ := h
    obtain ⟨b', u', _, _, h5', h6', h7'⟩ := h'
    have e : b = b' ∧ p.k = q.k := by
      rcases h7 with ⟨h7, h8⟩ | ⟨h7, h8⟩ <;> rcases h7' with ⟨h7', h8'⟩ | ⟨h7', h8'⟩ <;> (have e := h8.symm.trans h8'; simp at e) <;> exact ⟨e, by rw [h7, h7']⟩
    obtain ⟨e1, e2⟩ := e
    subst e1
    have hu : u = u' := by rw [h5] at h5'; exact Option.some.inj h5'
    subst hu
    exact ⟨e2, rep_sim h6 h6'⟩
  | .bin p x x2, .bin q y y2, v, h, h' => by
    simp only [Rep] at h h'
    simp only [Sim]
    obtain ⟨b, u, u2, _, _, h5, h52, h6, h62, h7⟩ := h
    obtain ⟨b', u', u2', _, _, h5', h52', h6', h62', h7'⟩ := h'
    have e : b = b' ∧ p.k = q.k := by
      rcases h7 with ⟨h7, h8⟩ | ⟨h7, h8⟩ <;> rcases h7' with ⟨h7', h8'⟩ | ⟨h7', h8'⟩ <;> (have e := h8.symm.trans h8'; simp at e) <;> exact ⟨e, by rw [h7, h7']⟩
    obtain ⟨e1, e2⟩ := e
    subst e1
    have hu : u = u' := by rw [h5] at h5'; exact Option.some.inj h5'
    have hu2 : u2 = u2' := by rw [h52] at h52'; exact Option.some.inj h52'
    subst hu hu2
    exact ⟨e2, rep_sim h6 h6', rep_sim h62 h62'⟩
  | .leaf p, .un q y, v, h, h' => by
    exfalso
    simp only [Rep] at h h'
    obtain ⟨b', u', _, _, h5', h6', h7'⟩ := h'
    rcases h with h | h | h | h | h | ⟨h1, b, tv, h2, _⟩ <;> rcases h7' with ⟨_, h7'⟩ | ⟨_, h7'⟩
    all_goals first
      | (have := h.2.symm.trans h7'; simp at this)
      | (have := h2.symm.trans h7'; simp at this)
  | .leaf p, .bin q y y2, v, h, h' => by
    exfalso
    simp only [Rep] at h h'
    obtain ⟨b', u', u2', _, _, h5', h52', h6', h62', h7'⟩ := h'
    rcases h with h | h | h | h | h | ⟨h1, b, tv, h2, _⟩ <;> rcases h7' with ⟨_, h7'⟩ | ⟨_, h7'⟩
    all_goals first
      | (have := h.2.symm.trans h7'; simp at this)
      | (have := h2.symm.trans h7'; simp at this)
  | .un q y, .leaf p, v, h', h => by
    exfalso
    simp only [Rep] at h h'
    obtain ⟨b', u', _, _, h5', h6', h7'⟩ := h'
    rcases h with h | h | h | h | h | ⟨h1, b, tv, h2, _⟩ <;> rcases h7' with ⟨_, h7'⟩ | ⟨_, h7'⟩
    all_goals first
      | (have := h.2.symm.trans h7'; simp at this)
      | (have := h2.symm.trans h7'; simp at this)
  | .bin q y y2, .leaf p, v, h', h => by
    exfalso
    simp only [Rep] at h h'
    obtain ⟨b', u', u2', _, _, h5', h52', h6', h62', h7'⟩ := h'
    rcases h with h | h | h | h | h | ⟨h1, b, tv, h2, _⟩ <;> rcases h7' with ⟨_, h7'⟩ | ⟨_, h7'⟩
    all_goals first
      | (have := h.2.symm.trans h7'; simp at this)
      | (have := h2.symm.trans h7'; simp at this)
  | .un p x, .bin q y y2, v, h, h' => by
    exfalso
    simp only [Rep] at h h'
    obtain ⟨b, u, _, _, h5, h6, h7⟩ := h
    obtain ⟨b', u', u2', _, _, h5', h52', h6', h62', h7'⟩ := h'
    rcases h7 with ⟨_, h7⟩ | ⟨_, h7⟩ <;> rcases h7' with ⟨_, h7'⟩ | ⟨_, h7'⟩ <;> (have := h7.symm.trans h7'; simp at this)
  | .bin q y y2, .un p x, v, h', h => by
    exfalso
    simp only [Rep] at h h'
    obtain ⟨b, u, _, _, h5, h6, h7⟩ := h
    obtain ⟨b', u', u2', _, _, h5', h52', h6', h62', h7'⟩ := h'
    rcases h7 with ⟨_, h7⟩ | ⟨_, h7⟩ <;> rcases h7' with ⟨_, h7'⟩ | ⟨_, h7'⟩ <;> (have := h7.symm.trans h7'; simp at this)


theorem flatW_bd (hw : ∀ t, -1 ≤ widthR t ∧ widthR t ≤ t.length) : ∀ (T : Tr), -1 ≤ flatW T ∧ flatW T ≤ sz T
  | .leaf p => by
    have := hw p.t
    simp only [flatW, sz]
    split
    · omega
    · split
      · omega
      · split <;> omega
  | .un p x => by
    have := flatW_bd hw x
    simp only [flatW, sz]
    omega
  | .bin p x y => by
    have h1 := flatW_bd hw x; have h2 := flatW_bd hw y
    simp only [flatW, sz]
    split
    · split <;> omega
    · omega

/-- A node of the list is a key. -/
theorem rep_key {B : Nat} {w : World} {l : List Value} (ho : Once (fun _ => False) w l) {v : Value} (hm : v ∈ l) {T : Tr} (h : Rep (fun _ => False) B w v T) : NKey w v := by
  cases T with
  | leaf p =>
    simp only [Rep] at h
    rcases h with h | h | h | h | h | ⟨h1, b, tv, h2, _, _, h5, _⟩
    · rw [h.2]; exact .leaf _ (.inl rfl)
    · rw [h.2]; exact .leaf _ (.inr (.inl rfl))
    · rw [h.2]; exact .leaf _ (.inr (.inr (.inl rfl)))
    · rw [h.2]; exact .leaf _ (.inr (.inr (.inr (.inl rfl))))
    · rw [h.2]; exact .leaf _ (.inr (.inr (.inr (.inr rfl))))
    · rw [h2]; exact .ptr _ b _ _ (.inl rfl) h5
  | un p x =>
    simp only [Rep] at h
    obtain ⟨b, u, _, _, _, _, h7 | h7⟩ := h
    · rw [h7.2] at hm ⊢
      obtain ⟨_, cs, t', hb⟩ := ho.lt _ _ hm
      exact .ptr _ b _ _ (.inr (.inl rfl)) hb
    · rw [h7.2] at hm ⊢
      obtain ⟨_, cs, t', hb⟩ := ho.lt _ _ hm
      exact .ptr _ b _ _ (.inr (.inr (.inl rfl))) hb
  | bin p x y =>
    simp only [Rep] at h
    obtain ⟨b, u, u', _, _, _, _, _, _, h7 | h7⟩ := h
    · rw [h7.2] at hm ⊢
      obtain ⟨_, cs, t', hb⟩ := ho.lt _ _ hm
      exact .ptr _ b _ _ (.inr (.inr (.inr (.inl rfl)))) hb
    · rw [h7.2] at hm ⊢
      obtain ⟨_, cs, t', hb⟩ := ho.lt _ _ hm
      exact .ptr _ b _ _ (.inr (.inr (.inr (.inr rfl)))) hb

theorem NKey.back {w w' : World} {v : Value} (h : NKey w' v) (hg : w.grownBy w' none) (hb : ∀ t b, v = .iface t (.pointer (some ⟨b, 0, none⟩)) → b < w.heap.size) : NKey w v := by
  cases h with
  | leaf t h => exact .leaf t h
  | ptr t b cs t' h hk => exact .ptr t b cs t' h ((hg.block b (hb t b rfl) (by simp)).symm.trans hk)

end Go.Proofs.YtgmjpdejfdldlaaDoor

namespace Go.Proofs.YtgmjpdejfdldlaaDoor
open Go.RowKit Go.Shelf

section
variable {F : Fence} {n m : Nat} {P : Program}

/-- The loop's record at l, and the block d of the rounds' deferred calls. -/
def Books (l d : Nat) (r : Loop) (W : World) : Prop := W.heap[l]? = some (.loop r) ∧ W.heap[d]? = some (.deferred (some []))
theorem Books.keep {l d : Nat} {r : Loop} {W W' : World} (h : Books l d r W) (k : KeepsOthers W W') : Books l d r W' := ⟨k.same _ _ h.1 rfl, k.same _ _ h.2 rfl⟩
theorem Books.put {l d : Nat} {r : Loop} {W : World} (h : Books l d r W) (hne : d ≠ l) (r' : Loop) : Books l d r' (W.putObj l (.loop r')) :=
  ⟨World.putObj_heap_same (Array.getElem?_eq_some_iff.1 h.1).1, (World.putObj_heap_other hne).trans h.2⟩

/-- A body that goes on, or returns. -/
def bodyEnds (W : World) (G H : World → Prop) : Exit → Act → World → Prop
  | .normal, _, W' => KeepsOthers W W' ∧ G W'
  | .ret, _, W' => KeepsOthers W W' ∧ H W'
  | _, _, _ => False

theorem yield_round {l d : Nat} {r : Loop} {W : World} (hfn : F.fn r.fn) (hst : r.state = .ready) (hne : d ≠ l) (hb : Books l d r W) (args : Array Value) (hsz : args.size = r.params.size) (a₁ : Act) (G H : World → Prop)
    (hassign : ∀ K : Act → World → Prop, K a₁ W → r.assign.wpIn (F.inRound l) m P (Exit.then K (fun _ _ _ => False)) { tmps := (r.params.zip args).foldl (fun t (p, v) => t.setIfInBounds p v) r.tmps, defers := [] } W)
    (hbody : r.body.wpIn (F.inRound l) m P (bodyEnds (W.putObj l (.loop { r with state := .busy })) G H) a₁ (W.putObj l (.loop { r with state := .busy }))) :
    YieldAt F m P l args W fun e W' =>
      (e = .returned (.bool true) ∧ ∃ W3, G W3 ∧ Books l d { r with state := .busy } W3 ∧ W' = W3.putObj l (.loop { r with state := .ready, pending := none })) ∨
      (e = .returned (.bool false) ∧ ∃ W3, H W3 ∧ Books l d { r with state := .busy } W3 ∧ W' = W3.putObj l (.loop { r with state := .done, pending := some .ret })) := by
  refine ⟨r.fn, _, r.assign, r.body, run_yield hb.1 hsz, roundIn_of_wpIn hfn (hassign _ ⟨_, run_beginRound hb.1 hst, wpIn_mono hbody ?_⟩)⟩
  intro e a3 W3 hp
  match e, hp with
  | .normal, hp => exact ⟨_, _, run_endRound none ((hb.put hne _).keep hp.1).1, .inl ⟨rfl, W3, hp.2, (hb.put hne _).keep hp.1, rfl⟩⟩
  | .ret, hp => exact ⟨_, _, run_endRound (some .ret) ((hb.put hne _).keep hp.1).1, .inr ⟨rfl, W3, hp.2, (hb.put hne _).keep hp.1, rfl⟩⟩

/-- A range over a function whose invariant 'I' is known to the iterator too: it may write cells of its own between two rounds, if it shows that 'I' stands. -/
theorem range_known {α : Type} {g : Operand} {ps : Array Tmp} {assign body : Code} {Q : Exit → Act → World → Prop} {a : Act} {w : World}
    (hro : F.round = none) (h1 : 1 ≤ n) {gf : Nat} {lb : Array Value} (hg : a.eval g = .func (.func gf) #[] lb) (hFg : F.fn gf) (eg : ∀ args w, (callFunc gf args).run P w = .ok (.enter gf args) w)
    (encs : α → Array Value) (hps : ∀ x, (encs x).size = ps.size) (I Ix : List α → World → Prop) (Kp : World → World → Prop) (S Sp : List α → Prop) (N : Nat)
    (hIk : ∀ s W l o o', w.heap.size ≤ l → W.heap[l]? = some o → o.isCells = false → I s W → I s (W.putObj l o'))
    (hIxk : ∀ s W l o o', w.heap.size ≤ l → W.heap[l]? = some o → o.isCells = false → Ix s W → Ix s (W.putObj l o'))
    (hKk : ∀ W l o o', w.heap.size ≤ l → W.heap[l]? = some o → o.isCells = false → Kp W (W.putObj l o')) (hKt : ∀ A B C, Kp A B → Kp B C → Kp A C)
    (h0 : ∀ o1 o2, I [] ((w.alloc o1).alloc o2)) (a₁ : α → Act)
    (hassign : ∀ (l : Nat) (x : α) (W : World) (K : Act → World → Prop), K (a₁ x) W → assign.wpIn (F.inRound l) (n - 1 - 1) P (Exit.then K (fun _ _ _ => False)) { tmps := (ps.zip (encs x)).foldl (fun t (p, v) => t.setIfInBounds p v) a.tmps, defers := [] } W)
    (hbody : ∀ (l : Nat) (pre : List α) (x : α) (W : World), I pre W → pre.length < N → body.wpIn (F.inRound l) (n - 1 - 1) P (bodyEnds W (fun W' => Kp W W' ∧ I (pre ++ [x]) W') (Ix (pre ++ [x]))) (a₁ x) W)
    (hseq : ∀ (l : Nat) (R Rx : World → Prop) (W : World), Below w.heap.size w W → (∀ A B, R A → KeepsOthers A B → R B) → (∀ A B, Rx A → KeepsOthers A B → Rx B) → R W → I [] W →
      (∀ pre x A, I pre A → R A → pre.length < N → YieldAt F (n - 1 - 1) P l (encs x) A fun e B => (e = .returned (.bool true) ∧ I (pre ++ [x]) B ∧ Kp A B ∧ R B) ∨ (e = .returned (.bool false) ∧ Ix (pre ++ [x]) B ∧ Rx B)) →
      CallsIn F (n - 1) P gf (#[.func (.yield l) #[] #[]] ++ lb) W fun e B => (∃ v, e = .returned v) ∧ ((∃ xs, S xs ∧ I xs B ∧ R B) ∨ (∃ pre, Sp pre ∧ Ix pre B ∧ Rx B)))
    (hdone : ∀ (D : Nat) (xs : List α) (W : World), w.heap.size ≤ D → S xs → I xs W → W.heap[D]? = some (.deferred (some [])) → Q .normal { a with defers := { target := .collected D, args := #[] } :: a.defers } W)
    (hstop : ∀ (D : Nat) (pre : List α) (W : World), w.heap.size ≤ D → Sp pre → Ix pre W → W.heap[D]? = some (.deferred (some [])) → Code.ret.wpIn F n P Q { a with defers := { target := .collected D, args := #[] } :: a.defers } W) :
    (Code.rangeFunc g ps assign body).wpIn F n P Q a w := by
  refine wpIn_rangeFunc fun fn hfn => ?_
  obtain ⟨r, hr⟩ : ∃ r : Loop, r = { state := .ready, pending := none, fn := fn, tmps := a.tmps, params := ps, assign := assign, body := body, defers := w.heap.size } := ⟨_, rfl⟩
  have hst : r.state = .ready := by rw [hr]
  have hne : w.heap.size ≠ w.heap.size + 1 := by omega
  have hb : Books (w.heap.size + 1) w.heap.size r ((w.alloc (.deferred (some []))).alloc (.loop r)) := by
    constructor
    · have := World.alloc_heap_new (w.alloc (.deferred (some []))) (.loop r)
      rwa [World.size_alloc] at this
    · exact (Below.heap_alloc _ _ _ (by simp)).trans (World.alloc_heap_new w _)
  have hbel : Below w.heap.size w ((w.alloc (.deferred (some []))).alloc (.loop r)) := ((Below.refl _ w).alloc (Nat.le_refl _) _).alloc (by simp) _
  refine ⟨w.heap.size + 1, [{ target := .collected w.heap.size, args := #[] }], (w.alloc (.deferred (some []))).alloc (.loop r), { target := .fn (.func gf) lb, args := #[.func (.yield (w.heap.size + 1)) #[] #[]] }, (w.alloc (.deferred (some []))).alloc (.loop r), gf,
    #[.func (.yield (w.heap.size + 1)) #[] #[]] ++ lb, (w.alloc (.deferred (some []))).alloc (.loop r), ?_, ?_, ?_, ?_, fun _ => h1, ?_⟩
  · rw [hro, hr]; exact run_enterLoop_outer _ _ _ _ _
  · simp only [resolve, hg]; simp [go_sem]
  · intro f' hf'; simp [Target.leads] at hf'; subst hf'; exact hFg
  · simp [invoke, go_sem, eg]
  · have iter := hseq (w.heap.size + 1) (Books (w.heap.size + 1) w.heap.size r) (Books (w.heap.size + 1) w.heap.size { r with state := .done, pending := some .ret }) _ hbel (fun _ _ h k => h.keep k) (fun _ _ h k => h.keep k) hb (h0 _ _) ?_
    · refine iter.mono ?_
      rintro e B ⟨⟨v, rfl⟩, ⟨xs, hS, hI, hR⟩ | ⟨pre, hS, hI, hR⟩⟩
      · refine ⟨r.pending, _, run_endLoop hR.1 (by rw [hst]; simp), ?_⟩
        rw [hr]
        exact hdone _ xs _ (Nat.le_refl _) hS (hIk _ _ _ _ _ (by omega) hR.1 rfl hI) ((World.putObj_heap_other hne).trans hR.2)
      · refine ⟨some .ret, _, run_endLoop hR.1 (by simp), ?_⟩
        exact hstop _ pre _ (Nat.le_refl _) hS (hIxk _ _ _ _ _ (by omega) hR.1 rfl hI) ((World.putObj_heap_other hne).trans hR.2)
    · intro pre x A hI hR hlen
      have hround := yield_round (F := F) (m := n - 1 - 1) (P := P) (by rw [hr]; exact hfn) hst hne hR (encs x) (by rw [hr]; exact hps x) (a₁ x) (fun W' => Kp (A.putObj (w.heap.size + 1) (.loop { r with state := .busy })) W' ∧ I (pre ++ [x]) W') (Ix (pre ++ [x]))
        (fun K hK => by rw [hr]; exact hassign _ x A K hK) (by
          have := hbody (w.heap.size + 1) pre x (A.putObj (w.heap.size + 1) (.loop { r with state := .busy })) (hIk _ _ _ _ _ (by omega) hR.1 rfl hI) hlen
          subst hr
          exact this)
      obtain ⟨f', tm, as', bd', hy, hR'⟩ := hround
      refine ⟨f', tm, as', bd', hy, hR'.mono ?_⟩
      rintro e B (⟨rfl, W3, ⟨hk3, hI3⟩, hb3, rfl⟩ | ⟨rfl, W3, hI3, hb3, rfl⟩)
      · refine .inl ⟨rfl, hIk _ _ _ _ _ (by omega) hb3.1 rfl hI3, hKt _ _ _ (hKt _ _ _ (hKk _ _ _ _ (by omega) hR.1 rfl) hk3) (hKk _ _ _ _ (by omega) hb3.1 rfl), ?_⟩
        have := hb3.put hne { r with state := .ready, pending := none }
        rw [hr] at this ⊢
        exact this
      · exact .inr ⟨rfl, hIxk _ _ _ _ _ (by omega) hb3.1 rfl hI3, hb3.put hne _⟩

end

end Go.Proofs.YtgmjpdejfdldlaaDoor

namespace Go.Proofs.YtgmjpdejfdldlaaDoor
open Go.RowKit

/-- What a type assertion of the switch answers. -/
abbrev TaNo (T C : TypeId) (v z : Value) : Prop := ∀ w : World, (Instr.typeAssert (.iface T v) 70 C true).run Tryd.prog w = .ok (.tuple #[z, .bool false]) w
abbrev TaYes (T C : TypeId) (v : Value) : Prop := ∀ w : World, (Instr.typeAssert (.iface T v) 70 C true).run Tryd.prog w = .ok (.tuple #[v, .bool true]) w

theorem ta_text (v : Value) : TaYes 75 75 v := fun w => by kernel_rfl

def Quiet (T : TypeId) : Prop := T = 127 ∨ T = 135 ∨ T = 130 ∨ T = 138 ∨ T = 142
theorem ta_quiet {T : TypeId} (h : Quiet T) (v : Value) :
    TaNo T 75 v (.pointer none) ∧ TaNo T 81 v (.agg #[]) ∧ TaNo T 128 v (.agg #[]) ∧ TaNo T 82 v (.agg #[]) ∧ TaNo T 83 v (.agg #[]) := by
  rcases h with rfl | rfl | rfl | rfl | rfl <;> exact ⟨fun w => by kernel_rfl, fun w => by kernel_rfl, fun w => by kernel_rfl, fun w => by kernel_rfl, fun w => by kernel_rfl⟩

theorem ta_line : TaNo 81 75 (.agg #[]) (.pointer none) ∧ TaYes 81 81 (.agg #[]) ∧ TaNo 81 128 (.agg #[]) (.agg #[]) ∧ TaNo 81 82 (.agg #[]) (.agg #[]) ∧ TaNo 81 83 (.agg #[]) (.agg #[]) :=
  ⟨fun w => by kernel_rfl, fun w => by kernel_rfl, fun w => by kernel_rfl, fun w => by kernel_rfl, fun w => by kernel_rfl⟩
theorem ta_soft : TaNo 128 75 (.agg #[]) (.pointer none) ∧ TaNo 128 81 (.agg #[]) (.agg #[]) ∧ TaYes 128 128 (.agg #[]) ∧ TaNo 128 82 (.agg #[]) (.agg #[]) ∧ TaNo 128 83 (.agg #[]) (.agg #[]) :=
  ⟨fun w => by kernel_rfl, fun w => by kernel_rfl, fun w => by kernel_rfl, fun w => by kernel_rfl, fun w => by kernel_rfl⟩
theorem ta_hard : TaNo 82 75 (.agg #[]) (.pointer none) ∧ TaNo 82 81 (.agg #[]) (.agg #[]) ∧ TaNo 82 128 (.agg #[]) (.agg #[]) ∧ TaYes 82 82 (.agg #[]) ∧ TaNo 82 83 (.agg #[]) (.agg #[]) :=
  ⟨fun w => by kernel_rfl, fun w => by kernel_rfl, fun w => by kernel_rfl, fun w => by kernel_rfl, fun w => by kernel_rfl⟩
theorem ta_raw : TaNo 83 75 (.agg #[]) (.pointer none) ∧ TaNo 83 81 (.agg #[]) (.agg #[]) ∧ TaNo 83 128 (.agg #[]) (.agg #[]) ∧ TaNo 83 82 (.agg #[]) (.agg #[]) ∧ TaYes 83 83 (.agg #[]) :=
  ⟨fun w => by kernel_rfl, fun w => by kernel_rfl, fun w => by kernel_rfl, fun w => by kernel_rfl, fun w => by kernel_rfl⟩
end Go.Proofs.YtgmjpdejfdldlaaDoor

namespace Go.Proofs.YtgmjpdejfdldlaaDoor
open Go.RowKit

theorem tas_empty : TaYes 127 127 (.agg #[]) ∧ TaNo 127 75 (.agg #[]) (.pointer none) ∧ TaNo 127 81 (.agg #[]) (.agg #[]) ∧ TaNo 127 128 (.agg #[]) (.agg #[]) ∧ TaNo 127 82 (.agg #[]) (.agg #[]) ∧ TaNo 127 83 (.agg #[]) (.agg #[]) ∧ TaNo 127 135 (.agg #[]) (.pointer none) ∧ TaNo 127 130 (.agg #[]) (.pointer none) ∧ TaNo 127 138 (.agg #[]) (.pointer none) ∧ TaNo 127 142 (.agg #[]) (.pointer none) :=
  ⟨fun w => by kernel_rfl, fun w => by kernel_rfl, fun w => by kernel_rfl, fun w => by kernel_rfl, fun w => by kernel_rfl, fun w => by kernel_rfl, fun w => by kernel_rfl, fun w => by kernel_rfl, fun w => by kernel_rfl, fun w => by kernel_rfl⟩
theorem tas_text (v : Value) : TaNo 75 127 v (.agg #[]) ∧ TaYes 75 75 v ∧ TaNo 75 81 v (.agg #[]) ∧ TaNo 75 128 v (.agg #[]) ∧ TaNo 75 82 v (.agg #[]) ∧ TaNo 75 83 v (.agg #[]) ∧ TaNo 75 135 v (.pointer none) ∧ TaNo 75 130 v (.pointer none) ∧ TaNo 75 138 v (.pointer none) ∧ TaNo 75 142 v (.pointer none) :=
  ⟨fun w => by kernel_rfl, fun w => by kernel_rfl, fun w => by kernel_rfl, fun w => by kernel_rfl, fun w => by kernel_rfl, fun w => by kernel_rfl, fun w => by kernel_rfl, fun w => by kernel_rfl, fun w => by kernel_rfl, fun w => by kernel_rfl⟩
theorem tas_line : TaNo 81 127 (.agg #[]) (.agg #[]) ∧ TaNo 81 75 (.agg #[]) (.pointer none) ∧ TaYes 81 81 (.agg #[]) ∧ TaNo 81 128 (.agg #[]) (.agg #[]) ∧ TaNo 81 82 (.agg #[]) (.agg #[]) ∧ TaNo 81 83 (.agg #[]) (.agg #[]) ∧ TaNo 81 135 (.agg #[]) (.pointer none) ∧ TaNo 81 130 (.agg #[]) (.pointer none) ∧ TaNo 81 138 (.agg #[]) (.pointer none) ∧ TaNo 81 142 (.agg #[]) (.pointer none) :=
  ⟨fun w => by kernel_rfl, fun w => by kernel_rfl, fun w => by kernel_rfl, fun w => by kernel_rfl, fun w => by kernel_rfl, fun w => by kernel_rfl, fun w => by kernel_rfl, fun w => by kernel_rfl, fun w => by kernel_rfl, fun w => by kernel_rfl⟩
theorem tas_soft : TaNo 128 127 (.agg #[]) (.agg #[]) ∧ TaNo 128 75 (.agg #[]) (.pointer none) ∧ TaNo 128 81 (.agg #[]) (.agg #[]) ∧ TaYes 128 128 (.agg #[]) ∧ TaNo 128 82 (.agg #[]) (.agg #[]) ∧ TaNo 128 83 (.agg #[]) (.agg #[]) ∧ TaNo 128 135 (.agg #[]) (.pointer none) ∧ TaNo 128 130 (.agg #[]) (.pointer none) ∧ TaNo 128 138 (.agg #[]) (.pointer none) ∧ TaNo 128 142 (.agg #[]) (.pointer none) :=
  ⟨fun w => by kernel_rfl, fun w => by kernel_rfl, fun w => by kernel_rfl, fun w => by kernel_rfl, fun w => by kernel_rfl, fun w => by kernel_rfl, fun w => by kernel_rfl, fun w => by kernel_rfl, fun w => by kernel_rfl, fun w => by kernel_rfl⟩
theorem tas_hard : TaNo 82 127 (.agg #[]) (.agg #[]) ∧ TaNo 82 75 (.agg #[]) (.pointer none) ∧ TaNo 82 81 (.agg #[]) (.agg #[]) ∧ TaNo 82 128 (.agg #[]) (.agg #[]) ∧ TaYes 82 82 (.agg #[]) ∧ TaNo 82 83 (.agg #[]) (.agg #[]) ∧ TaNo 82 135 (.agg #[]) (.pointer none) ∧ TaNo 82 130 (.agg #[]) (.pointer none) ∧ TaNo 82 138 (.agg #[]) (.pointer none) ∧ TaNo 82 142 (.agg #[]) (.pointer none) :=
  ⟨fun w => by kernel_rfl, fun w => by kernel_rfl, fun w => by kernel_rfl, fun w => by kernel_rfl, fun w => by kernel_rfl, fun w => by kernel_rfl, fun w => by kernel_rfl, fun w => by kernel_rfl, fun w => by kernel_rfl, fun w => by kernel_rfl⟩
theorem tas_raw : TaNo 83 127 (.agg #[]) (.agg #[]) ∧ TaNo 83 75 (.agg #[]) (.pointer none) ∧ TaNo 83 81 (.agg #[]) (.agg #[]) ∧ TaNo 83 128 (.agg #[]) (.agg #[]) ∧ TaNo 83 82 (.agg #[]) (.agg #[]) ∧ TaYes 83 83 (.agg #[]) ∧ TaNo 83 135 (.agg #[]) (.pointer none) ∧ TaNo 83 130 (.agg #[]) (.pointer none) ∧ TaNo 83 138 (.agg #[]) (.pointer none) ∧ TaNo 83 142 (.agg #[]) (.pointer none) :=
  ⟨fun w => by kernel_rfl, fun w => by kernel_rfl, fun w => by kernel_rfl, fun w => by kernel_rfl, fun w => by kernel_rfl, fun w => by kernel_rfl, fun w => by kernel_rfl, fun w => by kernel_rfl, fun w => by kernel_rfl, fun w => by kernel_rfl⟩
theorem tas_group (v : Value) : TaNo 135 127 v (.agg #[]) ∧ TaNo 135 75 v (.pointer none) ∧ TaNo 135 81 v (.agg #[]) ∧ TaNo 135 128 v (.agg #[]) ∧ TaNo 135 82 v (.agg #[]) ∧ TaNo 135 83 v (.agg #[]) ∧ TaYes 135 135 v ∧ TaNo 135 130 v (.pointer none) ∧ TaNo 135 138 v (.pointer none) ∧ TaNo 135 142 v (.pointer none) :=
  ⟨fun w => by kernel_rfl, fun w => by kernel_rfl, fun w => by kernel_rfl, fun w => by kernel_rfl, fun w => by kernel_rfl, fun w => by kernel_rfl, fun w => by kernel_rfl, fun w => by kernel_rfl, fun w => by kernel_rfl, fun w => by kernel_rfl⟩
theorem tas_nest (v : Value) : TaNo 130 127 v (.agg #[]) ∧ TaNo 130 75 v (.pointer none) ∧ TaNo 130 81 v (.agg #[]) ∧ TaNo 130 128 v (.agg #[]) ∧ TaNo 130 82 v (.agg #[]) ∧ TaNo 130 83 v (.agg #[]) ∧ TaNo 130 135 v (.pointer none) ∧ TaYes 130 130 v ∧ TaNo 130 138 v (.pointer none) ∧ TaNo 130 142 v (.pointer none) :=
  ⟨fun w => by kernel_rfl, fun w => by kernel_rfl, fun w => by kernel_rfl, fun w => by kernel_rfl, fun w => by kernel_rfl, fun w => by kernel_rfl, fun w => by kernel_rfl, fun w => by kernel_rfl, fun w => by kernel_rfl, fun w => by kernel_rfl⟩
theorem tas_cat (v : Value) : TaNo 138 127 v (.agg #[]) ∧ TaNo 138 75 v (.pointer none) ∧ TaNo 138 81 v (.agg #[]) ∧ TaNo 138 128 v (.agg #[]) ∧ TaNo 138 82 v (.agg #[]) ∧ TaNo 138 83 v (.agg #[]) ∧ TaNo 138 135 v (.pointer none) ∧ TaNo 138 130 v (.pointer none) ∧ TaYes 138 138 v ∧ TaNo 138 142 v (.pointer none) :=
  ⟨fun w => by kernel_rfl, fun w => by kernel_rfl, fun w => by kernel_rfl, fun w => by kernel_rfl, fun w => by kernel_rfl, fun w => by kernel_rfl, fun w => by kernel_rfl, fun w => by kernel_rfl, fun w => by kernel_rfl, fun w => by kernel_rfl⟩
theorem tas_alt (v : Value) : TaNo 142 127 v (.agg #[]) ∧ TaNo 142 75 v (.pointer none) ∧ TaNo 142 81 v (.agg #[]) ∧ TaNo 142 128 v (.agg #[]) ∧ TaNo 142 82 v (.agg #[]) ∧ TaNo 142 83 v (.agg #[]) ∧ TaNo 142 135 v (.pointer none) ∧ TaNo 142 130 v (.pointer none) ∧ TaNo 142 138 v (.pointer none) ∧ TaYes 142 142 v :=
  ⟨fun w => by kernel_rfl, fun w => by kernel_rfl, fun w => by kernel_rfl, fun w => by kernel_rfl, fun w => by kernel_rfl, fun w => by kernel_rfl, fun w => by kernel_rfl, fun w => by kernel_rfl, fun w => by kernel_rfl, fun w => by kernel_rfl⟩

end Go.Proofs.YtgmjpdejfdldlaaDoor

