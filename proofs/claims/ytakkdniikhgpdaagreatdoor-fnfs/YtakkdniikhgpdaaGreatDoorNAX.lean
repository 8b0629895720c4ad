import Derived.Test.YtakkdniikhgpdaaGreatDoorMAS
import Derived.Test.YtakkdniikhgpdaaGreatDoorNAV
import Derived.Test.YtakkdniikhgpdaaGreatDoorNAW
namespace Go.Proofs.YtakkdniikhgpdaaGreatDoor
open Go.RowKit
attribute [-go_sem] Builtin.append_

/-! A row of files of one's own, whose texts lie apart from it and from block F. -/
def Txo (F : Nat) (g : Option Nat) (w : World) (u : Value) (t : List Int) : Prop :=
  ∃ a cap, u = .slice a t.length cap ∧ t.length ≤ cap ∧ cap ≤ maxLen ∧ (t ≠ [] → ∃ b off, a = some ⟨b, off, none⟩ ∧ b < w.heap.size ∧ b ≠ F ∧ g ≠ some b ∧ ∀ j, j < t.length → w.cell? ⟨b, off + j, none⟩ = some (.int .u8 (t[j]?.getD 0)))
theorem Txo.nil (F : Nat) (g : Option Nat) (w : World) : Txo F g w (.slice none 0 0) [] := ⟨none, 0, rfl, Nat.le_refl _, by unfold maxLen; omega, fun h => absurd rfl h⟩
theorem Txo.sl {F : Nat} {g : Option Nat} {w : World} {u : Value} {t : List Int} (h : Txo F g w u t) : Sl u t.length := by
  obtain ⟨a, cap, h1, h2, h3, _⟩ := h
  exact ⟨a, cap, h1, h2, h3⟩
theorem Txo.rd {F : Nat} {g : Option Nat} {w : World} {u : Value} {t : List Int} (h : Txo F g w u t) : RdB w.heap.size w u t := by
  obtain ⟨a, cap, h1, h2, h3, h4⟩ := h
  refine ⟨a, cap, h1, fun h0 => ?_⟩
  obtain ⟨b, off, e, hb, _, _, hc⟩ := h4 h0
  exact ⟨b, off, e, hb, hc⟩
/-- .. where only F, or the row, or nothing of old has turned; the row may lie in a new block then. -/
theorem Txo.step {F : Nat} {g g' r : Option Nat} {w w' : World} {u : Value} {t : List Int} (h : Txo F g w u t) (gr : w.grownBy w' r) (hr : r = none ∨ r = some F ∨ r = g) (hg : g' = g ∨ ∃ x, g' = some x ∧ w.heap.size ≤ x) : Txo F g' w' u t := by
  obtain ⟨a, cap, h1, h2, h3, h4⟩ := h
  refine ⟨a, cap, h1, h2, h3, fun h0 => ?_⟩
  obtain ⟨b, off, e, hb, hF, hg0, hc⟩ := h4 h0
  have hne : some b ≠ r := by
    rcases hr with rfl | rfl | rfl
    · simp
    · simpa using hF
    · exact fun e => hg0 e.symm
  refine ⟨b, off, e, Nat.lt_of_lt_of_le hb gr.size, hF, ?_, fun j hj => gr.cell (hc j hj) hne⟩
  rcases hg with rfl | ⟨x, rfl, hx⟩
  · exact hg0
  · intro e'; cases e'; omega
theorem txo_own {F B : Nat} {g : Option Nat} {w : World} {u : Value} {t : List Int} (h : OwB B w u t) (hF : F < B) (hg : ∀ k, g = some k → u.ownBlock ≠ some k) : Txo F g w u t := by
  have hsl := h.sl
  obtain ⟨a, cap, e, h1, h2⟩ := hsl
  refine ⟨a, cap, e, h1, h2, fun h0 => ?_⟩
  obtain ⟨a', cap', e', hr⟩ := h.rd
  rw [e] at e'
  cases e'
  obtain ⟨b, off, ha, hb, hc⟩ := hr h0
  subst ha
  rcases h.2 with ⟨hv, hn⟩ | ⟨g', cp, cur, hv, hB, _⟩
  · exact absurd (List.length_eq_zero_iff.1 (by simpa using hn)) h0
  · rw [e] at hv
    simp only [Value.slice.injEq, Option.some.injEq, Addr.mk.injEq] at hv
    obtain ⟨⟨rfl, rfl, _⟩, _, _⟩ := hv
    refine ⟨b, 0, rfl, hb, by omega, fun e2 => ?_, hc⟩
    exact hg b e2 (by rw [e]; rfl)
/-- A text apart from F that was laid behind the row. -/
theorem txo_new {F : Nat} {g : Option Nat} {w : World} {b cap : Nat} {t : List Int} (hc : ∀ j, j < t.length → w.cell? ⟨b, j, none⟩ = some (.int .u8 (t[j]?.getD 0))) (hb : b < w.heap.size) (hF : b ≠ F) (hg : g ≠ some b) (h1 : t.length ≤ cap) (h2 : cap ≤ maxLen) : Txo F g w (.slice (some ⟨b, 0, none⟩) t.length cap) t :=
  ⟨_, cap, rfl, h1, h2, fun _ => ⟨b, 0, rfl, hb, hF, hg, fun j hj => by rw [Nat.zero_add]; exact hc j hj⟩⟩
def RwF (F B : Nat) (w : World) (v : Value) (fs : List Fl) : Prop :=
  F < B ∧ ∃ xs : List (Value × Value), xs.length = fs.length ∧ w.ownsRow B 45 3 v fs.length (cellsF fs xs) ∧ ∀ (j : Nat) (p : Fl) (x : Value × Value), fs[j]? = some p → xs[j]? = some x → Txo F v.ownBlock w x.1 p.n ∧ Txo F v.ownBlock w x.2 p.d
theorem OwF.rw {F B : Nat} {w : World} {v : Value} {fs : List Fl} (h : OwF B w v fs) (hF : F < B) : RwF F B w v fs := by
  obtain ⟨xs, ho, ht⟩ := h
  refine ⟨hF, xs, ht.len, ho, fun j p x hp hx => ?_⟩
  obtain ⟨o1, o2, o3⟩ := ht.own j p x hp hx
  exact ⟨txo_own o1 hF (fun k hk => (o3 k hk).1), txo_own o2 hF (fun k hk => (o3 k hk).2)⟩
theorem RwF.rd {F B : Nat} {w : World} {v : Value} {fs : List Fl} (h : RwF F B w v fs) : RdF w.heap.size w v fs := by
  obtain ⟨hF, xs, hl, ho, hx⟩ := h
  exact row_rd hl ho (Nat.le_refl _) (fun j p x hp hxj => ⟨(hx j p x hp hxj).1.rd, (hx j p x hp hxj).1.sl, (hx j p x hp hxj).2.rd, (hx j p x hp hxj).2.sl⟩)
theorem RwF.lt {F B : Nat} {w : World} {v : Value} {fs : List Fl} (h : RwF F B w v fs) : ∀ k, v.ownBlock = some k → B ≤ k ∧ k < w.heap.size := fun k hk => World.ownsRow.lt h.2.choose_spec.2.1 k hk
theorem RwF.keep {F B : Nat} {w w' : World} {v : Value} {fs : List Fl} {r : Option Nat} (h : RwF F B w v fs) (g : w.grownBy w' r) (hr : r = none ∨ r = some F) : RwF F B w' v fs := by
  obtain ⟨hF, xs, hl, ho, hx⟩ := h
  refine ⟨hF, xs, hl, World.ownsRow.kept ho g ?_, fun j p x hp hxj => ⟨(hx j p x hp hxj).1.step g (by rcases hr with h | h <;> simp [h]) (.inl rfl), (hx j p x hp hxj).2.step g (by rcases hr with h | h <;> simp [h]) (.inl rfl)⟩⟩
  cases hv : v.ownBlock with
  | none => exact .inl rfl
  | some k =>
    refine .inr (fun e => ?_)
    have := (World.ownsRow.lt ho _ hv).1
    rcases hr with rfl | rfl
    · cases e
    · simp only [Option.some.injEq] at e; omega
theorem RwF.low {F B : Nat} {w : World} {v : Value} {fs : List Fl} (h : RwF F B w v fs) (a : Addr) (u : Value) (hb : v.ownBlock ≠ some a.block) (hx : ∀ (b off : Nat) (z : Value), w.cell? ⟨b, off, none⟩ = some z → b = a.block → ∃ u', z = u' ∧ ∀ q, z ≠ .int .u8 q) : RwF F B (w.setCell a u) v fs := by
  obtain ⟨hF, xs, hl, ho, hx'⟩ := h
  have hg : w.grownBy (w.setCell a u) (some a.block) := ⟨rfl, rfl, rfl, by simp, fun i _ hn => Below.heap_setCell _ _ _ _ (fun e => hn (by rw [e]))⟩
  have key : ∀ y t, Txo F v.ownBlock w y t → Txo F v.ownBlock (w.setCell a u) y t := fun y t h => by
    obtain ⟨a', cap, h1, h2, h3, h4⟩ := h
    refine ⟨a', cap, h1, h2, h3, fun h0 => ?_⟩
    obtain ⟨b, off, e, hb', hF', hg0, hc⟩ := h4 h0
    refine ⟨b, off, e, Nat.lt_of_lt_of_le hb' hg.size, hF', hg0, fun j hj => hg.cell (hc j hj) (fun e2 => ?_)⟩
    simp only [Option.some.injEq] at e2
    obtain ⟨_, _, hq⟩ := hx b (off + j) _ (hc j hj) e2
    exact hq _ rfl
  refine ⟨hF, xs, hl, World.ownsRow.kept ho hg (.inr (fun e => hb (by rw [e]))), fun j p x hp hxj => ⟨key _ _ (hx' j p x hp hxj).1, key _ _ (hx' j p x hp hxj).2⟩⟩
theorem set_selfL {l : List Value} {i : Nat} {u : Value} (h : l[i]? = some u) : l.set i u = l := by
  apply List.ext_getElem?
  intro j
  by_cases e : i = j
  · subst e
    rw [List.getElem?_set_self (List.getElem?_eq_some_iff.1 h).1, h]
  · rw [List.getElem?_set_ne e]
theorem cellsF_mod : ∀ (L : List Fl) (xs : List (Value × Value)) (k : Nat) (p' : Fl) (x' : Value × Value), xs.length = L.length → k < L.length → cellsF (L.set k p') (xs.set k x') = (((cellsF L xs).set (k * 3) x'.1).set (k * 3 + 1) x'.2).set (k * 3 + 2) (.int .i64 p'.s)
  | p :: L, x :: xs, 0, p', x', _, _ => by simp [cellsF]
  | p :: L, x :: xs, k + 1, p', x', h, hk => by
    simp only [List.length_cons, Nat.add_right_cancel_iff] at h
    have ih := cellsF_mod L xs k p' x' h (by simpa using hk)
    rw [List.set_cons_succ, List.set_cons_succ, cellsF, ih, cellsF, show (k + 1) * 3 = k * 3 + 3 by omega, show k * 3 + 3 + 1 = (k * 3 + 1) + 3 by omega, show k * 3 + 3 + 2 = (k * 3 + 2) + 3 by omega]
    rfl
  | [], _, _, _, _, _, hk => by simp at hk
  | _ :: _, [], _, _, _, h, _ => by simp at h
/-- A file of the row: where it lies. -/
theorem RwF.at {F B : Nat} {w : World} {v : Value} {fs : List Fl} (h : RwF F B w v fs) {q : Nat} (hq : q < fs.length) : ∃ (g cap : Nat) (x : Value × Value), v = .slice (some ⟨g, 0, none⟩) fs.length cap ∧ fs.length ≤ cap ∧ cap ≤ maxLen ∧ B ≤ g ∧ g < w.heap.size ∧ w.cell? ⟨g, q * 3, none⟩ = some x.1 ∧ w.cell? ⟨g, q * 3 + 1, none⟩ = some x.2 ∧ w.cell? ⟨g, q * 3 + 2, none⟩ = some (.int .i64 fs[q].s) ∧ (∀ j, w.frozen? ⟨g, j, none⟩ = false) ∧ Txo F (some g) w x.1 fs[q].n ∧ Txo F (some g) w x.2 fs[q].d ∧
    (∀ s', RwF F B (w.setCell ⟨g, q * 3 + 2, none⟩ (.int .i64 s')) v (fs.set q { fs[q] with s := s' })) ∧ (∀ u n', Txo F (some g) w u n' → RwF F B (w.setCell ⟨g, q * 3, none⟩ u) v (fs.set q { fs[q] with n := n' })) := by
  obtain ⟨hF, xs, hl, ho, hx⟩ := h
  obtain ⟨x, hxq, c0, c1, c2⟩ := cellsF_at fs xs q fs[q] hl (by simp [hq])
  rcases ho.2 with ⟨hv, hn⟩ | ⟨g, cap, cur, hv, hb, hg, hnc, hcm, hcs, ht⟩
  · omega
  · have hlt := World.ownsRow.lt ho g (by rw [hv]; rfl)
    have ho' : w.ownsRow B 45 3 (.slice (some ⟨g, 0, none⟩) fs.length cap) fs.length (cellsF fs xs) := by rw [← hv]; exact ho
    have hx0 := hx q fs[q] x (by simp [hq]) hxq
    rw [hv] at hx0
    have hcl := cellsF_len fs xs hl
    have hxl : q < xs.length := by omega
    have hxe : xs[q] = x := by rw [List.getElem?_eq_getElem hxl] at hxq; simpa using hxq
    refine ⟨g, cap, x, hv, hnc, hcm, hb, hlt.2, ?_, ?_, ?_, fun j => World.ownsRow.frozenAt ho' j, hx0.1, hx0.2, fun s' => ?_, fun u n' hu => ?_⟩
    · rw [World.ownsRow.cellAt ho' (q * 3) (by omega)]; exact c0
    · rw [World.ownsRow.cellAt ho' (q * 3 + 1) (by omega)]; exact c1
    · rw [World.ownsRow.cellAt ho' (q * 3 + 2) (by omega)]; exact c2
    · obtain ⟨s1, s2⟩ := World.ownsRow.stored ho' (q * 3 + 2) (.int .i64 s')
      refine ⟨hF, xs, by simp [hl], ?_, fun j p y hp hy => ?_⟩
      · rw [List.length_set, hv]
        have e := cellsF_mod fs xs q { fs[q] with s := s' } x hl hq
        rw [show xs.set q x = xs by rw [← hxe]; simp] at e
        rw [e, set_selfL c0, set_selfL c1]
        exact s1
      · by_cases hjq : q = j
        · subst hjq
          rw [List.getElem?_set_self hq] at hp
          cases hp
          rw [hv]
          rw [hxq] at hy
          cases hy
          exact ⟨hx0.1.step s2 (.inr (.inr rfl)) (.inl rfl), hx0.2.step s2 (.inr (.inr rfl)) (.inl rfl)⟩
        · rw [List.getElem?_set_ne hjq] at hp
          have := hx j p y hp hy
          rw [hv] at this ⊢
          exact ⟨this.1.step s2 (.inr (.inr rfl)) (.inl rfl), this.2.step s2 (.inr (.inr rfl)) (.inl rfl)⟩
    · obtain ⟨s1, s2⟩ := World.ownsRow.stored ho' (q * 3) u
      refine ⟨hF, xs.set q (u, x.2), by simp [hl], ?_, fun j p y hp hy => ?_⟩
      · rw [List.length_set, hv]
        rw [cellsF_mod fs xs q { fs[q] with n := n' } (u, x.2) hl hq, set_selfL (i := q * 3 + 1) (by rw [List.getElem?_set_ne (by omega)]; exact c1), set_selfL (i := q * 3 + 2) (by rw [List.getElem?_set_ne (by omega)]; exact c2)]
        exact s1
      · by_cases hjq : q = j
        · subst hjq
          rw [List.getElem?_set_self hq] at hp
          rw [List.getElem?_set_self hxl] at hy
          cases hp
          cases hy
          rw [hv]
          exact ⟨hu.step s2 (.inr (.inr rfl)) (.inl rfl), hx0.2.step s2 (.inr (.inr rfl)) (.inl rfl)⟩
        · rw [List.getElem?_set_ne hjq] at hp hy
          have := hx j p y hp hy
          rw [hv] at this ⊢
          exact ⟨this.1.step s2 (.inr (.inr rfl)) (.inl rfl), this.2.step s2 (.inr (.inr rfl)) (.inl rfl)⟩
/-- One file more. -/
theorem RwF.push {F B : Nat} {w : World} {v : Value} {fs : List Fl} (h : RwF F B w v fs) (b : Nat) (p : Fl) (x : Value × Value) (h0 : w.cell? ⟨b, 0, none⟩ = some x.1) (h1 : w.cell? ⟨b, 1, none⟩ = some x.2) (h2 : w.cell? ⟨b, 2, none⟩ = some (.int .i64 p.s)) (t1 : Txo F v.ownBlock w x.1 p.n) (t2 : Txo F v.ownBlock w x.2 p.d) (hB : B ≤ w.heap.size) (hn : fs.length ≤ 100000000) :
    ∃ a cap w', (Builtin.append_ #[23, 23] 23 #[v, .slice (some ⟨b, 0, none⟩) 1 1]).run Tryz.prog w = .ok (.slice a (fs.length + 1) cap) w' ∧ RwF F B w' (.slice a (fs.length + 1) cap) (fs ++ [p]) ∧ w.grownBy w' v.ownBlock ∧ ((Value.slice a (fs.length + 1) cap).ownBlock = v.ownBlock ∨ (Value.slice a (fs.length + 1) cap).ownBlock = some w.heap.size) := by
  obtain ⟨hF, xs, hl, ho, hx⟩ := h
  obtain ⟨v', w', hr, ho', g, hb, a, cap, rfl⟩ := append_fl B w v fs xs b p x hl ho h0 h1 h2 t1.sl t2.sl hB hn
  have hg' : (Value.slice a (fs.length + 1) cap).ownBlock = v.ownBlock ∨ ∃ y, (Value.slice a (fs.length + 1) cap).ownBlock = some y ∧ w.heap.size ≤ y := by
    rcases hb with e | e
    · exact .inl e
    · exact .inr ⟨_, e, Nat.le_refl _⟩
  refine ⟨a, cap, w', hr, ⟨hF, xs ++ [x], by simp [hl], ho', fun j q y hq hy => ?_⟩, g, hb⟩
  by_cases hj : j < fs.length
  · rw [List.getElem?_append_left hj] at hq
    rw [List.getElem?_append_left (by omega)] at hy
    have := hx j q y hq hy
    exact ⟨this.1.step g (.inr (.inr rfl)) hg', this.2.step g (.inr (.inr rfl)) hg'⟩
  · have hj2 : j = fs.length := by
      have := (List.getElem?_eq_some_iff.1 hq).1
      simp at this; omega
    subst hj2
    simp at hq
    rw [← hl] at hy
    simp at hy
    subst hq hy
    exact ⟨t1.step g (.inr (.inr rfl)) hg', t2.step g (.inr (.inr rfl)) hg'⟩
end Go.Proofs.YtakkdniikhgpdaaGreatDoor

namespace Go.Proofs.YtakkdniikhgpdaaGreatDoor
open Go.RowKit
attribute [-go_sem] Builtin.append_

/-- A block that holds a list of files' slice. -/
def Bx (W : World) (b : Nat) (u : Value) : Prop := W.heap[b]? = some (Obj.cells #[u] 25 (0, 0))
/-- A block that holds a file. -/
def Fx (W : World) (b : Nat) (x y s : Value) : Prop := W.heap[b]? = some (Obj.cells #[x, y, s] 45 (0, 0))
section
variable {W W' : World} {b : Nat} {u x y s : Value}
theorem Bx.c (h : Bx W b u) : W.cell? ⟨b, 0, none⟩ = some u := by rw [cell_of_row W b 0 _ _ _ h]; rfl
theorem Bx.fr (h : Bx W b u) : W.frozen? ⟨b, 0, none⟩ = false := frozen_of_row W b 0 _ _ h
theorem Bx.lt (h : Bx W b u) : b < W.heap.size := (Array.getElem?_eq_some_iff.1 h).1
theorem Bx.keep (h : Bx W b u) {r : Option Nat} (g : W.grownBy W' r) (hr : some b ≠ r) : Bx W' b u := (g.block b h.lt hr).trans h
theorem Bx.new (W : World) (u : Value) : Bx (W.alloc (.cells #[u] 25)) W.heap.size u := heap_alloc_new W _
theorem Bx.set (h : Bx W b u) (u' : Value) : Bx (W.setCell ⟨b, 0, none⟩ u') b u' := heap_setCell_same W b 0 _ _ _ h
theorem Bx.off (h : Bx W b u) (a : Addr) (u' : Value) (ha : b ≠ a.block) : Bx (W.setCell a u') b u := (heap_setCell_other W a b u' ha).trans h
theorem Fx.c0 (h : Fx W b x y s) : W.cell? ⟨b, 0, none⟩ = some x := by rw [cell_of_row W b 0 _ _ _ h]; rfl
theorem Fx.c1 (h : Fx W b x y s) : W.cell? ⟨b, 1, none⟩ = some y := by rw [cell_of_row W b 1 _ _ _ h]; rfl
theorem Fx.c2 (h : Fx W b x y s) : W.cell? ⟨b, 2, none⟩ = some s := by rw [cell_of_row W b 2 _ _ _ h]; rfl
theorem Fx.fr (h : Fx W b x y s) (j : Nat) : W.frozen? ⟨b, j, none⟩ = false := frozen_of_row W b j _ _ h
theorem Fx.keep (h : Fx W b x y s) {r : Option Nat} (g : W.grownBy W' r) (hr : some b ≠ r) : Fx W' b x y s := (g.block b (Array.getElem?_eq_some_iff.1 h).1 hr).trans h
theorem Fx.new (W : World) (x y s : Value) : Fx (W.alloc (.cells #[x, y, s] 45)) W.heap.size x y s := heap_alloc_new W _
theorem Fx.set1 (h : Fx W b x y s) (u : Value) : Fx (W.setCell ⟨b, 1, none⟩ u) b x u s := heap_setCell_same W b 1 _ _ _ h
theorem Fx.set2 (h : Fx W b x y s) (u : Value) : Fx (W.setCell ⟨b, 2, none⟩ u) b x y u := heap_setCell_same W b 2 _ _ _ h
theorem kk_fs (k : KK) : k.ty ≠ 25 ∧ k.ty ≠ 45 := by cases k <;> exact ⟨by decide, by decide⟩
theorem mt_none {H : Nat} {Γ : Gk} {arr : Array Value} {ty : TypeId} {mk : Nat × Nat} (hm : MT H Γ W) (hb : W.heap[b]? = some (Obj.cells arr ty mk)) (hty : ∀ k : KK, k.ty ≠ ty) : Γ b = none := by
  cases e : Γ b with
  | none => rfl
  | some z =>
    obtain ⟨k, m, ys⟩ := z
    obtain ⟨_, arr', mk', h2, _⟩ := hm b k m ys e
    rw [hb] at h2
    cases h2
    exact absurd rfl (hty k)
theorem KD.box {F : Nat} {v : Value} {zs : List Int} {Γ Γ1 : Gk} {w : World} {i : Nat} (D : KD F v zs Γ w i Γ1 W) (hb : Bx W b u) (hlo : w.heap.size ≤ b) (u' : Value) : KD F v zs Γ w i Γ1 (W.setCell ⟨b, 0, none⟩ u') := D.off (mt_none D.st.mt hb (fun k => (kk_fs k).1)) hlo 0 u'
theorem KD.fox {F : Nat} {v : Value} {zs : List Int} {Γ Γ1 : Gk} {w : World} {i : Nat} (D : KD F v zs Γ w i Γ1 W) (hb : Fx W b x y s) (hlo : w.heap.size ≤ b) (j : Nat) (u' : Value) : KD F v zs Γ w i Γ1 (W.setCell ⟨b, j, none⟩ u') := D.off (mt_none D.st.mt hb (fun k => (kk_fs k).2)) hlo j u'
end
theorem RwF.base {F B B' : Nat} {w : World} {v : Value} {fs : List Fl} (h : RwF F B w v fs) (hB : B' ≤ B) (hF : F < B') : RwF F B' w v fs := by
  obtain ⟨_, xs, hl, ho, hx⟩ := h
  exact ⟨hF, xs, hl, row_base hB ho, hx⟩
theorem RwF.nil {F B : Nat} (w : World) (hF : F < B) : RwF F B w (.slice none 0 0) [] := ⟨hF, [], rfl, ⟨by simp [cellsF], .inl ⟨rfl, rfl⟩⟩, fun j p x h _ => by simp at h⟩
theorem RwF.box {F B b : Nat} {w : World} {v : Value} {fs : List Fl} {a : Option Addr} {n c : Nat} (h : RwF F B w v fs) (hb : Bx w b (.slice a n c)) (hlt : b < B) (u : Value) : RwF F B (w.setCell ⟨b, 0, none⟩ u) v fs := by
  refine h.low ⟨b, 0, none⟩ u (fun e => by have := (h.lt b e).1; omega) (fun b' off z hz e => ⟨z, rfl, fun q e2 => ?_⟩)
  simp only at e
  subst e
  rw [cell_of_row w b' off _ _ _ hb] at hz
  cases off with
  | zero => simp at hz; rw [← hz] at e2; cases e2
  | succ o => simp at hz
/-- A text that is cut. -/
theorem Ab.cut {F : Nat} {w : World} {a : Option Addr} {n cap : Nat} {t : List Int} (h : Ab F w (.slice a n cap) t) {m : Nat} (hm : m ≤ t.length) : Ab F w (.slice a m cap) (t.take m) := by
  have hl : (t.take m).length = m := by simp; omega
  obtain ⟨⟨a', cap', e, h1, h2⟩, h3⟩ := h
  simp only [Value.slice.injEq] at e
  obtain ⟨rfl, rfl, rfl⟩ := e
  refine ⟨⟨a, cap, by rw [hl], by rw [hl]; omega, h2⟩, fun W g => ?_⟩
  obtain ⟨a', cap', e, hr⟩ := h3 W g
  simp only [Value.slice.injEq] at e
  obtain ⟨rfl, _, rfl⟩ := e
  refine ⟨a, cap, by rw [hl], fun h0 => ?_⟩
  obtain ⟨b, off, ha, hb, hc⟩ := hr (fun e => h0 (by rw [e]; simp))
  exact ⟨b, off, ha, hb, fun j hj => by rw [hl] at hj; rw [List.getElem?_take, if_pos hj]; exact hc j (by omega)⟩
theorem joinQ {Q P : Option Addr → Nat → Option Addr → Nat → Nat → World → Prop} {G : Prop} (main : (∀ a b c d e f, P a b c d e f → Q a b c d e f) → G) (key : ∀ a b c d e f, P a b c d e f → Q a b c d e f) : G := main key
theorem Fx.set0 {W : World} {b : Nat} {x y s : Value} (h : Fx W b x y s) (u : Value) : Fx (W.setCell ⟨b, 0, none⟩ u) b u y s := heap_setCell_same W b 0 _ _ _ h
theorem Txo.fox {F : Nat} {g : Option Nat} {W : World} {u : Value} {t : List Int} {b : Nat} {a1 a2 : Option Addr} {l1 l2 c1 c2 : Nat} {q : Int} (h : Txo F g W u t) (hf : Fx W b (.slice a1 l1 c1) (.slice a2 l2 c2) (.int .i64 q)) (j : Nat) (z : Value) : Txo F g (W.setCell ⟨b, j, none⟩ z) u t := by
  obtain ⟨a, cap, h1, h2, h3, h4⟩ := h
  refine ⟨a, cap, h1, h2, h3, fun h0 => ?_⟩
  obtain ⟨b', off, e, hb, hF, hg, hc⟩ := h4 h0
  have hne : b' ≠ b := fun e2 => by
    subst e2
    have := hc 0 (List.length_pos_iff.2 h0)
    rw [cell_of_row W b' _ _ _ _ hf] at this
    rcases hj : off + 0 with _ | _ | _ | n
    · rw [hj] at this; simp at this
    · rw [hj] at this; simp at this
    · rw [hj] at this; simp at this
    · rw [hj] at this; simp at this
  have gr : W.grownBy (W.setCell ⟨b, j, none⟩ z) (some b) := ⟨rfl, rfl, rfl, by simp, fun i _ hn => heap_setCell_other W ⟨b, j, none⟩ i z (fun e => hn (by rw [e]))⟩
  exact ⟨b', off, e, Nat.lt_of_lt_of_le hb gr.size, hF, hg, fun k hk => gr.cell (hc k hk) (by simpa using hne)⟩
theorem Txo.cut {F : Nat} {g : Option Nat} {w : World} {a : Option Addr} {n cap : Nat} {t : List Int} (h : Txo F g w (.slice a n cap) t) {m : Nat} (hm : m ≤ t.length) : Txo F g w (.slice a m cap) (t.take m) := by
  have hl : (t.take m).length = m := by simp; omega
  obtain ⟨a', cap', e, h1, h2, h3⟩ := h
  simp only [Value.slice.injEq] at e
  obtain ⟨rfl, rfl, rfl⟩ := e
  refine ⟨a, cap, by rw [hl], by rw [hl]; omega, h2, fun h0 => ?_⟩
  obtain ⟨b, off, ha, hb, hF, hg, hc⟩ := h3 (fun e => h0 (by rw [e]; simp))
  exact ⟨b, off, ha, hb, hF, hg, fun j hj => by rw [hl] at hj; rw [List.getElem?_take, if_pos hj]; exact hc j (by omega)⟩
theorem Ab.txo {F : Nat} {w : World} {u : Value} {t : List Int} (h : Ab F w u t) : Txo F none w u t := by
  obtain ⟨⟨a, cap, h1, h2, h3⟩, h4⟩ := h
  refine ⟨a, cap, h1, h2, h3, fun h0 => ?_⟩
  obtain ⟨a', cap', e, hr⟩ := h4 w (World.grownBy.refl _ _)
  rw [h1] at e
  cases e
  obtain ⟨b, off, ha, hb, hc⟩ := hr h0
  refine ⟨b, off, ha, hb, fun e => ?_, by simp, hc⟩
  subst e ha
  have gr : w.grownBy (w.setCell ⟨b, off + 0, none⟩ (.bool false)) (some b) := ⟨rfl, rfl, rfl, by simp, fun i _ hn => heap_setCell_other w ⟨b, off + 0, none⟩ i _ (fun e => hn (by rw [e]))⟩
  obtain ⟨a', cap', e, hr'⟩ := h4 _ gr
  rw [h1] at e
  cases e
  obtain ⟨b', off', ha', hb', hc'⟩ := hr' h0
  cases ha'
  have p1 := hc 0 (List.length_pos_iff.2 h0)
  have p2 := hc' 0 (List.length_pos_iff.2 h0)
  have p3 : (w.setCell ⟨b, off + 0, none⟩ (.bool false)).cell? ⟨b, off + 0, none⟩ = some (.bool false) := World.cell?_setCell_same _ _ _ p1
  rw [p2] at p3
  cases p3
theorem grown_later {F : Nat} {w W : World} (g : w.grownBy W (some F)) (b : Nat) (hb : w.heap.size ≤ b) (j : Nat) (z : Value) : w.grownBy (W.setCell ⟨b, j, none⟩ z) (some F) :=
  ⟨g.os, g.tape, g.output, by simpa using g.size, fun k hk hn => (heap_setCell_other W ⟨b, j, none⟩ k z (by simp only; omega)).trans (g.block k hk hn)⟩
/-- Two operations stand ready. -/
theorem anyI_two {P : Program} {ops : Array Oper} {Q : Exit → Act → World → Prop} {md : Region.Mode} {I : World → Prop} {ex : Nat → Bool} {i j fuel : Nat} {listed : Array Bool} {a : Act} {w : World} (hr : Region.ready md ops listed = [i, j])
    (h : wpOp P ops Q i (fun a' w' => (ex i = true ∨ I w') ∧ anyI P md ops Q I ex fuel (listed.setIfInBounds i true) a' w') a w) (h' : wpOp P ops Q j (fun a' w' => (ex j = true ∨ I w') ∧ anyI P md ops Q I ex fuel (listed.setIfInBounds j true) a' w') a w) : anyI P md ops Q I ex (fuel + 1) listed a w :=
  ⟨fun h0 => (by rw [hr] at h0; cases h0), fun k hk => by
    rw [hr] at hk
    simp at hk
    rcases hk with rfl | rfl
    · exact h
    · exact h'⟩

theorem anyI_three {P : Program} {ops : Array Oper} {Q : Exit → Act → World → Prop} {md : Region.Mode} {I : World → Prop} {ex : Nat → Bool} {i j k fuel : Nat} {listed : Array Bool} {a : Act} {w : World} (hr : Region.ready md ops listed = [i, j, k])
    (h : wpOp P ops Q i (fun a' w' => (ex i = true ∨ I w') ∧ anyI P md ops Q I ex fuel (listed.setIfInBounds i true) a' w') a w) (h' : wpOp P ops Q j (fun a' w' => (ex j = true ∨ I w') ∧ anyI P md ops Q I ex fuel (listed.setIfInBounds j true) a' w') a w) (h'' : wpOp P ops Q k (fun a' w' => (ex k = true ∨ I w') ∧ anyI P md ops Q I ex fuel (listed.setIfInBounds k true) a' w') a w) : anyI P md ops Q I ex (fuel + 1) listed a w :=
  ⟨fun h0 => (by rw [hr] at h0; cases h0), fun q hq => by
    rw [hr] at hq
    simp at hq
    rcases hq with rfl | rfl | rfl
    · exact h
    · exact h'
    · exact h''⟩
end Go.Proofs.YtakkdniikhgpdaaGreatDoor

