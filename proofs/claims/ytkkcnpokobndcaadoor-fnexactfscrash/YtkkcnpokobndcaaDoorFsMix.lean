import Derived.Test.YtkkcnpokobndcaaDoorFsCln
namespace Go.Proofs.YtkkcnpokobndcaaDoor
open Go.RowKit

/-- Two cells of a file are set. -/
theorem cellsF_set2 : ∀ (L : List Fl) (xs : List (Value × Value)) (k : Nat) (u1 u2 : Value), xs.length = L.length → k < L.length → cellsF L (xs.set k (u1, u2)) = ((cellsF L xs).set (k * 3) u1).set (k * 3 + 1) u2
  | _ :: _, _ :: _, 0, u1, u2, _, _ => by simp [cellsF]
  | p :: L, x :: xs, k + 1, u1, u2, h, hk => by
    simp only [List.length_cons, Nat.add_right_cancel_iff] at h
    have ih := cellsF_set2 L xs k u1 u2 h (by simpa using hk)
    simp only [List.set_cons_succ, cellsF, ih]
    rw [show (k + 1) * 3 = k * 3 + 3 by omega, show k * 3 + 3 + 1 = k * 3 + 1 + 3 by omega]
    simp
  | [], _, _, _, _, _, hk => by simp at hk
  | _ :: _, [], _, _, _, h, _ => by simp at h

/-- One more file, whose texts lie behind C. -/
theorem TxF.snoc2 {B C : Nat} {w : World} {g : Option Nat} {fs : List Fl} {xs : List (Value × Value)} {p : Fl} {x : Value × Value} (h : TxF B w g fs xs) (hBC : B ≤ C) (hlow : ∀ v ∈ pairs xs, ∀ k, v.ownBlock = some k → k < C) (hgs : ∀ k, g = some k → k < C)
    (o1 : OwB C w x.1 p.n) (o2 : OwB C w x.2 p.d) (ha : Apt x.1 x.2) : TxF B w g (fs ++ [p]) (xs ++ [x]) := by
  have hl := h.len
  refine ⟨by simp [hl], fun j q u h1 h2 => ?_, ?_⟩
  · by_cases hj : j < fs.length
    · rw [List.getElem?_append_left hj] at h1
      rw [List.getElem?_append_left (by omega)] at h2
      exact h.own j q u h1 h2
    · have hj2 : j = fs.length := by
        have := (List.getElem?_eq_some_iff.1 h1).1
        simp at this; omega
      subst hj2
      simp at h1
      rw [← hl] at h2
      simp at h2
      subst h1 h2
      refine ⟨row_base hBC o1, row_base hBC o2, fun k hk => ⟨fun e => ?_, fun e => ?_⟩⟩
      · have := World.ownsRow.lt o1 _ e; have := hgs k hk; omega
      · have := World.ownsRow.lt o2 _ e; have := hgs k hk; omega
  · rw [pairs_snoc, List.pairwise_append]
    refine ⟨h.apart, by simpa using ha, ?_⟩
    intro a hm b hb k hk hk2
    have h1 := hlow a hm k hk
    simp only [List.mem_cons, List.not_mem_nil, or_false] at hb
    rcases hb with rfl | rfl
    · have := World.ownsRow.lt o1 _ hk2; omega
    · have := World.ownsRow.lt o2 _ hk2; omega

/-- A row of files of one's own from block T on: the first k files' texts are of their own, the others' read below T. -/
def Mix (T : Nat) (w : World) (v : Value) (fs : List Fl) (k : Nat) : Prop :=
  ∃ xs : List (Value × Value), xs.length = fs.length ∧ w.ownsRow T 49 3 v fs.length (cellsF fs xs) ∧ TxF T w v.ownBlock (fs.take k) (xs.take k) ∧
    ∀ (j : Nat) (p : Fl) (x : Value × Value), k ≤ j → fs[j]? = some p → xs[j]? = some x → RdB T w x.1 p.n ∧ Sl x.1 p.n.length ∧ RdB T w x.2 p.d ∧ Sl x.2 p.d.length

theorem RoF.mix {T : Nat} {w : World} {v : Value} {fs : List Fl} (h : RoF T T w v fs) : Mix T w v fs 0 := by
  obtain ⟨xs, hl, ho, hx⟩ := h
  exact ⟨xs, hl, ho, ⟨by simp, fun j p x h _ => by simp at h, by simp [pairs]⟩, fun j p x _ hp hxj => hx j p x hp hxj⟩
theorem Mix.all {T : Nat} {w : World} {v : Value} {fs : List Fl} (h : Mix T w v fs fs.length) : OwF T w v fs := by
  obtain ⟨xs, hl, ho, ht, _⟩ := h
  rw [List.take_length, ← hl, List.take_length] at ht
  exact ⟨xs, ho, ht⟩
theorem Mix.low {T : Nat} {w : World} {v : Value} {fs : List Fl} {k : Nat} (h : Mix T w v fs k) : ∀ j, v.ownBlock = some j → T ≤ j ∧ j < w.heap.size := by
  obtain ⟨xs, hl, ho, _⟩ := h
  exact fun j hj => World.ownsRow.lt ho j hj

theorem Mix.step {T : Nat} {w : World} {g cap : Nat} {fs : List Fl} {k : Nat} (h : Mix T w (.slice (some ⟨g, 0, none⟩) fs.length cap) fs k) (hk : k < fs.length) (hT : T ≤ w.heap.size) :
    ∃ nv dv : Value, w.cell? ⟨g, k * 3, none⟩ = some nv ∧ w.frozen? ⟨g, k * 3, none⟩ = false ∧ RdB T w nv fs[k].n ∧ Sl nv fs[k].n.length ∧ w.cell? ⟨g, k * 3 + 1, none⟩ = some dv ∧ w.frozen? ⟨g, k * 3 + 1, none⟩ = false ∧ RdB T w dv fs[k].d ∧ Sl dv fs[k].d.length ∧
      ∀ (w1 w3 : World) (n1 d1 : Value), w.grownBy w1 none → OwB w.heap.size w1 n1 fs[k].n → (w1.setCell ⟨g, k * 3, none⟩ n1).grownBy w3 none → OwB (w1.setCell ⟨g, k * 3, none⟩ n1).heap.size w3 d1 fs[k].d →
        Mix T (w3.setCell ⟨g, k * 3 + 1, none⟩ d1) (.slice (some ⟨g, 0, none⟩) fs.length cap) fs (k + 1) := by
  obtain ⟨xs, hl, ho, ht, hx⟩ := h
  have hp : fs[k]? = some fs[k] := by simp [hk]
  obtain ⟨x, hxk, c0, c1, c2⟩ := cellsF_at fs xs k fs[k] hl hp
  obtain ⟨r1, s1, r2, s2⟩ := hx k fs[k] x (Nat.le_refl _) hp hxk
  have hgl := World.ownsRow.lt ho g rfl
  refine ⟨x.1, x.2, ?_, World.ownsRow.frozenAt ho _, r1, s1, ?_, World.ownsRow.frozenAt ho _, r2, s2, ?_⟩
  · rw [World.ownsRow.cellAt ho (k * 3) (by omega), c0]
  · rw [World.ownsRow.cellAt ho (k * 3 + 1) (by omega), c1]
  intro w1 w3 n1 d1 g1 o1 g3 o3
  have hs1 := g1.size
  have hs3 := g3.size
  have hss : (w1.setCell ⟨g, k * 3, none⟩ n1).heap.size = w1.heap.size := by simp
  rw [hss] at hs3 o3
  have gs1 := grown_setF w1 ⟨g, k * 3, none⟩ n1
  have gs3 := grown_setF w3 ⟨g, k * 3 + 1, none⟩ d1
  -- the row
  have ho1 : w1.ownsRow T 49 3 (.slice (some ⟨g, 0, none⟩) fs.length cap) fs.length (cellsF fs xs) := World.ownsRow.kept ho g1 (.inr (by simp [Value.ownBlock]))
  have ho2 := (World.ownsRow.stored ho1 (k * 3) n1).1
  have ho3 := World.ownsRow.kept ho2 g3 (.inr (by simp [Value.ownBlock]))
  have ho4 := (World.ownsRow.stored ho3 (k * 3 + 1) d1).1
  rw [← cellsF_set2 fs xs k n1 d1 hl hk] at ho4
  -- the texts
  have ht4 : TxF T (w3.setCell ⟨g, k * 3 + 1, none⟩ d1) (some g) (fs.take k) (xs.take k) := (((ht.keep g1).set (k * 3) n1).keep g3).set (k * 3 + 1) d1
  have on : OwB w.heap.size (w3.setCell ⟨g, k * 3 + 1, none⟩ d1) n1 fs[k].n := by
    refine Ow.setF (Ow.later (Ow.setF o1 ⟨g, k * 3, none⟩ n1 hgl.2) g3) ⟨g, k * 3 + 1, none⟩ d1 hgl.2
  have od : OwB w.heap.size (w3.setCell ⟨g, k * 3 + 1, none⟩ d1) d1 fs[k].d := Ow.setF (row_base hs1 o3) ⟨g, k * 3 + 1, none⟩ d1 hgl.2
  have hap : Apt n1 d1 := fun i e1 e2 => by have := World.ownsRow.lt o1 _ e1; have := World.ownsRow.lt o3 _ e2; omega
  refine ⟨xs.set k (n1, d1), by simp [hl], ho4, ?_, fun j p y hj hpj hy => ?_⟩
  · have e1 : fs.take (k + 1) = fs.take k ++ [fs[k]] := by rw [List.take_add_one]; simp [hk]
    have e2 : (xs.set k (n1, d1)).take (k + 1) = xs.take k ++ [(n1, d1)] := by
      rw [List.take_add_one, List.take_set_of_le (Nat.le_refl k)]
      simp [hl, hk]
    rw [e1, e2]
    exact ht4.snoc2 hT (fun v hv i hi => (ht.lt hv hi).2) (fun i hi => by cases hi; exact hgl.2) on od hap
  · rw [List.getElem?_set_ne (by omega)] at hy
    obtain ⟨q1, q2, q3, q4⟩ := hx j p y (by omega) hpj hy
    have tr : ∀ (v : Value) (zs : List Int), RdB T w v zs → RdB T (w3.setCell ⟨g, k * 3 + 1, none⟩ d1) v zs := fun v zs hv =>
      (((hv.keep g1).beside gs1 (fun i e => by cases e; exact hgl.1)).keep g3).beside gs3 (fun i e => by cases e; exact hgl.1)
    exact ⟨tr _ _ q1, q2, tr _ _ q3, q4⟩

end Go.Proofs.YtkkcnpokobndcaaDoor
