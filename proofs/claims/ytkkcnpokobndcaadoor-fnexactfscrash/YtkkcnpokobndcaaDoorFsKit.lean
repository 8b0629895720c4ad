import Derived.Test.YtkkcnpokobndcaaDoorFsPure
namespace Go.Proofs.YtkkcnpokobndcaaDoor
open Go.RowKit

theorem Rd.wideF {q : IntKind} {B B' : Nat} {w : World} {v : Value} {zs : List Int} (h : Rd q B w v zs) (hB : B ≤ B') : Rd q B' w v zs := by
  obtain ⟨a, cap, hv, hr⟩ := h
  refine ⟨a, cap, hv, fun h0 => ?_⟩
  obtain ⟨b, off, ha, hb, hc⟩ := hr h0
  exact ⟨b, off, ha, by omega, hc⟩

/-- One file lies at block b from cell o on; its Name's value is x.1, its Data's x.2. -/
structure FlAt (B : Nat) (w : World) (b o : Nat) (p : Fl) (x : Value × Value) : Prop where
  n : w.cell? ⟨b, o, none⟩ = some x.1
  d : w.cell? ⟨b, o + 1, none⟩ = some x.2
  s : w.cell? ⟨b, o + 2, none⟩ = some (.int .i64 p.s)
  rn : RdB B w x.1 p.n
  sn : Sl x.1 p.n.length
  rd : RdB B w x.2 p.d
  sd : Sl x.2 p.d.length

/-- The slice value v reads as the files fs; all lies below block B. -/
def RdF (B : Nat) (w : World) (v : Value) (fs : List Fl) : Prop :=
  ∃ a cap, v = .slice a fs.length cap ∧ fs.length ≤ cap ∧ cap ≤ maxLen ∧ (fs ≠ [] → ∃ b off, a = some ⟨b, off, none⟩ ∧ b < B ∧ ∀ j p, fs[j]? = some p → ∃ x, FlAt B w b (off + j * 3) p x)

theorem FlAt.beside {B : Nat} {w w' : World} {b o : Nat} {p : Fl} {x : Value × Value} {row : Option Nat} (h : FlAt B w b o p x) (hb : b < B) (hg : w.grownBy w' row) (hr : ∀ k, row = some k → B ≤ k) : FlAt B w' b o p x :=
  have hn : some b ≠ row := fun e => by have := hr b e.symm; omega
  ⟨hg.cell h.n hn, hg.cell h.d hn, hg.cell h.s hn, h.rn.beside hg hr, h.sn, h.rd.beside hg hr, h.sd⟩
theorem RdF.beside {B : Nat} {w w' : World} {v : Value} {fs : List Fl} {row : Option Nat} (h : RdF B w v fs) (hg : w.grownBy w' row) (hr : ∀ k, row = some k → B ≤ k) : RdF B w' v fs := by
  obtain ⟨a, cap, hv, h1, h2, hh⟩ := h
  refine ⟨a, cap, hv, h1, h2, fun h0 => ?_⟩
  obtain ⟨b, off, ha, hb, hc⟩ := hh h0
  refine ⟨b, off, ha, hb, fun j p hp => ?_⟩
  obtain ⟨x, ht⟩ := hc j p hp
  exact ⟨x, ht.beside hb hg hr⟩
theorem RdF.keep {B : Nat} {w w' : World} {v : Value} {fs : List Fl} (h : RdF B w v fs) (hg : w.grownBy w' none) : RdF B w' v fs := h.beside hg (fun _ e => by cases e)
theorem RdF.wide {B B' : Nat} {w : World} {v : Value} {fs : List Fl} (h : RdF B w v fs) (hB : B ≤ B') : RdF B' w v fs := by
  obtain ⟨a, cap, hv, h1, h2, hh⟩ := h
  refine ⟨a, cap, hv, h1, h2, fun h0 => ?_⟩
  obtain ⟨b, off, ha, hb, hc⟩ := hh h0
  refine ⟨b, off, ha, by omega, fun j p hp => ?_⟩
  obtain ⟨x, ht⟩ := hc j p hp
  exact ⟨x, ⟨ht.n, ht.d, ht.s, ht.rn.wideF hB, ht.sn, ht.rd.wideF hB, ht.sd⟩⟩
theorem RdF.now {w w' : World} {v : Value} {fs : List Fl} (h : RdF w.heap.size w v fs) (hg : w.grownBy w' none) : RdF w'.heap.size w' v fs := (h.keep hg).wide hg.size
theorem RdF.at {B : Nat} {w : World} {v : Value} {fs : List Fl} (h : RdF B w v fs) (j : Nat) (hj : j < fs.length) :
    ∃ b off cap x, v = .slice (some ⟨b, off, none⟩) fs.length cap ∧ b < B ∧ FlAt B w b (off + j * 3) fs[j] x := by
  obtain ⟨a, cap, hv, h1, h2, hh⟩ := h
  obtain ⟨b, off, ha, hb, hc⟩ := hh (fun e => by rw [e] at hj; simp at hj)
  obtain ⟨x, ht⟩ := hc j fs[j] (by simp [hj])
  exact ⟨b, off, cap, x, by rw [hv, ha], hb, ht⟩
theorem RdF.sl {B : Nat} {w : World} {v : Value} {fs : List Fl} (h : RdF B w v fs) : Sl v fs.length := by
  obtain ⟨a, cap, hv, h1, h2, _⟩ := h
  exact ⟨a, cap, hv, h1, h2⟩
theorem RdF.belowB {B : Nat} {w w' : World} {v : Value} {fs : List Fl} (h : RdF B w v fs) (hb : Below B w w') : RdF B w' v fs := by
  obtain ⟨a, cap, hv, h1, h2, hh⟩ := h
  refine ⟨a, cap, hv, h1, h2, fun h0 => ?_⟩
  obtain ⟨b, off, ha, hlt, hc⟩ := hh h0
  have hcell : ∀ (b o : Nat), b < B → w'.cell? ⟨b, o, none⟩ = w.cell? ⟨b, o, none⟩ := fun b o h => World.cell?_of_block (hb.block b h)
  have hrd : ∀ (v : Value) (zs : List Int), RdB B w v zs → RdB B w' v zs := fun v zs hv => by
    obtain ⟨a, cap, e, hr⟩ := hv
    refine ⟨a, cap, e, fun h0 => ?_⟩
    obtain ⟨b, off, ha, hb2, hc⟩ := hr h0
    exact ⟨b, off, ha, hb2, fun j hj => (hcell b _ hb2).trans (hc j hj)⟩
  refine ⟨b, off, ha, hlt, fun j p hp => ?_⟩
  obtain ⟨x, ht⟩ := hc j p hp
  exact ⟨x, ⟨(hcell b _ hlt).trans ht.n, (hcell b _ hlt).trans ht.d, (hcell b _ hlt).trans ht.s, hrd _ _ ht.rn, ht.sn, hrd _ _ ht.rd, ht.sd⟩⟩

/-- The cells of a row of files. -/
def cellsF : List Fl → List (Value × Value) → List Value
  | p :: ps, x :: xs => x.1 :: x.2 :: .int .i64 p.s :: cellsF ps xs
  | _, _ => []
theorem cellsF_len : ∀ (ps : List Fl) (xs : List (Value × Value)), xs.length = ps.length → (cellsF ps xs).length = ps.length * 3
  | [], [], _ => rfl
  | _ :: ps, _ :: xs, h => by simp only [List.length_cons, Nat.add_right_cancel_iff] at h; simp only [cellsF, List.length_cons, cellsF_len ps xs h]; omega
  | [], _ :: _, h => by simp at h
  | _ :: _, [], h => by simp at h
theorem cellsF_snoc : ∀ (ps : List Fl) (xs : List (Value × Value)) (p : Fl) (x : Value × Value), xs.length = ps.length → cellsF (ps ++ [p]) (xs ++ [x]) = cellsF ps xs ++ [x.1, x.2, .int .i64 p.s]
  | [], [], _, _, _ => rfl
  | _ :: ps, _ :: xs, p, x, h => by simp only [List.length_cons, Nat.add_right_cancel_iff] at h; simp only [List.cons_append, cellsF, cellsF_snoc ps xs p x h]
  | [], _ :: _, _, _, h => by simp at h
  | _ :: _, [], _, _, h => by simp at h
theorem cellsF_at : ∀ (ps : List Fl) (xs : List (Value × Value)) (j : Nat) (p : Fl), xs.length = ps.length → ps[j]? = some p → ∃ x, xs[j]? = some x ∧ (cellsF ps xs)[j * 3]? = some x.1 ∧ (cellsF ps xs)[j * 3 + 1]? = some x.2 ∧ (cellsF ps xs)[j * 3 + 2]? = some (.int .i64 p.s)
  | p0 :: ps, x :: xs, 0, p, h, hp => by simp at hp; subst hp; exact ⟨x, rfl, rfl, rfl, rfl⟩
  | p0 :: ps, x :: xs, j + 1, p, h, hp => by
    simp only [List.length_cons, Nat.add_right_cancel_iff] at h
    obtain ⟨u, h1, h2, h3, h4⟩ := cellsF_at ps xs j p h (by simpa using hp)
    refine ⟨u, by simpa using h1, ?_, ?_, ?_⟩
    · rw [show (j + 1) * 3 = j * 3 + 3 by omega]; simpa [cellsF] using h2
    · rw [show (j + 1) * 3 + 1 = (j * 3 + 1) + 3 by omega]; simpa [cellsF] using h3
    · rw [show (j + 1) * 3 + 2 = (j * 3 + 2) + 3 by omega]; simpa [cellsF] using h4
  | [], _, _, _, _, hp => by simp at hp
  | _ :: _, [], _, _, h, _ => by simp at h

theorem infoFl : (Tryd.prog.info? 49).map (fun i => (i.zero, i.size, i.bytes)) = some (some (.agg #[.slice none 0 0, .slice none 0 0, .int .i64 0]), 3, 56) := by kernel_rfl

/-- A row of files of one's own, from block B on; its texts read, below block T. -/
def RoF (T B : Nat) (w : World) (v : Value) (fs : List Fl) : Prop :=
  ∃ xs : List (Value × Value), xs.length = fs.length ∧ w.ownsRow B 49 3 v fs.length (cellsF fs xs) ∧
    ∀ (j : Nat) (p : Fl) (x : Value × Value), fs[j]? = some p → xs[j]? = some x → RdB T w x.1 p.n ∧ Sl x.1 p.n.length ∧ RdB T w x.2 p.d ∧ Sl x.2 p.d.length

theorem row_rd {B T : Nat} {w : World} {v : Value} {fs : List Fl} {xs : List (Value × Value)} (hl : xs.length = fs.length) (ho : w.ownsRow B 49 3 v fs.length (cellsF fs xs)) (hT : w.heap.size ≤ T)
    (hx : ∀ (j : Nat) (p : Fl) (x : Value × Value), fs[j]? = some p → xs[j]? = some x → RdB T w x.1 p.n ∧ Sl x.1 p.n.length ∧ RdB T w x.2 p.d ∧ Sl x.2 p.d.length) : RdF T w v fs := by
  rcases ho.2 with ⟨hv, hn⟩ | ⟨g, cap, cur, hv, hb, hg, hnc, hcm, hcs, ht⟩
  · refine ⟨none, 0, by rw [hv, hn], by omega, by unfold maxLen; omega, fun h0 => ?_⟩
    exact absurd (List.length_eq_zero_iff.1 hn) h0
  · have hlt := World.ownsRow.lt ho g (by rw [hv]; rfl)
    refine ⟨_, cap, hv, hnc, hcm, fun _ => ⟨g, 0, rfl, by omega, fun j p hp => ?_⟩⟩
    have hj := (List.getElem?_eq_some_iff.1 hp).1
    obtain ⟨x, h1, h2, h3, h4⟩ := cellsF_at fs xs j p hl hp
    have h' : w.ownsRow B 49 3 (.slice (some ⟨g, 0, none⟩) fs.length cap) fs.length (cellsF fs xs) := by rw [← hv]; exact ho
    obtain ⟨r1, r2, r3, r4⟩ := hx j p x hp h1
    refine ⟨x, ?_, ?_, ?_, r1, r2, r3, r4⟩
    · rw [Nat.zero_add, World.ownsRow.cellAt h' (j * 3) (by omega)]; exact h2
    · rw [Nat.zero_add, World.ownsRow.cellAt h' (j * 3 + 1) (by omega)]; exact h3
    · rw [Nat.zero_add, World.ownsRow.cellAt h' (j * 3 + 2) (by omega)]; exact h4

theorem RoF.rd {T B : Nat} {w : World} {v : Value} {fs : List Fl} (h : RoF T B w v fs) (hB : T ≤ w.heap.size) : RdF w.heap.size w v fs := by
  obtain ⟨xs, hl, ho, hx⟩ := h
  refine row_rd hl ho (Nat.le_refl _) (fun j p x hp hxj => ?_)
  obtain ⟨r1, r2, r3, r4⟩ := hx j p x hp hxj
  exact ⟨r1.wideF hB, r2, r3.wideF hB, r4⟩
theorem RoF.nil (T B : Nat) (w : World) : RoF T B w (.slice none 0 0) [] :=
  ⟨[], rfl, ⟨by simp [cellsF], .inl ⟨rfl, rfl⟩⟩, fun j p x h _ => by simp at h⟩
theorem RoF.later {T B : Nat} {w w' : World} {v : Value} {fs : List Fl} (h : RoF T B w v fs) (hg : w.grownBy w' none) : RoF T B w' v fs := by
  obtain ⟨xs, hl, ho, hx⟩ := h
  refine ⟨xs, hl, World.ownsRow.kept ho hg (by cases v.ownBlock <;> simp), fun j p x hp hxj => ?_⟩
  obtain ⟨r1, r2, r3, r4⟩ := hx j p x hp hxj
  exact ⟨r1.keep hg, r2, r3.keep hg, r4⟩
/-- .. over a write between the texts and the row. -/
theorem RoF.setMid {T B : Nat} {w : World} {v : Value} {fs : List Fl} (h : RoF T B w v fs) (a : Addr) (u : Value) (h1 : T ≤ a.block) (h2 : a.block < B) : RoF T B (w.setCell a u) v fs := by
  obtain ⟨xs, hl, ho, hx⟩ := h
  have hg : w.grownBy (w.setCell a u) (some a.block) := ⟨rfl, rfl, rfl, by simp, fun i _ hn => Below.heap_setCell _ _ _ _ (fun e => hn (by rw [e]))⟩
  refine ⟨xs, hl, World.ownsRow.kept ho hg ?_, fun j p x hp hxj => ?_⟩
  · cases hv : v.ownBlock with
    | none => exact .inl rfl
    | some k => exact .inr (fun e => by have := World.ownsRow.lt ho _ hv; simp only [Option.some.injEq] at e; omega)
  · obtain ⟨r1, r2, r3, r4⟩ := hx j p x hp hxj
    exact ⟨r1.beside hg (fun k e => by cases e; exact h1), r2, r3.beside hg (fun k e => by cases e; exact h1), r4⟩

/-- Two values that are no rows of one block. -/
def Apt (a b : Value) : Prop := ∀ g, a.ownBlock = some g → b.ownBlock ≠ some g
def pairs (xs : List (Value × Value)) : List Value := xs.flatMap fun x => [x.1, x.2]

/-- The texts of a row of files, each a row of its own, none of them the row's block g. -/
structure TxF (B : Nat) (w : World) (g : Option Nat) (fs : List Fl) (xs : List (Value × Value)) : Prop where
  len : xs.length = fs.length
  own : ∀ (j : Nat) (p : Fl) (x : Value × Value), fs[j]? = some p → xs[j]? = some x → OwB B w x.1 p.n ∧ OwB B w x.2 p.d ∧ (∀ k, g = some k → x.1.ownBlock ≠ some k ∧ x.2.ownBlock ≠ some k)
  apart : (pairs xs).Pairwise Apt

theorem TxF.keep {B : Nat} {w w' : World} {g : Option Nat} {fs : List Fl} {xs : List (Value × Value)} (h : TxF B w g fs xs) (hg : w.grownBy w' none) : TxF B w' g fs xs :=
  ⟨h.len, fun j p x h1 h2 => ⟨(h.own j p x h1 h2).1.later hg, (h.own j p x h1 h2).2.1.later hg, (h.own j p x h1 h2).2.2⟩, h.apart⟩
/-- .. over a write into the row, which may lie in another block then. -/
theorem TxF.row {B : Nat} {w w' : World} {g g' : Option Nat} {fs : List Fl} {xs : List (Value × Value)} (h : TxF B w g fs xs) (hg : w.grownBy w' g) (hg' : ∀ k, g' = some k → g = some k ∨ w.heap.size ≤ k) : TxF B w' g' fs xs :=
  ⟨h.len, fun j p x h1 h2 => by
    obtain ⟨o1, o2, o3⟩ := h.own j p x h1 h2
    refine ⟨o1.beside hg (fun k hk i hi e => ?_), o2.beside hg (fun k hk i hi e => ?_), fun k hk => ?_⟩
    · subst e; exact (o3 k hi).1 hk
    · subst e; exact (o3 k hi).2 hk
    · rcases hg' k hk with e | e
      · exact o3 k e
      · refine ⟨fun e2 => ?_, fun e2 => ?_⟩
        · have := World.ownsRow.lt o1 _ e2; omega
        · have := World.ownsRow.lt o2 _ e2; omega, h.apart⟩

theorem pairs_snoc (xs : List (Value × Value)) (x : Value × Value) : pairs (xs ++ [x]) = pairs xs ++ [x.1, x.2] := by simp [pairs]
theorem pairs_mem {xs : List (Value × Value)} {v : Value} (h : v ∈ pairs xs) : ∃ (j : Nat) (x : Value × Value), xs[j]? = some x ∧ (v = x.1 ∨ v = x.2) := by
  simp only [pairs, List.mem_flatMap, List.mem_cons, List.not_mem_nil, or_false] at h
  obtain ⟨x, hx, hv⟩ := h
  obtain ⟨j, hj, rfl⟩ := List.getElem_of_mem hx
  exact ⟨j, _, by simp [hj], hv⟩
theorem TxF.lt {B : Nat} {w : World} {g : Option Nat} {fs : List Fl} {xs : List (Value × Value)} (h : TxF B w g fs xs) {v : Value} (hv : v ∈ pairs xs) {k : Nat} (hk : v.ownBlock = some k) : B ≤ k ∧ k < w.heap.size := by
  obtain ⟨j, x, hx, he⟩ := pairs_mem hv
  have hj := (List.getElem?_eq_some_iff.1 hx).1
  have hl := h.len
  obtain ⟨o1, o2, _⟩ := h.own j (fs[j]'(by omega)) x (by simp [show j < fs.length by omega]) hx
  rcases he with rfl | rfl
  · exact World.ownsRow.lt o1 _ hk
  · exact World.ownsRow.lt o2 _ hk

/-- One more file, whose texts have been laid since w. -/
theorem TxF.snoc {B : Nat} {w w1 : World} {g : Option Nat} {fs : List Fl} {xs : List (Value × Value)} {p : Fl} {x : Value × Value} (h : TxF B w g fs xs) (hB : B ≤ w.heap.size) (hgs : ∀ k, g = some k → k < w.heap.size) (hg : w.grownBy w1 none)
    (o1 : OwB w.heap.size w1 x.1 p.n) (o2 : OwB w.heap.size w1 x.2 p.d) (ha : Apt x.1 x.2) : TxF B w1 g (fs ++ [p]) (xs ++ [x]) := by
  have hl := h.len
  refine ⟨by simp [hl], fun j q u h1 h2 => ?_, ?_⟩
  · by_cases hj : j < fs.length
    · rw [List.getElem?_append_left hj] at h1
      rw [List.getElem?_append_left (by omega)] at h2
      exact (h.keep hg).own j q u h1 h2
    · have hj2 : j = fs.length := by
        have := (List.getElem?_eq_some_iff.1 h1).1
        simp at this; omega
      subst hj2
      simp at h1
      rw [← hl] at h2
      simp at h2
      subst h1 h2
      refine ⟨row_base hB o1, row_base hB o2, fun k hk => ⟨fun e => ?_, fun e => ?_⟩⟩
      · have := World.ownsRow.lt o1 _ e; have := hgs k hk; omega
      · have := World.ownsRow.lt o2 _ e; have := hgs k hk; omega
  · rw [pairs_snoc, List.pairwise_append]
    refine ⟨h.apart, by simpa using ha, ?_⟩
    intro a hm b hb k hk hk2
    have h1 := h.lt hm hk
    simp only [List.mem_cons, List.not_mem_nil, or_false] at hb
    rcases hb with rfl | rfl
    · have := World.ownsRow.lt o1 _ hk2; omega
    · have := World.ownsRow.lt o2 _ hk2; omega

/-- A row of files of one's own, from block B on, with texts of their own. -/
def OwF (B : Nat) (w : World) (v : Value) (fs : List Fl) : Prop :=
  ∃ xs : List (Value × Value), w.ownsRow B 49 3 v fs.length (cellsF fs xs) ∧ TxF B w v.ownBlock fs xs

theorem OwF.nil (B : Nat) (w : World) : OwF B w (.slice none 0 0) [] :=
  ⟨[], ⟨by simp [cellsF], .inl ⟨rfl, rfl⟩⟩, rfl, fun j p x h _ => by simp at h, by simp [pairs]⟩
theorem OwF.later {B : Nat} {w w' : World} {v : Value} {fs : List Fl} (h : OwF B w v fs) (hg : w.grownBy w' none) : OwF B w' v fs := by
  obtain ⟨xs, ho, ht⟩ := h
  exact ⟨xs, World.ownsRow.kept ho hg (by cases v.ownBlock <;> simp), ht.keep hg⟩
theorem OwF.rd {B : Nat} {w : World} {v : Value} {fs : List Fl} (h : OwF B w v fs) : RdF w.heap.size w v fs := by
  obtain ⟨xs, ho, ht⟩ := h
  refine row_rd ht.len ho (Nat.le_refl _) (fun j p x hp hxj => ?_)
  obtain ⟨o1, o2, _⟩ := ht.own j p x hp hxj
  exact ⟨o1.rd, o1.sl, o2.rd, o2.sl⟩
theorem OwF.base {B B' : Nat} {w : World} {v : Value} {fs : List Fl} (h : OwF B w v fs) (hB : B' ≤ B) : OwF B' w v fs := by
  obtain ⟨xs, ho, ht⟩ := h
  exact ⟨xs, row_base hB ho, ht.len, fun j p x h1 h2 => by obtain ⟨o1, o2, o3⟩ := ht.own j p x h1 h2; exact ⟨row_base hB o1, row_base hB o2, o3⟩, ht.apart⟩

end Go.Proofs.YtkkcnpokobndcaaDoor
