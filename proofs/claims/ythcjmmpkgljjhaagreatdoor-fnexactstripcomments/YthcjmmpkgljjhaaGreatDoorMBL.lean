import Derived.Deep.Slices
import Derived.Test.YthcjmmpkgljjhaaGreatDoorMBI
import Derived.Test.YthcjmmpkgljjhaaGreatDoorMBK
namespace Go.Proofs.YthcjmmpkgljjhaaGreatDoor
open Go.RowKit

/-- All that a trail visits is of its kind and lies from block B on. -/
def TrIn (w : World) (B : Nat) (l : List (Addr × Kd)) : Prop := ∀ y ∈ l, (KdAt w y.1 y.2 ∧ w.frozen? y.1 = false) ∧ B ≤ y.1.block ∧ y.1.block < w.heap.size
theorem TrIn.ok {w : World} {B : Nat} {l : List (Addr × Kd)} (h : TrIn w B l) : TrOk w l := fun y hy => (h y hy).1
theorem TrIn.base {w : World} {B B' : Nat} {l : List (Addr × Kd)} (h : TrIn w B l) (hB : B' ≤ B) : TrIn w B' l := fun y hy => ⟨(h y hy).1, by have := (h y hy).2; omega⟩
theorem TrIn.app {w : World} {B : Nat} {l l' : List (Addr × Kd)} (h : TrIn w B l) (h' : TrIn w B l') : TrIn w B (l ++ l') := fun y hy => by
  rcases List.mem_append.1 hy with hy | hy
  · exact h y hy
  · exact h' y hy

/-- A list's place, from its value. -/
def lisOf : Value → Lis
  | .slice a n c => (a, n, c)
  | _ => (none, 0, 0)

theorem trL_mem {q : Kd} {a : Option Addr} {n : Nat} {y : Addr × Kd} (h : y ∈ trL q a n) : ∃ ad j, a = some ad ∧ j < n ∧ y = (ad.add j, q) := by
  cases a with
  | none => simp [trL] at h
  | some ad =>
    simp only [trL, List.mem_map, List.mem_range] at h
    obtain ⟨j, hj, rfl⟩ := h
    exact ⟨ad, j, rfl, hj, rfl⟩

theorem ow_lis {q : IntKind} {t : TypeId} {B : Nat} {w : World} {v : Value} {zs : List Int} (kd : Kd) (hk : ∀ x z, w.cell? x = some (.int q z) → KdAt w x kd) (h : Ow q t B w v zs) (hn : zs.length ≤ 1048576) :
    (lisOf v).ok ∧ (lisOf v).v = v ∧ (lisOf v).2.1 = zs.length ∧ TrIn w B (trL kd (lisOf v).1 (lisOf v).2.1) := by
  rcases h.2 with ⟨hv, h0⟩ | ⟨g, cap, cur, hv, hb, hg, hnc, hcm, hcs, ht⟩
  · subst hv
    refine ⟨⟨.inl rfl, by simp [lisOf]⟩, rfl, by simp [lisOf, h0], fun y hy => by simp [lisOf, trL] at hy⟩
  · subst hv
    refine ⟨⟨.inr ⟨g, 0, rfl⟩, hn⟩, rfl, rfl, fun y hy => ?_⟩
    obtain ⟨ad, j, ha, hj, rfl⟩ := trL_mem hy
    simp only [lisOf] at ha hj
    cases ha
    have hc := World.ownsRow.cellAt h j (by simpa using hj)
    have hf := World.ownsRow.frozenAt h j
    simp only [Addr.add_lit, Nat.zero_add]
    refine ⟨⟨hk _ (zs[j]) (by rw [hc]; simp [hj]), hf⟩, hb, ?_⟩
    exact (Array.getElem?_eq_some_iff.1 hg).1
theorem owB_lis {B : Nat} {w : World} {v : Value} {zs : List Int} (h : OwB B w v zs) (hn : zs.length ≤ 1048576) :
    (lisOf v).ok ∧ (lisOf v).v = v ∧ (lisOf v).2.1 = zs.length ∧ TrIn w B (trL .b (lisOf v).1 (lisOf v).2.1) := ow_lis .b (fun _ z h => ⟨z, h⟩) h hn
theorem owI_lis {B : Nat} {w : World} {v : Value} {zs : List Int} (h : OwI B w v zs) (hn : zs.length ≤ 1048576) :
    (lisOf v).ok ∧ (lisOf v).v = v ∧ (lisOf v).2.1 = zs.length ∧ TrIn w B (trL .i (lisOf v).1 (lisOf v).2.1) := ow_lis .i (fun _ z h => ⟨z, h⟩) h hn

theorem trC_mem (b : Nat) : ∀ (xs : List Lis) (off : Nat) (y : Addr × Kd), y ∈ trC b off xs → ∃ (j : Nat) (x : Lis), xs[j]? = some x ∧ (y = (⟨b, off + j * 2, none⟩, .o) ∨ y ∈ trL .b x.1 x.2.1)
  | [], _, y, h => by simp [trC] at h
  | x :: xs, off, y, h => by
    simp only [trC, List.mem_cons, List.mem_append] at h
    rcases h with h | h | h
    · exact ⟨0, x, rfl, .inl (by simpa using h)⟩
    · exact ⟨0, x, rfl, .inr h⟩
    · obtain ⟨j, x', h1, h2⟩ := trC_mem b xs (off + 2) y h
      refine ⟨j + 1, x', by simpa using h1, ?_⟩
      rw [show off + (j + 1) * 2 = off + 2 + j * 2 by omega]
      exact h2
theorem trNs_mem (b : Nat) : ∀ (ns : List Nsh) (off : Nat) (y : Addr × Kd), y ∈ trNs b off ns → ∃ (j : Nat) (n : Nsh), ns[j]? = some n ∧ y ∈ trN b (off + j * 8) n
  | [], _, y, h => by simp [trNs] at h
  | x :: xs, off, y, h => by
    simp only [trNs, List.mem_append] at h
    rcases h with h | h
    · exact ⟨0, x, rfl, by simpa using h⟩
    · obtain ⟨j, x', h1, h2⟩ := trNs_mem b xs (off + 8) y h
      refine ⟨j + 1, x', by simpa using h1, ?_⟩
      rw [show off + (j + 1) * 8 = off + 8 + j * 8 by omega]
      exact h2

theorem trL_le (q : Kd) (a : Option Addr) (n : Nat) : (trL q a n).length ≤ n := by cases a <;> simp [trL]
theorem trC_leS (b : Nat) : ∀ (xs : List Lis) (off : Nat), (∀ x ∈ xs, x.2.1 ≤ 1048576) → (trC b off xs).length ≤ xs.length * 1048577
  | [], _, _ => by simp [trC]
  | x :: xs, off, h => by
    have h1 := h x (by simp)
    have h2 := trL_le .b x.1 x.2.1
    have ih := trC_leS b xs (off + 2) (fun y hy => h y (by simp [hy]))
    simp only [trC, List.length_cons, List.length_append]
    omega
theorem trK_le {w : World} {x : Lcs} (h : Lcs.ok w x) : (trK x).length ≤ 1099512676352 := by
  obtain ⟨a, xs, c⟩ := x
  obtain ⟨h1, h2⟩ := h
  simp only at h1 h2
  rcases h1 with rfl | ⟨b, off, rfl, hs⟩
  · rw [trK_nil]; simp
  · have := trC_leS b xs off (fun x hx => by
      obtain ⟨j, hj, rfl⟩ := List.getElem_of_mem hx
      exact (hs j _ (by simp [hj])).2.2)
    simp only [trK]
    omega
theorem trN_le {w : World} {b o : Nat} {n : Nsh} (h : ShN w b o n) : (trN b o n).length ≤ 2199028498435 := by
  have h1 := trK_le h.okl
  have h2 := trK_le h.okt
  have h3 := Nat.le_trans (trL_le .i n.key.1 n.key.2.1) h.okk.2
  have h4 := Nat.le_trans (trL_le .b n.text.1 n.text.2.1) h.okx.2
  have h5 := Nat.le_trans (trL_le .i n.units.1 n.units.2.1) h.oku.2
  simp only [trN, List.length_append, List.length_singleton]
  omega
theorem trNs_le {w : World} (b : Nat) : ∀ (ns : List Nsh) (off : Nat), (∀ (j : Nat) (n : Nsh), ns[j]? = some n → ShN w b (off + j * 8) n) → (trNs b off ns).length ≤ ns.length * 2199028498435
  | [], _, _ => by simp [trNs]
  | n :: ns, off, h => by
    have h1 := trN_le (h 0 n rfl)
    rw [show off + 0 * 8 = off by omega] at h1
    have ih := trNs_le (w := w) b ns (off + 8) (fun j m hj => by have := h (j + 1) m (by simpa using hj); rwa [show off + (j + 1) * 8 = off + 8 + j * 8 by omega] at this)
    simp only [trNs, List.length_cons, List.length_append]
    omega
theorem trM_le {w : World} {x : Lns} (h : Lns.ok w x) : (trM x).length ≤ 2305848506774978560 := by
  obtain ⟨a, ns, c⟩ := x
  obtain ⟨h1, h2⟩ := h
  simp only at h1 h2
  rcases h1 with rfl | ⟨b, off, rfl, hs⟩
  · rw [trM_nil]; simp
  · have := trNs_le b ns off hs
    simp only [trM]
    omega

/-- The shape of a row of comments of one's own. -/
theorem owc_lcs {B : Nat} {w : World} {v : Value} {cs : List Cm} (h : OwC B w v cs) (hn : cs.length ≤ 1048576) (ht : ∀ c ∈ cs, c.t.length ≤ 1048576) : ∃ x : Lcs, x.v = v ∧ Lcs.ok w x ∧ TrIn w B (trK x) := by
  obtain ⟨g, tvs, hv, hm, ho, hT⟩ := h
  have hlt := World.ownsRow.lt ho g (by rw [hv]; rfl)
  have hl := hT.len
  rw [hv] at ho
  have each : ∀ (j : Nat) (x : Lis), (tvs.map lisOf)[j]? = some x → ∃ c tv, cs[j]? = some c ∧ tvs[j]? = some tv ∧ x = lisOf tv ∧ OwB B w tv c.t ∧ c.t.length ≤ 1048576 ∧ w.cell? ⟨g, j * 2, none⟩ = some (.bool c.b) ∧ w.cell? ⟨g, j * 2 + 1, none⟩ = some tv := by
    intro j x hj
    simp only [List.getElem?_map, Option.map_eq_some_iff] at hj
    obtain ⟨tv, htv, rfl⟩ := hj
    have hjl : j < cs.length := by have := (List.getElem?_eq_some_iff.1 htv).1; omega
    have hc : cs[j]? = some cs[j] := by simp [hjl]
    obtain ⟨tv', h1, h2, h3⟩ := cells2_at cs tvs j cs[j] hl hc
    rw [htv] at h1
    cases h1
    refine ⟨cs[j], tv, hc, htv, rfl, (hT.own j _ _ hc htv).1, ht _ (List.getElem_mem hjl), ?_, ?_⟩
    · rw [World.ownsRow.cellAt ho (j * 2) (by omega)]; exact h2
    · rw [World.ownsRow.cellAt ho (j * 2 + 1) (by omega)]; exact h3
  refine ⟨(some ⟨g, 0, none⟩, tvs.map lisOf, cs.length), by simp [Lcs.v, hv, hl], ⟨.inr ⟨g, 0, rfl, fun j x hj => ?_⟩, by simp [hl]; omega⟩, fun y hy => ?_⟩
  · obtain ⟨c, tv, h1, h2, rfl, h4, h5, h6, h7⟩ := each j x hj
    obtain ⟨k1, k2, k3, k4⟩ := owB_lis h4 h5
    refine ⟨?_, k1⟩
    rw [Nat.zero_add, h7, ← k2]; rfl
  · obtain ⟨j, x, hj, hy⟩ := trC_mem g _ _ _ hy
    obtain ⟨c, tv, h1, h2, rfl, h4, h5, h6, h7⟩ := each j x hj
    rcases hy with rfl | hy
    · simp only [Nat.zero_add]
      exact ⟨⟨⟨_, h6⟩, World.ownsRow.frozenAt ho (j * 2)⟩, hlt.1, hlt.2⟩
    · exact (owB_lis h4 h5).2.2.2 y hy

/-- The shape of a row of nodes of one's own. -/
theorem own_lns {B : Nat} {w : World} {v : Value} {ns : List Nod} (h : OwN B w v ns) (hn : ns.length ≤ 1048576) (ht : ∀ p ∈ ns, NOk p) : ∃ x : Lns, x.v = v ∧ Lns.ok w x ∧ TrIn w B (trM x) := by
  obtain ⟨g, xs, hv, hm, ho, hT⟩ := h
  have hlt := World.ownsRow.lt ho g (by rw [hv]; rfl)
  have hxl := ho.1
  rw [hv] at ho
  have each : ∀ j, j < ns.length → ∃ n : Nsh, ShN w g (j * 8) n ∧ TrIn w B (trN g (j * 8) n) := by
    intro j hj
    obtain ⟨lv, kv, xv, uv, tv, ⟨e0, e1, e2, e3, e4, e5, e6, e7⟩, o1, o2, o3, o4, o5⟩ := hT j ns[j] (by simp [hj])
    have hp := ht _ (List.getElem_mem hj)
    obtain ⟨xl, l1, l2, l3⟩ := owc_lcs o1 hp.lead hp.leads
    obtain ⟨xt, t1, t2, t3⟩ := owc_lcs o5 hp.tail hp.tails
    obtain ⟨a1, a2, a3, a4⟩ := owI_lis o2 hp.key
    obtain ⟨b1, b2, b3, b4⟩ := owB_lis o3 hp.text
    obtain ⟨c1, c2, c3, c4⟩ := owI_lis o4 hp.units
    have cc : ∀ i u, i < 8 → xs[j * 8 + i]? = some u → w.cell? ⟨g, j * 8 + i, none⟩ = some u := fun i u hi hu => by
      rw [World.ownsRow.cellAt ho (j * 8 + i) (by omega)]; exact hu
    have fz : ∀ i, w.frozen? ⟨g, i, none⟩ = false := fun i => World.ownsRow.frozenAt ho i
    refine ⟨⟨xl, lisOf kv, lisOf xv, lisOf uv, xt⟩, ⟨?_, ?_, ?_, ?_, ?_, l2, a1, b1, c1, t2⟩, ?_⟩
    · rw [l1]; exact cc 1 _ (by omega) e1
    · rw [a2]; exact cc 3 _ (by omega) e3
    · rw [b2]; exact cc 4 _ (by omega) e4
    · rw [c2]; exact cc 5 _ (by omega) e5
    · rw [t1]; exact cc 7 _ (by omega) e7
    · have hB : B ≤ g + 1 := by omega
      have s0 : TrIn w B [(⟨g, j * 8, none⟩, .i)] := fun y hy => by
        simp at hy; subst hy; exact ⟨⟨⟨_, cc 0 _ (by omega) e0⟩, fz _⟩, hlt.1, hlt.2⟩
      have s2 : TrIn w B [(⟨g, j * 8 + 2, none⟩, .o)] := fun y hy => by
        simp at hy; subst hy; exact ⟨⟨⟨_, cc 2 _ (by omega) e2⟩, fz _⟩, hlt.1, hlt.2⟩
      have s6 : TrIn w B [(⟨g, j * 8 + 6, none⟩, .i)] := fun y hy => by
        simp at hy; subst hy; exact ⟨⟨⟨_, cc 6 _ (by omega) e6⟩, fz _⟩, hlt.1, hlt.2⟩
      exact s0.app ((l3.base hB).app (s2.app ((a4.base hB).app ((b4.base hB).app ((c4.base hB).app (s6.app (t3.base hB)))))))
  haveI : Inhabited Nsh := ⟨⟨(none, [], 0), (none, 0, 0), (none, 0, 0), (none, 0, 0), (none, [], 0)⟩⟩
  obtain ⟨q, hq⟩ := Deep.choose_lt each
  have at' : ∀ (j : Nat) (n : Nsh), ((List.range ns.length).map q)[j]? = some n → j < ns.length ∧ n = q j := fun j n hj => by
    have hjl : j < ns.length := by have := (List.getElem?_eq_some_iff.1 hj).1; simpa using this
    refine ⟨hjl, ?_⟩
    simp [hjl] at hj
    exact hj.symm
  refine ⟨(some ⟨g, 0, none⟩, (List.range ns.length).map q, ns.length), by simp [Lns.v, hv], ⟨.inr ⟨g, 0, rfl, fun j n hj => ?_⟩, by simp; omega⟩, fun y hy => ?_⟩
  · obtain ⟨hjl, rfl⟩ := at' j n hj
    rw [Nat.zero_add]
    exact (hq j hjl).1
  · obtain ⟨j, n, hj, hy⟩ := trNs_mem g _ _ _ hy
    obtain ⟨hjl, rfl⟩ := at' j n hj
    rw [Nat.zero_add] at hy
    exact (hq j hjl).2 y hy
end Go.Proofs.YthcjmmpkgljjhaaGreatDoor

namespace Go.Proofs.YthcjmmpkgljjhaaGreatDoor
open Go.RowKit

/-- All blocks from B on are as they were. -/
structure Far (B : Nat) (w w' : World) : Prop where
  size : w.heap.size ≤ w'.heap.size
  block : ∀ k, B ≤ k → k < w.heap.size → w'.heap[k]? = w.heap[k]?
theorem far_grown {B : Nat} {w w' : World} (h : w.grownBy w' none) : Far B w w' := ⟨h.size, fun k _ hk => h.block k hk (by simp)⟩
theorem row_far {B : Nat} {w w' : World} {e : TypeId} {size n : Nat} {v : Value} {xs : List Value} (h : w.ownsRow B e size v n xs) (f : Far B w w') : w'.ownsRow B e size v n xs := by
  refine ⟨h.1, ?_⟩
  rcases h.2 with h1 | ⟨g, cap, cur, hv, hb, hg, rest⟩
  · exact .inl h1
  · exact .inr ⟨g, cap, cur, hv, hb, by rw [f.block g hb (Array.getElem?_eq_some_iff.1 hg).1]; exact hg, rest⟩

/-- A node with no comments. -/
def stripN (p : Nod) : Nod := { p with lead := [], tail := [] }
abbrev V3 := Value × Value × Value
/-- A node's three lists, rows of one's own. -/
def Own3 (B : Nat) (w : World) (p : Nod) (t : V3) : Prop := OwI B w t.1 p.key ∧ OwB B w t.2.1 p.text ∧ OwI B w t.2.2 p.units
theorem Own3.far {B : Nat} {w w' : World} {p : Nod} {t : V3} (h : Own3 B w p t) (f : Far B w w') : Own3 B w' p t := ⟨row_far h.1 f, row_far h.2.1 f, row_far h.2.2 f⟩
theorem Own3.later {B : Nat} {w w' : World} {p : Nod} {t : V3} (h : Own3 B w p t) (g : w.grownBy w' none) : Own3 B w' p t := h.far (far_grown g)
theorem Own3.base {B B' : Nat} {w : World} {p : Nod} {t : V3} (h : Own3 B w p t) (hB : B' ≤ B) : Own3 B' w p t := ⟨row_base hB h.1, row_base hB h.2.1, row_base hB h.2.2⟩
theorem Own3.set {B : Nat} {w : World} {p : Nod} {t : V3} (h : Own3 B w p t) (b j : Nat) (x : Value) (hb : b < B) : Own3 B (w.setCell ⟨b, j, none⟩ x) p t := ⟨h.1.setC _ _ hb, h.2.1.setC _ _ hb, h.2.2.setC _ _ hb⟩
/-- .. none of them the block r, which is written. -/
def Apr (r : Option Nat) (t : V3) : Prop := ∀ g, (t.1.ownBlock = some g ∨ t.2.1.ownBlock = some g ∨ t.2.2.ownBlock = some g) → r ≠ some g

/-- Blocks between lo and hi. -/
def InV (lo hi : Nat) (v : Value) : Prop := ∀ g, v.ownBlock = some g → lo ≤ g ∧ g < hi
def In3 (lo : Nat) (t : V3) (hi : Nat) : Prop := ∃ a b, lo ≤ a ∧ a ≤ b ∧ b ≤ hi ∧ InV lo a t.1 ∧ InV a b t.2.1 ∧ InV b hi t.2.2
/-- One list behind the other. -/
def Inc : Nat → List V3 → Nat → Prop
  | lo, [], hi => lo ≤ hi
  | lo, t :: ts, hi => ∃ m, In3 lo t m ∧ Inc m ts hi
theorem Inc.snoc {ts : List V3} {m hi : Nat} {t : V3} (ht : In3 m t hi) : ∀ {lo : Nat}, Inc lo ts m → Inc lo (ts ++ [t]) hi := by
  induction ts with
  | nil =>
    intro lo h
    obtain ⟨a, b, h1, h2, h3, h4, h5, h6⟩ := ht
    have h' : lo ≤ m := h
    exact ⟨hi, ⟨a, b, by omega, h2, h3, fun g e => by have := h4 g e; omega, h5, h6⟩, Nat.le_refl _⟩
  | cons x ts ih =>
    intro lo h
    obtain ⟨m', h1, h2⟩ := h
    exact ⟨m', h1, ih h2⟩
theorem Inc.hi {ts : List V3} {m hi : Nat} (hm : m ≤ hi) : ∀ {lo : Nat}, Inc lo ts m → Inc lo ts hi := by
  induction ts with
  | nil => intro lo h; exact Nat.le_trans h hm
  | cons x ts ih =>
    intro lo h
    obtain ⟨m', h1, h2⟩ := h
    exact ⟨m', h1, ih h2⟩
theorem Inc.le {ts : List V3} {hi : Nat} : ∀ {lo : Nat}, Inc lo ts hi → lo ≤ hi := by
  induction ts with
  | nil => intro lo h; exact h
  | cons x ts ih =>
    intro lo h
    obtain ⟨m, ⟨a, b, h1, h2, h3, _⟩, h⟩ := h
    have := ih h
    omega

/-- The place of a node that has no comments. -/
def nshOf (t : V3) : Nsh := ⟨(none, [], 0), lisOf t.1, lisOf t.2.1, lisOf t.2.2, (none, [], 0)⟩

/-- A row of nodes with no comments, of one's own: all lists apart. -/
def Bare (B : Nat) (w : World) (v : Value) (ns : List Nod) : Prop :=
  ∃ g cap xs ts, v = .slice (some ⟨g, 0, none⟩) ns.length cap ∧ w.ownsRow B 42 8 v ns.length xs ∧ ts.length = ns.length ∧ Inc (g + 1) ts w.heap.size ∧
    ∀ j p t, ns[j]? = some p → ts[j]? = some t → At8 xs (j * 8) (stripN p) (.slice none 0 0) t.1 t.2.1 t.2.2 (.slice none 0 0) ∧ Own3 (g + 1) w p t
theorem Bare.far {B : Nat} {w w' : World} {v : Value} {ns : List Nod} (h : Bare B w v ns) (f : Far B w w') : Bare B w' v ns := by
  obtain ⟨g, cap, xs, ts, hv, ho, hl, hi, ht⟩ := h
  have hlt := World.ownsRow.lt ho g (by rw [hv]; rfl)
  refine ⟨g, cap, xs, ts, hv, row_far ho f, hl, Inc.hi f.size hi, fun j p t h1 h2 => ⟨(ht j p t h1 h2).1, (ht j p t h1 h2).2.far ⟨f.size, fun k hk hk2 => f.block k (by omega) hk2⟩⟩⟩
theorem Bare.later {B : Nat} {w w' : World} {v : Value} {ns : List Nod} (h : Bare B w v ns) (g : w.grownBy w' none) : Bare B w' v ns := h.far (far_grown g)
theorem Bare.base {B B' : Nat} {w : World} {v : Value} {ns : List Nod} (h : Bare B w v ns) (hB : B' ≤ B) : Bare B' w v ns := by
  obtain ⟨g, cap, xs, ts, hv, ho, hl, hi, ht⟩ := h
  exact ⟨g, cap, xs, ts, hv, row_base hB ho, hl, hi, ht⟩

theorem rdC_nil (B : Nat) (w : World) : RdC B w (.slice none 0 0) [] := ⟨none, 0, rfl, by simp, by unfold maxLen; omega, fun h => absurd rfl h⟩
/-- Such a row reads as its nodes, however its lists lie. -/
theorem row_rdN {B : Nat} {w : World} {v : Value} {ns : List Nod} {xs : List Value} (ho : w.ownsRow B 42 8 v ns.length xs)
    (ht : ∀ j p, ns[j]? = some p → ∃ t B', At8 xs (j * 8) (stripN p) (.slice none 0 0) t.1 t.2.1 t.2.2 (.slice none 0 0) ∧ Own3 B' w p t) : RdN w.heap.size w v (ns.map stripN) := by
  rcases ho.2 with ⟨hv, hn⟩ | ⟨g, cap, cur, hv, hb, hg, hnc, hcm, _⟩
  · have : ns = [] := List.eq_nil_of_length_eq_zero hn
    subst this hv
    exact ⟨none, 0, rfl, by simp, by unfold maxLen; omega, fun h => absurd rfl h⟩
  · refine ⟨some ⟨g, 0, none⟩, cap, by rw [hv]; simp, by simpa using hnc, hcm, fun _ => ⟨g, 0, rfl, (Array.getElem?_eq_some_iff.1 hg).1, fun j q hq => ?_⟩⟩
    simp only [List.getElem?_map, Option.map_eq_some_iff] at hq
    obtain ⟨p, hp, rfl⟩ := hq
    obtain ⟨t, B', ⟨e0, e1, e2, e3, e4, e5, e6, e7⟩, o1, o2, o3⟩ := ht j p hp
    have hj := (List.getElem?_eq_some_iff.1 hp).1
    have hxl := ho.1
    rw [hv] at ho
    have cc : ∀ i u, i < 8 → xs[j * 8 + i]? = some u → w.cell? ⟨g, 0 + j * 8 + i, none⟩ = some u := fun i u hi hu => by
      rw [Nat.zero_add, World.ownsRow.cellAt ho (j * 8 + i) (by omega)]; exact hu
    exact ⟨.slice none 0 0, t.1, t.2.1, t.2.2, .slice none 0 0, cc 0 _ (by omega) e0, cc 1 _ (by omega) e1, cc 2 _ (by omega) e2, cc 3 _ (by omega) e3, cc 4 _ (by omega) e4, cc 5 _ (by omega) e5, cc 6 _ (by omega) e6, cc 7 _ (by omega) e7,
      rdC_nil _ _, o1.rd, o1.sl, o2.rd, o2.sl, o3.rd, o3.sl, rdC_nil _ _⟩
theorem Bare.rd {B : Nat} {w : World} {v : Value} {ns : List Nod} (h : Bare B w v ns) : RdN w.heap.size w v (ns.map stripN) := by
  obtain ⟨g, cap, xs, ts, hv, ho, hl, hi, ht⟩ := h
  refine row_rdN ho fun j p hp => ?_
  have hj := (List.getElem?_eq_some_iff.1 hp).1
  exact ⟨ts[j]'(by omega), _, ht j p _ hp (by simp [show j < ts.length by omega])⟩

/-- A list's trail lies in its own block. -/
theorem ow_trail {q : IntKind} {t : TypeId} {B : Nat} {w : World} {v : Value} {zs : List Int} (kd : Kd) (h : Ow q t B w v zs) : ((trL kd (lisOf v).1 (lisOf v).2.1).map (·.1)).Nodup ∧ ∀ y ∈ trL kd (lisOf v).1 (lisOf v).2.1, v.ownBlock = some y.1.block := by
  rcases h.2 with ⟨hv, h0⟩ | ⟨g, cap, cur, hv, hb, hg, hnc, hcm, hcs, ht⟩
  · subst hv
    exact ⟨by simp [lisOf, trL], fun y hy => by simp [lisOf, trL] at hy⟩
  · subst hv
    refine ⟨?_, fun y hy => ?_⟩
    · simp only [lisOf, trL, List.map_map]
      unfold List.Nodup
      rw [List.pairwise_map]
      refine List.Pairwise.imp (fun {i j} hij e => hij ?_) (List.nodup_range (n := zs.length))
      simp only [Function.comp, Addr.add_lit, Addr.mk.injEq] at e
      omega
    · obtain ⟨ad, j, ha, hj, rfl⟩ := trL_mem hy
      simp only [lisOf] at ha
      cases ha
      simp [Value.ownBlock, Addr.add_lit]

theorem nodup_app {l l' : List (Addr × Kd)} (h : (l.map (·.1)).Nodup) (h' : (l'.map (·.1)).Nodup) (ha : ∀ y ∈ l, ∀ z ∈ l', y.1 ≠ z.1) : ((l ++ l').map (·.1)).Nodup := by
  rw [List.map_append, List.nodup_append]
  refine ⟨h, h', fun a h1 b h2 => ?_⟩
  obtain ⟨y, hy, rfl⟩ := List.mem_map.1 h1
  obtain ⟨z, hz, rfl⟩ := List.mem_map.1 h2
  exact ha y hy z hz

theorem node_trail {w : World} {g o lo hi : Nat} {p : Nod} {t : V3} {B : Nat} (h : Own3 B w p t) (hin : In3 lo t hi) (hg : g < lo) :
    ((trN g o (nshOf t)).map (·.1)).Nodup ∧ ∀ y ∈ trN g o (nshOf t), (y.1.block = g ∧ o ≤ y.1.off ∧ y.1.off < o + 8) ∨ (lo ≤ y.1.block ∧ y.1.block < hi) := by
  obtain ⟨a, b, h1, h2, h3, i1, i2, i3⟩ := hin
  obtain ⟨n1, m1⟩ := ow_trail .i h.1
  obtain ⟨n2, m2⟩ := ow_trail .b h.2.1
  obtain ⟨n3, m3⟩ := ow_trail .i h.2.2
  have e : trN g o (nshOf t) = [(⟨g, o, none⟩, .i)] ++ ([(⟨g, o + 2, none⟩, .o)] ++ (trL .i (lisOf t.1).1 (lisOf t.1).2.1 ++ (trL .b (lisOf t.2.1).1 (lisOf t.2.1).2.1 ++ (trL .i (lisOf t.2.2).1 (lisOf t.2.2).2.1 ++ [(⟨g, o + 6, none⟩, .i)])))) := by
    simp [trN, nshOf, trK]
  rw [e]
  have k1 : ∀ y ∈ trL .i (lisOf t.1).1 (lisOf t.1).2.1, lo ≤ y.1.block ∧ y.1.block < a := fun y hy => i1 _ (m1 y hy)
  have k2 : ∀ y ∈ trL .b (lisOf t.2.1).1 (lisOf t.2.1).2.1, a ≤ y.1.block ∧ y.1.block < b := fun y hy => i2 _ (m2 y hy)
  have k3 : ∀ y ∈ trL .i (lisOf t.2.2).1 (lisOf t.2.2).2.1, b ≤ y.1.block ∧ y.1.block < hi := fun y hy => i3 _ (m3 y hy)
  have s6 : ∀ y ∈ [((⟨g, o + 6, none⟩ : Addr), Kd.i)], y.1.block = g ∧ y.1.off = o + 6 := fun y hy => by simp at hy; subst hy; exact ⟨rfl, rfl⟩
  have s2 : ∀ y ∈ [((⟨g, o + 2, none⟩ : Addr), Kd.o)], y.1.block = g ∧ y.1.off = o + 2 := fun y hy => by simp at hy; subst hy; exact ⟨rfl, rfl⟩
  have s0 : ∀ y ∈ [((⟨g, o, none⟩ : Addr), Kd.i)], y.1.block = g ∧ y.1.off = o := fun y hy => by simp at hy; subst hy; exact ⟨rfl, rfl⟩
  have ne : ∀ {y z : Addr}, y.block ≠ z.block ∨ y.off ≠ z.off → y ≠ z := fun h e => by subst e; rcases h with h | h <;> exact h rfl
  refine ⟨?_, ?_⟩
  · refine nodup_app (by simp) (nodup_app (by simp) (nodup_app n1 (nodup_app n2 (nodup_app n3 (by simp) ?_) ?_) ?_) ?_) ?_
    · intro y hy z hz
      have := k3 y hy; have := s6 z hz
      exact ne (by omega)
    · intro y hy z hz
      have := k2 y hy
      rcases List.mem_append.1 hz with hz | hz
      · have := k3 z hz; exact ne (by omega)
      · have := s6 z hz; exact ne (by omega)
    · intro y hy z hz
      have := k1 y hy
      rcases List.mem_append.1 hz with hz | hz
      · have := k2 z hz; exact ne (by omega)
      rcases List.mem_append.1 hz with hz | hz
      · have := k3 z hz; exact ne (by omega)
      · have := s6 z hz; exact ne (by omega)
    · intro y hy z hz
      have := s2 y hy
      rcases List.mem_append.1 hz with hz | hz
      · have := k1 z hz; exact ne (by omega)
      rcases List.mem_append.1 hz with hz | hz
      · have := k2 z hz; exact ne (by omega)
      rcases List.mem_append.1 hz with hz | hz
      · have := k3 z hz; exact ne (by omega)
      · have := s6 z hz; exact ne (by omega)
    · intro y hy z hz
      have := s0 y hy
      rcases List.mem_append.1 hz with hz | hz
      · have := s2 z hz; exact ne (by omega)
      rcases List.mem_append.1 hz with hz | hz
      · have := k1 z hz; exact ne (by omega)
      rcases List.mem_append.1 hz with hz | hz
      · have := k2 z hz; exact ne (by omega)
      rcases List.mem_append.1 hz with hz | hz
      · have := k3 z hz; exact ne (by omega)
      · have := s6 z hz; exact ne (by omega)
  · intro y hy
    rcases List.mem_append.1 hy with hy | hy
    · have := s0 y hy; omega
    rcases List.mem_append.1 hy with hy | hy
    · have := s2 y hy; omega
    rcases List.mem_append.1 hy with hy | hy
    · have := k1 y hy; omega
    rcases List.mem_append.1 hy with hy | hy
    · have := k2 y hy; omega
    rcases List.mem_append.1 hy with hy | hy
    · have := k3 y hy; omega
    · have := s6 y hy; omega
theorem nodes_trail {w : World} {g B : Nat} : ∀ (ts : List V3) (off lo hi : Nat), (∀ t ∈ ts, ∃ p, Own3 B w p t) → Inc lo ts hi → g < lo →
    ((trNs g off (ts.map nshOf)).map (·.1)).Nodup ∧ ∀ y ∈ trNs g off (ts.map nshOf), (y.1.block = g ∧ off ≤ y.1.off) ∨ (lo ≤ y.1.block ∧ y.1.block < hi)
  | [], off, lo, hi, _, _, _ => ⟨by simp [trNs], fun y hy => by simp [trNs] at hy⟩
  | t :: ts, off, lo, hi, ht, ⟨m, h1, h2⟩, hg => by
    obtain ⟨p, hp⟩ := ht t (by simp)
    obtain ⟨n1, m1⟩ := node_trail (g := g) (o := off) hp h1 hg
    obtain ⟨a, b, q1, q2, q3, _⟩ := h1
    obtain ⟨n2, m2⟩ := nodes_trail (g := g) ts (off + 8) m hi (fun t h => ht t (by simp [h])) h2 (by omega)
    have hle := h2.le
    simp only [List.map_cons, trNs]
    refine ⟨nodup_app n1 n2 fun y hy z hz e => ?_, fun y hy => ?_⟩
    · have := m1 y hy
      have := m2 z hz
      have e1 : y.1.block = z.1.block := by rw [e]
      have e2 : y.1.off = z.1.off := by rw [e]
      omega
    · rcases List.mem_append.1 hy with hy | hy
      · have := m1 y hy; omega
      · have := m2 y hy; omega

/-- The shape of such a row. -/
theorem bare_lns {B : Nat} {w : World} {v : Value} {ns : List Nod} (h : Bare B w v ns) (hn : ns.length ≤ 1048576) (hok : ∀ p ∈ ns, NOk p) :
    ∃ x : Lns, x.v = v ∧ Lns.ok w x ∧ (∀ n ∈ x.2.1, n.lead.2.1 = [] ∧ n.tail.2.1 = []) ∧ TrIn w B (trM x) ∧ ((trM x).map (·.1)).Nodup := by
  obtain ⟨g, cap, xs, ts, hv, ho, hl, hi, ht⟩ := h
  have hlt := World.ownsRow.lt ho g (by rw [hv]; rfl)
  have hxl := ho.1
  rw [hv] at ho
  have hmem : ∀ t ∈ ts, ∃ p, Own3 (g + 1) w p t := fun t h => by
    obtain ⟨j, hj, rfl⟩ := List.getElem_of_mem h
    exact ⟨ns[j]'(by omega), (ht j _ _ (by simp [show j < ns.length by omega]) (by simp [hj])).2⟩
  obtain ⟨nd, _⟩ := nodes_trail (g := g) ts 0 (g + 1) w.heap.size hmem hi (by omega)
  have each : ∀ (j : Nat) (n : Nsh), (ts.map nshOf)[j]? = some n → ∃ t p, ns[j]? = some p ∧ ts[j]? = some t ∧ n = nshOf t ∧ NOk p ∧ At8 xs (j * 8) (stripN p) (.slice none 0 0) t.1 t.2.1 t.2.2 (.slice none 0 0) ∧ Own3 (g + 1) w p t := fun j n hj => by
    simp only [List.getElem?_map, Option.map_eq_some_iff] at hj
    obtain ⟨t, htj, rfl⟩ := hj
    have hjl := (List.getElem?_eq_some_iff.1 htj).1
    have hp : ns[j]? = some (ns[j]'(by omega)) := by simp [show j < ns.length by omega]
    exact ⟨t, _, hp, htj, rfl, hok _ (List.getElem_mem _), ht j _ t hp htj⟩
  have cc : ∀ (j i : Nat) (u : Value), j < ns.length → i < 8 → xs[j * 8 + i]? = some u → w.cell? ⟨g, j * 8 + i, none⟩ = some u := fun j i u hj hi hu => by
    rw [World.ownsRow.cellAt ho (j * 8 + i) (by omega)]; exact hu
  have fz : ∀ i, w.frozen? ⟨g, i, none⟩ = false := fun i => World.ownsRow.frozenAt ho i
  have okn : Lcs.ok w (none, [], 0) := ⟨.inl rfl, by simp⟩
  refine ⟨(some ⟨g, 0, none⟩, ts.map nshOf, cap), by simp [Lns.v, hv, hl], ⟨.inr ⟨g, 0, rfl, fun j n hj => ?_⟩, by simp [hl]; omega⟩, fun n hn => ?_, fun y hy => ?_, nd⟩
  · obtain ⟨t, p, hp, _, rfl, hk, ⟨e0, e1, e2, e3, e4, e5, e6, e7⟩, o1, o2, o3⟩ := each j n hj
    have hjl := (List.getElem?_eq_some_iff.1 hp).1
    obtain ⟨a1, a2, a3, a4⟩ := owI_lis o1 hk.key
    obtain ⟨b1, b2, b3, b4⟩ := owB_lis o2 hk.text
    obtain ⟨c1, c2, c3, c4⟩ := owI_lis o3 hk.units
    rw [Nat.zero_add]
    refine ⟨cc j 1 _ hjl (by omega) e1, ?_, ?_, ?_, cc j 7 _ hjl (by omega) e7, okn, a1, b1, c1, okn⟩
    · show w.cell? _ = some (lisOf t.1).v; rw [a2]; exact cc j 3 _ hjl (by omega) e3
    · show w.cell? _ = some (lisOf t.2.1).v; rw [b2]; exact cc j 4 _ hjl (by omega) e4
    · show w.cell? _ = some (lisOf t.2.2).v; rw [c2]; exact cc j 5 _ hjl (by omega) e5
  · simp only [List.mem_map] at hn
    obtain ⟨t, _, rfl⟩ := hn
    exact ⟨rfl, rfl⟩
  · obtain ⟨j, n, hj, hy⟩ := trNs_mem g _ _ _ hy
    obtain ⟨t, p, hp, _, rfl, hk, ⟨e0, e1, e2, e3, e4, e5, e6, e7⟩, o1, o2, o3⟩ := each j n hj
    have hjl := (List.getElem?_eq_some_iff.1 hp).1
    obtain ⟨a1, a2, a3, a4⟩ := owI_lis o1 hk.key
    obtain ⟨b1, b2, b3, b4⟩ := owB_lis o2 hk.text
    obtain ⟨c1, c2, c3, c4⟩ := owI_lis o3 hk.units
    have hB : B ≤ g + 1 := by omega
    rw [Nat.zero_add] at hy
    have s0 : TrIn w B [(⟨g, j * 8, none⟩, .i)] := fun y hy => by
      simp at hy; subst hy; exact ⟨⟨⟨_, cc j 0 _ hjl (by omega) e0⟩, fz _⟩, hlt.1, hlt.2⟩
    have s2 : TrIn w B [(⟨g, j * 8 + 2, none⟩, .o)] := fun y hy => by
      simp at hy; subst hy; exact ⟨⟨⟨_, cc j 2 _ hjl (by omega) e2⟩, fz _⟩, hlt.1, hlt.2⟩
    have s6 : TrIn w B [(⟨g, j * 8 + 6, none⟩, .i)] := fun y hy => by
      simp at hy; subst hy; exact ⟨⟨⟨_, cc j 6 _ hjl (by omega) e6⟩, fz _⟩, hlt.1, hlt.2⟩
    have nl : TrIn w B (trK (none, [], 0)) := fun y hy => by simp [trK] at hy
    exact (s0.app (nl.app (s2.app ((a4.base hB).app ((b4.base hB).app ((c4.base hB).app (s6.app nl))))))) y hy
end Go.Proofs.YthcjmmpkgljjhaaGreatDoor

