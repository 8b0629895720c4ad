import Derived.Handy
import Derived.Deep.RegionWith
import Derived.Test.YtakkdniikhgpdaaGreatDoorMAA
import Derived.Test.YtakkdniikhgpdaaGreatDoorMAF
import Derived.Test.YtakkdniikhgpdaaGreatDoorMAG
import Derived.Test.YtakkdniikhgpdaaGreatDoorMAJ
import Derived.Test.YtakkdniikhgpdaaGreatDoorNBB
namespace Go.Proofs.YtakkdniikhgpdaaGreatDoor
open Go.RowKit

end Go.Proofs.YtakkdniikhgpdaaGreatDoor

namespace Go.Proofs.YtakkdniikhgpdaaGreatDoor
open Go.RowKit

theorem rdB_belowB {B : Nat} {w w' : World} {v : Value} {zs : List Int} (hv : RdB B w v zs) (hb : Below B w w') : RdB B w' v zs := by
  obtain ⟨a, cap, e, hr⟩ := hv
  refine ⟨a, cap, e, fun h0 => ?_⟩
  obtain ⟨b, off, ha, hb2, hc⟩ := hr h0
  exact ⟨b, off, ha, hb2, fun j hj => (hb.cell hb2).trans (hc j hj)⟩

end Go.Proofs.YtakkdniikhgpdaaGreatDoor

namespace Go.Proofs.YtakkdniikhgpdaaGreatDoor
open Go.RowKit

end Go.Proofs.YtakkdniikhgpdaaGreatDoor

namespace Go.Proofs.YtakkdniikhgpdaaGreatDoor
open Go.RowKit

end Go.Proofs.YtakkdniikhgpdaaGreatDoor

namespace Go.Proofs.YtakkdniikhgpdaaGreatDoor
open Go.RowKit

/-- Blocks below B, and those from H on, are as they were. -/
structure FrP (B H : Nat) (w w' : World) : Prop where
  os : w'.os = w.os
  tape : w'.tape = w.tape
  output : w'.output = w.output
  size : w.heap.size ≤ w'.heap.size
  block : ∀ b, b < w.heap.size → (b < B ∨ H ≤ b) → w'.heap[b]? = w.heap[b]?
theorem FrP.refl (B H : Nat) (w : World) : FrP B H w w := ⟨rfl, rfl, rfl, Nat.le_refl _, fun _ _ _ => rfl⟩
theorem FrP.grown {B H : Nat} {w w1 w2 : World} (h : FrP B H w w1) {row : Option Nat} (hg : w1.grownBy w2 row) (hr : ∀ g, row = some g → B ≤ g ∧ g < H) : FrP B H w w2 :=
  ⟨hg.os.trans h.os, hg.tape.trans h.tape, hg.output.trans h.output, Nat.le_trans h.size hg.size, fun b hb hx => (hg.block b (Nat.lt_of_lt_of_le hb h.size) (fun e => by have := hr b e.symm; omega)).trans (h.block b hb hx)⟩
theorem FrP.below {B H : Nat} {w w' : World} (h : FrP B H w w') (hB : B ≤ w.heap.size) : Below B w w' :=
  ⟨h.os, h.tape, h.output, h.size, fun b hb => h.block b (by omega) (.inl hb)⟩
theorem FrP.row {B H b0 : Nat} {w w' : World} (h : FrP B H w w') {e : TypeId} {size n : Nat} {v : Value} {xs : List Value} (ho : w.ownsRow b0 e size v n xs) (hx : ∀ g, v.ownBlock = some g → g < B ∨ H ≤ g) : w'.ownsRow b0 e size v n xs := by
  refine ⟨ho.1, ?_⟩
  rcases ho.2 with h1 | ⟨g, cap, cur, hv, hb, hg, rest⟩
  · exact .inl h1
  · exact .inr ⟨g, cap, cur, hv, hb, (h.block g (Array.getElem?_eq_some_iff.1 hg).1 (hx g (by rw [hv]; rfl))).trans hg, rest⟩

/-- What a mark lays into a file. -/
def marked (t : Int) (p : Fl) : Fl := ⟨upto (markB t) p.n.length, upto (markB (t + p.n.length)) p.d.length, t + p.n.length + p.d.length⟩
def totM : List Fl → Int
  | [] => 0
  | p :: ps => p.n.length + p.d.length + 1 + totM ps
def mkF : Int → List Fl → List Fl
  | _, [] => []
  | s, p :: ps => marked s p :: mkF (s + (p.n.length + p.d.length + 1)) ps
theorem totM_snoc : ∀ (L : List Fl) (p : Fl), totM (L ++ [p]) = totM L + (p.n.length + p.d.length + 1)
  | [], p => by simp [totM]
  | q :: L, p => by simp only [List.cons_append, totM, totM_snoc L p]; omega
theorem mkF_snoc : ∀ (s : Int) (L : List Fl) (p : Fl), mkF s (L ++ [p]) = mkF s L ++ [marked (s + totM L) p]
  | s, [], p => by simp [mkF, totM]
  | s, q :: L, p => by
    simp only [List.cons_append, mkF, mkF_snoc _ L p, totM]
    rw [show s + (q.n.length + q.d.length + 1) + totM L = s + (q.n.length + q.d.length + 1 + totM L) by omega]
theorem mkF_len : ∀ (s : Int) (L : List Fl), (mkF s L).length = L.length
  | _, [] => rfl
  | s, q :: L => by simp [mkF, mkF_len _ L]
theorem totM_nonneg : ∀ L, 0 ≤ totM L
  | [] => by simp [totM]
  | q :: L => by have := totM_nonneg L; simp only [totM]; omega
theorem totM_take_le : ∀ (L : List Fl) (k : Nat), totM (L.take k) ≤ totM L
  | [], k => by simp
  | q :: L, 0 => by have := totM_nonneg (q :: L); simpa [totM] using this
  | q :: L, k + 1 => by have := totM_take_le L k; simp only [List.take_succ_cons, totM]; omega
def mixF (s : Int) (fs : List Fl) (k : Nat) : List Fl := mkF s (fs.take k) ++ fs.drop k
theorem mix_len (s : Int) (fs : List Fl) (k : Nat) : (mixF s fs k).length = fs.length := by simp [mixF, mkF_len]; omega
theorem mix_at (s : Int) (fs : List Fl) (k : Nat) (hk : k < fs.length) : (mixF s fs k)[k]? = some fs[k] := by
  unfold mixF
  rw [List.getElem?_append_right (by simp [mkF_len]; omega), List.drop_eq_getElem_cons hk]
  simp [mkF_len, Nat.min_eq_left (Nat.le_of_lt hk)]
theorem mix_step (s : Int) (fs : List Fl) (k : Nat) (hk : k < fs.length) : (mixF s fs k).set k (marked (s + totM (fs.take k)) fs[k]) = mixF s fs (k + 1) := by
  have hl : (mkF s (fs.take k)).length = k := by simp [mkF_len]; omega
  unfold mixF
  rw [List.take_add_one, List.getElem?_eq_getElem hk]
  show _ = mkF s (fs.take k ++ [fs[k]]) ++ _
  rw [mkF_snoc, List.set_append_right _ _ (by omega), show k - (mkF s (fs.take k)).length = 0 by omega, List.drop_eq_getElem_cons hk, List.set_cons_zero, List.append_assoc]
  rfl

/-- Texts at different places are apart. -/
theorem pairs_at : ∀ (xs : List (Value × Value)) (k : Nat) (x : Value × Value), xs[k]? = some x → (pairs xs)[2 * k]? = some x.1 ∧ (pairs xs)[2 * k + 1]? = some x.2
  | y :: ys, 0, x, h => by simp at h; subst h; simp [pairs]
  | y :: ys, k + 1, x, h => by
    have := pairs_at ys k x (by simpa using h)
    rw [show 2 * (k + 1) = 2 * k + 1 + 1 by omega, show 2 * k + 1 + 1 + 1 = 2 * k + 1 + 1 + 1 by omega]
    simpa [pairs] using this
  | [], _, _, h => by simp at h
theorem Apt.symm {a b : Value} (h : Apt a b) : Apt b a := fun g h1 h2 => h g h2 h1
theorem apt_at {l : List Value} (h : l.Pairwise Apt) {i j : Nat} {a b : Value} (hi : l[i]? = some a) (hj : l[j]? = some b) (hne : i ≠ j) : Apt a b := by
  obtain ⟨hi1, hi2⟩ := List.getElem?_eq_some_iff.1 hi
  obtain ⟨hj1, hj2⟩ := List.getElem?_eq_some_iff.1 hj
  rw [List.pairwise_iff_getElem] at h
  rcases Nat.lt_or_gt_of_ne hne with hlt | hlt
  · have := h i j hi1 hj1 hlt; rw [hi2, hj2] at this; exact this
  · have := h j i hj1 hi1 hlt; rw [hi2, hj2] at this; exact this.symm

theorem Ow.apart {q : IntKind} {t : TypeId} {B : Nat} {w w' : World} {v u : Value} {zs : List Int} (h : Ow q t B w v zs) (hg : w.grownBy w' u.ownBlock) (ha : Apt u v) : Ow q t B w' v zs :=
  h.beside hg (fun k hk j hj e => by subst e; exact ha k hj hk)

/-- The name of file k is written over. -/
theorem TxF.name {B : Nat} {w w' : World} {g : Option Nat} {L : List Fl} {xs : List (Value × Value)} {k : Nat} {p : Fl} {x : Value × Value} (h : TxF B w g L xs) (hp : L[k]? = some p) (hx : xs[k]? = some x) (hg : w.grownBy w' x.1.ownBlock) {n' : List Int} (ho : OwB B w' x.1 n') :
    TxF B w' g (L.set k ⟨n', p.d, p.s⟩) xs := by
  have hk := (List.getElem?_eq_some_iff.1 hp).1
  refine ⟨by simp [h.len], fun j q y hq hy => ?_, h.apart⟩
  by_cases hjk : k = j
  · subst hjk
    rw [hx] at hy; cases hy
    simp [hk] at hq
    subst hq
    obtain ⟨o1, o2, o3⟩ := h.own k p x hp hx
    exact ⟨ho, o2.apart hg (apt_at h.apart (pairs_at xs k x hx).1 (pairs_at xs k x hx).2 (by omega)), o3⟩
  · rw [List.getElem?_set_ne hjk] at hq
    obtain ⟨o1, o2, o3⟩ := h.own j q y hq hy
    exact ⟨o1.apart hg (apt_at h.apart (pairs_at xs k x hx).1 (pairs_at xs j y hy).1 (by omega)), o2.apart hg (apt_at h.apart (pairs_at xs k x hx).1 (pairs_at xs j y hy).2 (by omega)), o3⟩
theorem TxF.data {B : Nat} {w w' : World} {g : Option Nat} {L : List Fl} {xs : List (Value × Value)} {k : Nat} {p : Fl} {x : Value × Value} (h : TxF B w g L xs) (hp : L[k]? = some p) (hx : xs[k]? = some x) (hg : w.grownBy w' x.2.ownBlock) {d' : List Int} (ho : OwB B w' x.2 d') :
    TxF B w' g (L.set k ⟨p.n, d', p.s⟩) xs := by
  have hk := (List.getElem?_eq_some_iff.1 hp).1
  refine ⟨by simp [h.len], fun j q y hq hy => ?_, h.apart⟩
  by_cases hjk : k = j
  · subst hjk
    rw [hx] at hy; cases hy
    simp [hk] at hq
    subst hq
    obtain ⟨o1, o2, o3⟩ := h.own k p x hp hx
    exact ⟨o1.apart hg (apt_at h.apart (pairs_at xs k x hx).2 (pairs_at xs k x hx).1 (by omega)), ho, o3⟩
  · rw [List.getElem?_set_ne hjk] at hq
    obtain ⟨o1, o2, o3⟩ := h.own j q y hq hy
    exact ⟨o1.apart hg (apt_at h.apart (pairs_at xs k x hx).2 (pairs_at xs j y hy).1 (by omega)), o2.apart hg (apt_at h.apart (pairs_at xs k x hx).2 (pairs_at xs j y hy).2 (by omega)), o3⟩
theorem TxF.safe {B : Nat} {w : World} {g : Option Nat} {L : List Fl} {xs : List (Value × Value)} {k : Nat} {p : Fl} (h : TxF B w g L xs) (hp : L[k]? = some p) (s' : Int) : TxF B w g (L.set k ⟨p.n, p.d, s'⟩) xs := by
  have hk := (List.getElem?_eq_some_iff.1 hp).1
  refine ⟨by simp [h.len], fun j q y hq hy => ?_, h.apart⟩
  by_cases hjk : k = j
  · subst hjk
    simp [hk] at hq
    subst hq
    exact h.own k p y hp hy
  · rw [List.getElem?_set_ne hjk] at hq
    exact h.own j q y hq hy
theorem cellsF_same : ∀ (L : List Fl) (xs : List (Value × Value)) (k : Nat) (p p' : Fl), L[k]? = some p → p'.s = p.s → cellsF (L.set k p') xs = cellsF L xs
  | q :: L, x :: xs, 0, p, p', h, hs => by simp at h; subst h; simp [cellsF, hs]
  | q :: L, x :: xs, k + 1, p, p', h, hs => by simp only [List.set_cons_succ, cellsF, cellsF_same L xs k p p' (by simpa using h) hs]
  | _ :: _, [], 0, _, _, _, _ => rfl
  | _ :: _, [], _ + 1, _, _, _, _ => rfl
  | [], _, _, _, _, h, _ => by simp at h
theorem cellsF_setS : ∀ (L : List Fl) (xs : List (Value × Value)) (k : Nat) (p' : Fl), xs.length = L.length → k < L.length → cellsF (L.set k p') xs = (cellsF L xs).set (k * 3 + 2) (.int .i64 p'.s)
  | q :: L, x :: xs, 0, p', _, _ => rfl
  | q :: L, x :: xs, k + 1, p', h, hk => by
    rw [List.set_cons_succ]
    show x.1 :: x.2 :: Value.int .i64 q.s :: cellsF _ _ = _
    rw [cellsF_setS L xs k p' (by simpa using h) (by simpa using hk), show (k + 1) * 3 + 2 = k * 3 + 2 + 1 + 1 + 1 by omega]
    rfl
  | _ :: _, [], _, _, h, _ => by simp at h
  | [], _, _, _, _, hk => by simp at hk

/-- A row of files of one's own, all of whose blocks lie below H. -/
def OwFH (B H : Nat) (w : World) (v : Value) (fs : List Fl) : Prop :=
  ∃ xs : List (Value × Value), w.ownsRow B 45 3 v fs.length (cellsF fs xs) ∧ TxF B w v.ownBlock fs xs ∧ (∀ g, v.ownBlock = some g → g < H) ∧ ∀ u ∈ pairs xs, ∀ g, u.ownBlock = some g → g < H
theorem OwF.high {B : Nat} {w : World} {v : Value} {fs : List Fl} (h : OwF B w v fs) : OwFH B w.heap.size w v fs := by
  obtain ⟨xs, ho, ht⟩ := h
  exact ⟨xs, ho, ht, fun g hg => (World.ownsRow.lt ho g hg).2, fun u hu g hg => (ht.lt hu hg).2⟩
theorem OwFH.low {B H : Nat} {w : World} {v : Value} {fs : List Fl} (h : OwFH B H w v fs) : OwF B w v fs := by
  obtain ⟨xs, ho, ht, _⟩ := h
  exact ⟨xs, ho, ht⟩
theorem OwFH.later {B H : Nat} {w w' : World} {v : Value} {fs : List Fl} (h : OwFH B H w v fs) (hg : w.grownBy w' none) : OwFH B H w' v fs := by
  obtain ⟨xs, ho, ht, h1, h2⟩ := h
  exact ⟨xs, World.ownsRow.kept ho hg (by cases v.ownBlock <;> simp), ht.keep hg, h1, h2⟩
/-- .. where only other blocks were written. -/
theorem FrP.ofF {B H b0 : Nat} {w w' : World} (h : FrP B H w w') {v : Value} {fs : List Fl} (ho : OwF b0 w v fs) (hx : ∀ (b : Nat), b0 ≤ b → b < w.heap.size → b < B ∨ H ≤ b) : OwF b0 w' v fs := by
  obtain ⟨xs, hr, ht⟩ := ho
  refine ⟨xs, h.row hr (fun g hg => by have := World.ownsRow.lt hr g hg; exact hx g this.1 this.2), ht.len, fun j p x h1 h2 => ?_, ht.apart⟩
  obtain ⟨o1, o2, o3⟩ := ht.own j p x h1 h2
  exact ⟨h.row o1 (fun g hg => by have := World.ownsRow.lt o1 g hg; exact hx g this.1 this.2), h.row o2 (fun g hg => by have := World.ownsRow.lt o2 g hg; exact hx g this.1 this.2), o3⟩

end Go.Proofs.YtakkdniikhgpdaaGreatDoor

namespace Go.Proofs.YtakkdniikhgpdaaGreatDoor
open Go.RowKit

end Go.Proofs.YtakkdniikhgpdaaGreatDoor

namespace Go.Proofs.YtakkdniikhgpdaaGreatDoor
open Go.RowKit

theorem totM_bd : ∀ fs : List Fl, totM fs = fs.length + tot fs
  | [] => rfl
  | p :: ps => by simp only [totM, tot, totM_bd ps, List.length_cons]; omega
/-- Over a write into one block that is none of the row's and none of its texts'. -/
theorem owF_beside {B : Nat} {w w' : World} {v : Value} {fs : List Fl} {row : Option Nat} (h : OwF B w v fs) (hg : w.grownBy w' row) (hr : ∀ k, row = some k → ∀ b, B ≤ b → b < w.heap.size → b ≠ k) : OwF B w' v fs := by
  obtain ⟨xs, ho, ht⟩ := h
  have keep : ∀ {e : TypeId} {size n : Nat} {u : Value} {l : List Value}, w.ownsRow B e size u n l → w'.ownsRow B e size u n l := by
    intro e size n u l hu
    refine World.ownsRow.kept hu hg ?_
    cases hv : u.ownBlock with
    | none => exact .inl rfl
    | some k => exact .inr (fun e => by have := World.ownsRow.lt hu k hv; exact hr k e.symm k this.1 this.2 rfl)
  exact ⟨xs, keep ho, ht.len, fun j p x h1 h2 => by obtain ⟨o1, o2, o3⟩ := ht.own j p x h1 h2; exact ⟨keep o1, keep o2, o3⟩, ht.apart⟩

theorem grown_cellF {w w' : World} {row : Option Nat} (g : w.grownBy w' row) {b o : Nat} {u : Value} (hc : w.cell? ⟨b, o, none⟩ = some u) (hn : ∀ k, row = some k → k ≠ b) : w'.cell? ⟨b, o, none⟩ = some u :=
  g.cell hc (fun e => hn b e.symm rfl)
theorem FrP.cellF {B H : Nat} {w w' : World} (h : FrP B H w w') {b o : Nat} {u : Value} (hc : w.cell? ⟨b, o, none⟩ = some u) (hx : b < B ∨ H ≤ b) : w'.cell? ⟨b, o, none⟩ = some u :=
  (World.cell?_of_block (h.block b (World.block_lt_of_cell? w _ hc) hx)).trans hc
theorem OwFH.keepF {b0 h0 : Nat} {w w' : World} {v : Value} {fs : List Fl} (h : OwFH b0 h0 w v fs) (hk : ∀ {e : TypeId} {size n : Nat} {u : Value} {l : List Value}, w.ownsRow b0 e size u n l → (∀ g, u.ownBlock = some g → b0 ≤ g ∧ g < h0) → w'.ownsRow b0 e size u n l) : OwFH b0 h0 w' v fs := by
  obtain ⟨xs, ho, ht, h1, h2⟩ := h
  refine ⟨xs, hk ho (fun g hg => ⟨(World.ownsRow.lt ho g hg).1, h1 g hg⟩), ⟨ht.len, fun j p x hp hx => ?_, ht.apart⟩, h1, h2⟩
  obtain ⟨o1, o2, o3⟩ := ht.own j p x hp hx
  obtain ⟨m1, m2⟩ := pairs_at xs j x hx
  exact ⟨hk o1 (fun g hg => ⟨(World.ownsRow.lt o1 g hg).1, h2 _ (List.mem_of_getElem? m1) g hg⟩), hk o2 (fun g hg => ⟨(World.ownsRow.lt o2 g hg).1, h2 _ (List.mem_of_getElem? m2) g hg⟩), o3⟩
theorem FrP.ofFH {B H b0 h0 : Nat} {w w' : World} (h : FrP B H w w') {v : Value} {fs : List Fl} (ho : OwFH b0 h0 w v fs) (hx : h0 ≤ B ∨ H ≤ b0) : OwFH b0 h0 w' v fs :=
  ho.keepF (fun hu hg => h.row hu (fun g e => by have := hg g e; omega))
theorem owFH_beside {b0 h0 : Nat} {w w' : World} {v : Value} {fs : List Fl} {row : Option Nat} (h : OwFH b0 h0 w v fs) (hg : w.grownBy w' row) (hr : ∀ k, row = some k → k < b0 ∨ h0 ≤ k) : OwFH b0 h0 w' v fs :=
  h.keepF (fun {_ _ _ u _} hu hb => World.ownsRow.kept hu hg (by
    cases hv : u.ownBlock with
    | none => exact .inl rfl
    | some k => exact .inr (fun e => by have := hb k hv; have := hr k e.symm; omega)))

end Go.Proofs.YtakkdniikhgpdaaGreatDoor

namespace Go.Proofs.YtakkdniikhgpdaaGreatDoor
open Go.RowKit

theorem sameB_false_of {za zb : List Int} (k : Nat) (h : za[k]?.getD 0 ≠ zb[k]?.getD 0) : decide (za = zb) = false := by
  simp only [decide_eq_false_iff_not]; intro e; exact h (by rw [e])

set_option maxHeartbeats 400000 in
set_option maxRecDepth 100000 in
theorem sameB_any (va vb : Value) (za zb : List Int) (w : World) (ha : Rd .u8 w.heap.size w va za) (hb : Rd .u8 w.heap.size w vb zb) (hn : za.length ≤ 600000000) :
    Calls Tryz.prog 12 #[va, vb] w fun e w' => e = .returned (.bool (decide (za = zb))) ∧ ∃ m, w' = w.drewN m := by
  obtain ⟨a, capa, rfl, hra⟩ := ha
  obtain ⟨b, capb, rfl, hrb⟩ := hb
  by_cases hl : za.length = zb.length
  · have hne : ((za.length : Int) != (zb.length : Int)) = false := by simp [hl]
    have HL : Hid (za.length = zb.length) := hl
    clear hl
    go_enter Tryz.func12, Tryz.ntmps12
    go_wp2
    go_loopw [5] (fun i wr => ∃ k m : Nat, k ≤ za.length ∧ i = .int .i64 k ∧ za.take k = zb.take k ∧ wr = w.drewN m)
      (fun i _ => za.length - (intOf i).toNat)
    case atStart => exact ⟨0, 0, Nat.zero_le _, rfl, by simp, rfl⟩
    case round =>
      obtain ⟨k, m, hk, rfl, ht, hwr⟩ := hrel
      subst hwr
      by_cases hlt : k < za.length
      · have hlt2 : k < zb.length := by rw [← HL.out]; exact hlt
        obtain ⟨ba, offa, rfl, hba, hca⟩ := hra (fun h => by simp [h] at hlt)
        obtain ⟨bb, offb, rfl, hbb, hcb⟩ := hrb (fun h => by simp [h] at hlt2)
        have hxa := hca k hlt
        have hxb := hcb k hlt2
        have hta := take_snoc za k hlt
        have htb := take_snoc zb k hlt2
        have hla : (k : Int) < (za.length : Int) := by omega
        have hlb : (k : Int) < (zb.length : Int) := by omega
        clear hca hcb hra hrb
        by_cases hz : za[k]?.getD 0 = zb[k]?.getD 0
        · have HT : Hid (za.take (k + 1) = zb.take (k + 1)) := by unfold Hid; rw [hta, htb, ht, hz]
          clear hta htb ht
          rw [← hz] at hxb
          clear hz
          generalize za[k]?.getD 0 = z at hxa hxb
          go_wp2
          go_quiet (fail)
          go_wp2
          go_roundw
          case rel => exact ⟨k + 1, _, by omega, by go_num, HT.out, rfl⟩
          case measure => simp [intOf]; omega
        · have HF : Hid (decide (za = zb) = false) := sameB_false_of k hz
          generalize za[k]?.getD 0 = z at hxa hz
          generalize zb[k]?.getD 0 = z2 at hxb hz
          clear hta htb ht
          have hz2 : (z != z2) = true := by simp [hz]
          clear hz
          go_wp2
          go_quiet (fail)
          go_wp2
          go_ret
          exact ⟨by rw [HF.out]; rfl, m + nq, by rw [World.drewN_drewN]⟩
      · have HF : Hid (decide (za = zb) = true) := by
          unfold Hid
          rw [List.take_of_length_le (by omega), List.take_of_length_le (by have := HL.out; omega)] at ht
          simp [ht]
        clear ht
        go_wp2
        go_ret
        exact ⟨by rw [HF.out]; rfl, _, rfl⟩
  · have hne : ((za.length : Int) != (zb.length : Int)) = true := by simp; omega
    have HF : Hid (decide (za = zb) = false) := by
      unfold Hid
      simp only [decide_eq_false_iff_not]; intro e; exact hl (by rw [e])
    clear hl
    go_enter Tryz.func12, Tryz.ntmps12
    go_wp2
    go_ret
    exact ⟨by rw [HF.out]; rfl, 0, rfl⟩

theorem sameB_same (va vb : Value) (zs : List Int) (w : World) (ha : Rd .u8 w.heap.size w va zs) (hb : Rd .u8 w.heap.size w vb zs) (hn : zs.length ≤ 600000000) :
    Calls Tryz.prog 12 #[va, vb] w fun e w' => e = .returned (.bool true) ∧ w.grownBy w' none := by
  refine (sameB_any va vb zs zs w ha hb hn).mono ?_
  rintro e w' ⟨rfl, m, rfl⟩
  exact ⟨by simp, grown_drewN (World.grownBy.refl _ _) m⟩

end Go.Proofs.YtakkdniikhgpdaaGreatDoor

