import Derived.Test.YtkkcnpokobndcaaDoorProg
import Derived.WalkKit
import Derived.WalkSpells
import Derived.WalkLawsBesides
import Derived.Deep.QuietTactic
import Derived.BigQuiet
namespace Go.Proofs.YtkkcnpokobndcaaDoor
open Go.RowKit

theorem info5 : (Tryd.prog.info? 5).map (fun i => (i.zero, i.size, i.bytes)) = some (some (.int .u8 0), 1, 1) := by kernel_rfl
theorem info3 : (Tryd.prog.info? 3).map (fun i => (i.zero, i.size, i.bytes)) = some (some (.int .i64 0), 1, 8) := by kernel_rfl

/-- The slice value v reads as the integers zs in w; its cells lie below block B. -/
def Rd (q : IntKind) (B : Nat) (w : World) (v : Value) (zs : List Int) : Prop :=
  ∃ a cap, v = .slice a zs.length cap ∧ (zs ≠ [] → ∃ b off, a = some ⟨b, off, none⟩ ∧ b < B ∧ ∀ j, j < zs.length → w.cell? ⟨b, off + j, none⟩ = some (.int q (zs[j]?.getD 0)))
abbrev RdI (B : Nat) (w : World) (v : Value) (zs : List Int) : Prop := Rd .i64 B w v zs
abbrev RdB (B : Nat) (w : World) (v : Value) (zs : List Int) : Prop := Rd .u8 B w v zs

/-- The slice value v is a row of its own, from block B on, and holds the integers zs. -/
def Ow (q : IntKind) (t : TypeId) (B : Nat) (w : World) (v : Value) (zs : List Int) : Prop := w.ownsRow B t 1 v zs.length (zs.map (Value.int q))
abbrev OwI (B : Nat) (w : World) (v : Value) (zs : List Int) : Prop := Ow .i64 3 B w v zs
abbrev OwB (B : Nat) (w : World) (v : Value) (zs : List Int) : Prop := Ow .u8 5 B w v zs

theorem Ow.rd {q : IntKind} {t : TypeId} {B : Nat} {w : World} {v : Value} {zs : List Int} (h : Ow q t B w v zs) : Rd q w.heap.size w v zs := by
  rcases h.2 with ⟨hv, hn⟩ | ⟨g, cap, cur, hv, hb, hg, hnc, hcm, hcs, ht⟩
  · subst hv
    refine ⟨_, 0, by rw [hn], fun h0 => absurd (List.eq_nil_of_length_eq_zero hn) h0⟩
  · subst hv
    refine ⟨_, cap, rfl, fun _ => ⟨g, 0, rfl, (Array.getElem?_eq_some_iff.1 hg).1, fun j hj => ?_⟩⟩
    have := World.ownsRow.cellAt h j (by simpa using hj)
    simp only [Nat.zero_add]
    rw [this]
    simp [hj]

theorem Rd.later {q : IntKind} {B : Nat} {w w' : World} {v : Value} {zs : List Int} (h : Rd q B w v zs) (hg : w.grownBy w' none) : Rd q w'.heap.size w' v zs := by
  obtain ⟨a, cap, hv, hr⟩ := h
  refine ⟨a, cap, hv, fun h0 => ?_⟩
  obtain ⟨b, off, ha, hb, hc⟩ := hr h0
  have h1 := hc 0 (List.length_pos_iff.2 h0)
  have hlt : b < w.heap.size := World.block_lt_of_cell? w _ h1
  exact ⟨b, off, ha, Nat.lt_of_lt_of_le hlt hg.size, fun j hj => hg.cell (hc j hj) (by simp)⟩

/-- .. over a write into a row of its own that lies from B on. -/
theorem Rd.beside {q : IntKind} {B : Nat} {w w' : World} {v : Value} {zs : List Int} {row : Option Nat} (h : Rd q B w v zs) (hg : w.grownBy w' row) (hr : ∀ k, row = some k → B ≤ k) : Rd q B w' v zs := by
  obtain ⟨a, cap, hv, hr'⟩ := h
  refine ⟨a, cap, hv, fun h0 => ?_⟩
  obtain ⟨b, off, ha, hb, hc⟩ := hr' h0
  exact ⟨b, off, ha, hb, fun j hj => hg.cell (hc j hj) (fun e => by have := hr b e.symm; omega)⟩

theorem Ow.later {q : IntKind} {t : TypeId} {B : Nat} {w w' : World} {v : Value} {zs : List Int} (h : Ow q t B w v zs) (hg : w.grownBy w' none) : Ow q t B w' v zs :=
  World.ownsRow.kept h hg (by cases hv : v.ownBlock <;> simp)

theorem Ow.beside {q : IntKind} {t : TypeId} {B : Nat} {w w' : World} {v : Value} {zs : List Int} {row : Option Nat} (h : Ow q t B w v zs) (hg : w.grownBy w' row) (hr : ∀ k, v.ownBlock = some k → ∀ j, row = some j → k ≠ j) : Ow q t B w' v zs := by
  refine World.ownsRow.kept h hg ?_
  cases hv : v.ownBlock with
  | none => exact .inl rfl
  | some k =>
    refine .inr fun e => ?_
    exact hr k hv k e.symm rfl

theorem grown_trans {a b c : World} {r : Option Nat} (h : a.grownBy b r) (k : b.grownBy c r) : a.grownBy c r :=
  ⟨k.os.trans h.os, k.tape.trans h.tape, k.output.trans h.output, Nat.le_trans h.size k.size, fun i hi hn => (k.block i (Nat.lt_of_lt_of_le hi h.size) hn).trans (h.block i hi hn)⟩

/-- A write into a row that was laid since a: nothing of a has turned. -/
theorem grown_new {a b c : World} {r : Option Nat} (h : a.grownBy b none) (k : b.grownBy c r) (hr : ∀ j, r = some j → a.heap.size ≤ j) : a.grownBy c none :=
  ⟨k.os.trans h.os, k.tape.trans h.tape, k.output.trans h.output, Nat.le_trans h.size k.size, fun i hi _ => (k.block i (Nat.lt_of_lt_of_le hi h.size) (fun e => by have := hr i e.symm; omega)).trans (h.block i hi (by simp))⟩

theorem grown_drewN {a b : World} {r : Option Nat} (h : a.grownBy b r) (n : Nat) : a.grownBy (b.drewN n) r := ⟨h.os, h.tape, h.output, h.size, h.block⟩

theorem below_of_grown {w w' : World} (h : w.grownBy w' none) : Below w.heap.size w w' := ⟨h.os, h.tape, h.output, h.size, fun k hk => h.block k hk (by simp)⟩
theorem grown_of_below {w w' : World} (h : Below w.heap.size w w') : w.grownBy w' none := ⟨h.os, h.tape, h.output, h.size, fun k hk _ => h.block k hk⟩

theorem take_snoc (zs : List Int) (k : Nat) (hk : k < zs.length) : zs.take (k + 1) = zs.take k ++ [zs[k]?.getD 0] := by
  rw [List.take_add_one, List.getElem?_eq_getElem hk]; rfl

/-- The numbers f 0, f 1, .., f (n - 1). -/
def upto (f : Nat → Int) (n : Nat) : List Int := (List.range n).map f
theorem upto_length (f : Nat → Int) (n : Nat) : (upto f n).length = n := by simp [upto]
theorem upto_get (f : Nat → Int) (n j : Nat) (h : j < n) : (upto f n)[j]?.getD 0 = f j := by simp [upto, h]
theorem upto_succ (f : Nat → Int) (n : Nat) : upto f (n + 1) = upto f n ++ [f n] := by simp [upto, List.range_succ]
theorem upto_zero (f : Nat → Int) : upto f 0 = [] := rfl
/-- What a mark lays: k, k + 1, .. as ints; the same as bytes. -/
def markI (k : Int) (i : Nat) : Int := k + (i : Int)
def markB (k : Int) (i : Nat) : Int := (k + (i : Int)) % 256

theorem copy_step (q : IntKind) (zs : List Int) (k : Nat) (hk : k < zs.length) :
    ((zs.take k ++ List.replicate (zs.length - k) 0).map (Value.int q)).set k (.int q (zs[k]?.getD 0)) = (zs.take (k + 1) ++ List.replicate (zs.length - (k + 1)) 0).map (Value.int q) := by
  rw [take_snoc zs k hk, show zs.length - k = (zs.length - (k + 1)) + 1 by omega, List.replicate_succ]
  simp [Nat.min_eq_left (Nat.le_of_lt hk)]

theorem mark_step (q : IntKind) (f : Nat → Int) (zs : List Int) (i : Nat) (hi : i < zs.length) :
    ((upto f i ++ zs.drop i).map (Value.int q)).set i (.int q (f i)) = (upto f (i + 1) ++ zs.drop (i + 1)).map (Value.int q) := by
  rw [List.drop_eq_getElem_cons hi, upto_succ, List.map_append, List.set_append_right _ _ (by simp [upto_length])]
  simp only [List.length_map, upto_length, Nat.sub_self, List.map_cons, List.set_cons_zero, List.map_append, List.append_assoc, List.cons_append, List.nil_append]

theorem row_base {w : World} {B B' : Nat} {e : TypeId} {size : Nat} {v : Value} {k : Nat} {xs : List Value} (h : B' ≤ B) (hr : w.ownsRow B e size v k xs) : w.ownsRow B' e size v k xs := by
  refine ⟨hr.1, ?_⟩
  rcases hr.2 with h1 | ⟨g, cap, cur, hv, hb, rest⟩
  · exact .inl h1
  · exact .inr ⟨g, cap, cur, hv, by omega, rest⟩

/-- A row of one's own over an append of the list xs. -/
theorem own_app {q : IntKind} {t : TypeId} {B : Nat} {w w1 : World} {v v' : Value} {ys xs : List Int} {o : Obj} (n : Nat) (hB : B ≤ w.heap.size)
    (hv : Ow q t B w v ys) (hown' : w1.ownsRow B t 1 v' n (ys.map (Value.int q) ++ xs.map (Value.int q))) (hn : n = (ys ++ xs).length) (hgrow : (w.alloc o).grownBy w1 v.ownBlock) :
    Ow q t B w1 v' (ys ++ xs) ∧ Below B w w1 := by
  subst hn
  refine ⟨by unfold Ow; simpa using hown', ((Below.refl B w).alloc hB o).grown hgrow (by simp; omega) (fun k hk => (World.ownsRow.lt hv k hk).1)⟩

theorem rd_of_row {q : IntKind} (x : Addr) (ys z0 : List Int) (len cap : Nat) (w : World) (hys : ys = z0.take len) (hlen : ys.length = len) (hl : len ≤ z0.length)
    (hcell : ∀ i, i < z0.length → w.cell? (x.add i) = some (.int q (z0.getD i 0))) : Rd q w.heap.size w (.slice (some x) ys.length cap) ys := by
  refine ⟨some x, cap, rfl, fun h0 => ?_⟩
  have hp : 0 < ys.length := List.length_pos_iff.2 h0
  obtain ⟨b, off, spot⟩ := x
  have hc := hcell 0 (by omega)
  have hspot : spot = none := by simpa [Addr.add] using World.cell?_spot hc
  subst hspot
  refine ⟨b, off, rfl, ?_, fun j hj => ?_⟩
  · have := World.block_lt_of_cell? w _ hc
    simpa [Addr.add] using this
  · have hj2 : j < len := by omega
    have := hcell j (by omega)
    rw [Addr.add_lit] at this
    rw [this, hys]
    simp [List.getD, hj2]

theorem Rd.now {q : IntKind} {B : Nat} {w : World} {v : Value} {zs : List Int} (h : Rd q B w v zs) : Rd q w.heap.size w v zs := h.later (World.grownBy.refl _ _)
theorem Rd.keep {q : IntKind} {B : Nat} {w w' : World} {v : Value} {zs : List Int} (h : Rd q B w v zs) (hg : w.grownBy w' none) : Rd q B w' v zs := h.beside hg (fun _ e => by cases e)

/-- The slice's capacity holds its length. -/
def Sl (v : Value) (n : Nat) : Prop := ∃ a cap, v = .slice a n cap ∧ n ≤ cap ∧ cap ≤ maxLen
theorem Ow.sl {q : IntKind} {t : TypeId} {B : Nat} {w : World} {v : Value} {zs : List Int} (h : Ow q t B w v zs) : Sl v zs.length := by
  rcases h.2 with ⟨hv, hn⟩ | ⟨g, cap, cur, hv, hb, hg, hnc, hcm, hcs, ht⟩
  · exact ⟨_, 0, by rw [hv, hn], by omega, by unfold maxLen; omega⟩
  · exact ⟨_, cap, hv, hnc, hcm⟩

theorem hide {p : Prop} (h : p) : Hid p := h

def isPt (p : Int) : Bool := decide (0 ≤ p ∧ p ≤ 1114111)
def isUn (p : Int) : Bool := decide (0 ≤ p ∧ p < 65536)
def isHi (p : Int) : Bool := decide (55296 ≤ p ∧ p < 56320)
def isLo (p : Int) : Bool := decide (56320 ≤ p ∧ p ≤ 57343)

theorem all_snoc (zs : List Int) (f : Int → Bool) (k : Nat) (hk : k < zs.length) (h : (zs.take k).all f = true) (hp : f (zs[k]?.getD 0) = true) : (zs.take (k + 1)).all f = true := by
  rw [take_snoc zs k hk, List.all_append, h]; simp [hp]
theorem all_not (zs : List Int) (f : Int → Bool) (k : Nat) (hk : k < zs.length) (hp : f (zs[k]?.getD 0) = false) : zs.all f = false := by
  rw [List.all_eq_false]
  exact ⟨zs[k], List.getElem_mem hk, by simpa [hk] using hp⟩

end Go.Proofs.YtkkcnpokobndcaaDoor
