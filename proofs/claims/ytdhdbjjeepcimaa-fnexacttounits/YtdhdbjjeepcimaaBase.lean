import Derived.Test.YtdhdbjjeepcimaaProg
import Derived.WalkKit
import Derived.WalkSpells
import Derived.WalkLawsBesides
import Derived.Deep.QuietTactic
import Derived.BigQuiet
namespace Go.Proofs.Ytdhdbjjeepcimaa
open Go.RowKit

theorem info3 : (Try.prog.info? 3).map (fun i => (i.zero, i.size, i.bytes)) = some (some (.int .i64 0), 1, 8) := by kernel_rfl

/-- The slice value v reads as the integers zs in w; its cells lie below block B. -/
def RdI (B : Nat) (w : World) (v : Value) (zs : List Int) : Prop :=
  ∃ a cap, v = .slice a zs.length cap ∧ (zs ≠ [] → ∃ b off, a = some ⟨b, off, none⟩ ∧ b < B ∧ ∀ j, j < zs.length → w.cell? ⟨b, off + j, none⟩ = some (.int .i64 (zs[j]?.getD 0)))

/-- The slice value v is a row of its own, from block B on, and holds the integers zs. -/
def OwI (B : Nat) (w : World) (v : Value) (zs : List Int) : Prop := w.ownsRow B 3 1 v zs.length (zs.map (Value.int .i64))

theorem OwI.rd {B : Nat} {w : World} {v : Value} {zs : List Int} (h : OwI B w v zs) : RdI w.heap.size w v zs := by
  rcases h.2 with ⟨hv, hn⟩ | ⟨g, cap, cur, hv, hb, hg, hnc, hcm, hcs, ht⟩
  · subst hv
    refine ⟨_, 0, by rw [hn], fun h0 => absurd (List.eq_nil_of_length_eq_zero hn) h0⟩
  · subst hv
    refine ⟨_, cap, rfl, fun _ => ⟨g, 0, rfl, (Array.getElem?_eq_some_iff.1 hg).1, fun j hj => ?_⟩⟩
    have := World.ownsRow.cellAt h j (by simpa using hj)
    simp only [Nat.zero_add]
    rw [this]
    simp [hj]

theorem RdI.later {B : Nat} {w w' : World} {v : Value} {zs : List Int} (h : RdI B w v zs) (hg : w.grownBy w' none) : RdI w'.heap.size w' v zs := by
  obtain ⟨a, cap, hv, hr⟩ := h
  refine ⟨a, cap, hv, fun h0 => ?_⟩
  obtain ⟨b, off, ha, hb, hc⟩ := hr h0
  have h1 := hc 0 (List.length_pos_iff.2 h0)
  have hlt : b < w.heap.size := World.block_lt_of_cell? w _ h1
  exact ⟨b, off, ha, Nat.lt_of_lt_of_le hlt hg.size, fun j hj => hg.cell (hc j hj) (by simp)⟩

/-- .. over a write into a row of its own that lies from B on. -/
theorem RdI.beside {B : Nat} {w w' : World} {v : Value} {zs : List Int} {row : Option Nat} (h : RdI B w v zs) (hg : w.grownBy w' row) (hr : ∀ k, row = some k → B ≤ k) : RdI B w' v zs := by
  obtain ⟨a, cap, hv, hr'⟩ := h
  refine ⟨a, cap, hv, fun h0 => ?_⟩
  obtain ⟨b, off, ha, hb, hc⟩ := hr' h0
  exact ⟨b, off, ha, hb, fun j hj => hg.cell (hc j hj) (fun e => by have := hr b e.symm; omega)⟩

theorem OwI.later {B : Nat} {w w' : World} {v : Value} {zs : List Int} (h : OwI B w v zs) (hg : w.grownBy w' none) : OwI B w' v zs :=
  World.ownsRow.kept h hg (by cases hv : v.ownBlock <;> simp)

theorem OwI.beside {B : Nat} {w w' : World} {v : Value} {zs : List Int} {row : Option Nat} (h : OwI B w v zs) (hg : w.grownBy w' row) (hr : ∀ k, v.ownBlock = some k → ∀ j, row = some j → k ≠ j) : OwI B w' v zs := by
  refine World.ownsRow.kept h hg ?_
  cases hv : v.ownBlock with
  | none => exact .inl rfl
  | some k =>
    refine .inr fun e => ?_
    exact hr k hv k e.symm rfl

theorem grown_trans {a b c : World} {r : Option Nat} (h : a.grownBy b r) (k : b.grownBy c r) : a.grownBy c r :=
  ⟨k.os.trans h.os, k.tape.trans h.tape, k.output.trans h.output, Nat.le_trans h.size k.size, fun i hi hn => (k.block i (Nat.lt_of_lt_of_le hi h.size) hn).trans (h.block i hi hn)⟩

/-- A write into a row that was laid since a: nothing of a has turned. -/
theorem grown_new {a b c : World} {r : Option Nat} (h : a.grownBy b none) (k : b.grownBy c r) (hr : ∀ j, r = some j → a.heap.size ≤ j) : a.grownBy c none :=
  ⟨k.os.trans h.os, k.tape.trans h.tape, k.output.trans h.output, Nat.le_trans h.size k.size, fun i hi _ => (k.block i (Nat.lt_of_lt_of_le hi h.size) (fun e => by have := hr i e.symm; omega)).trans (h.block i hi (by simp))⟩

theorem grown_drewN {a b : World} {r : Option Nat} (h : a.grownBy b r) (n : Nat) : a.grownBy (b.drewN n) r := ⟨h.os, h.tape, h.output, h.size, h.block⟩

theorem below_of_grown {w w' : World} (h : w.grownBy w' none) : Below w.heap.size w w' := ⟨h.os, h.tape, h.output, h.size, fun k hk => h.block k hk (by simp)⟩
theorem grown_of_below {w w' : World} (h : Below w.heap.size w w') : w.grownBy w' none := ⟨h.os, h.tape, h.output, h.size, fun k hk _ => h.block k hk⟩

theorem take_snoc (zs : List Int) (k : Nat) (hk : k < zs.length) : zs.take (k + 1) = zs.take k ++ [zs[k]?.getD 0] := by
  rw [List.take_add_one, List.getElem?_eq_getElem hk]; rfl

/-- The numbers k, k + 1, .. -/
def marks (k : Int) (n : Nat) : List Int := (List.range n).map (fun i : Nat => k + (i : Int))
theorem marks_length (k : Int) (n : Nat) : (marks k n).length = n := by simp [marks]
theorem marks_get (k : Int) (n j : Nat) (h : j < n) : (marks k n)[j]?.getD 0 = k + j := by simp [marks, h]

theorem copy_step (zs : List Int) (k : Nat) (hk : k < zs.length) :
    ((zs.take k ++ List.replicate (zs.length - k) 0).map (Value.int .i64)).set k (.int .i64 (zs[k]?.getD 0)) = (zs.take (k + 1) ++ List.replicate (zs.length - (k + 1)) 0).map (Value.int .i64) := by
  rw [take_snoc zs k hk, show zs.length - k = (zs.length - (k + 1)) + 1 by omega, List.replicate_succ]
  simp [Nat.min_eq_left (Nat.le_of_lt hk)]

theorem marks_step (k : Int) (zs : List Int) (i : Nat) (hi : i < zs.length) :
    ((marks k i ++ zs.drop i).map (Value.int .i64)).set i (.int .i64 (k + i)) = (marks k (i + 1) ++ zs.drop (i + 1)).map (Value.int .i64) := by
  have e : marks k (i + 1) = marks k i ++ [k + (i : Int)] := by simp [marks, List.range_succ]
  rw [List.drop_eq_getElem_cons hi, e, List.map_append, List.set_append_right _ _ (by simp [marks_length])]
  simp only [List.length_map, marks_length, Nat.sub_self, List.map_cons, List.set_cons_zero, List.map_append, List.append_assoc, List.cons_append, List.nil_append]

end Go.Proofs.Ytdhdbjjeepcimaa
