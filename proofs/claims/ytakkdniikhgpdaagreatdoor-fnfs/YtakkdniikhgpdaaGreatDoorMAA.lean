import Derived.Test.YtakkdniikhgpdaaGreatDoorProg
import Derived.WalkKit
import Derived.WalkSpells
import Derived.WalkLawsBesides
import Derived.Deep.QuietTactic
import Derived.BigQuiet
import Derived.Orders
import Derived.Deep.RegionWith
namespace Go.Proofs.YtakkdniikhgpdaaGreatDoor
open Go.RowKit

theorem info5 : (Tryz.prog.info? 5).map (fun i => (i.zero, i.size, i.bytes)) = some (some (.int .u8 0), 1, 1) := by kernel_rfl
theorem info3 : (Tryz.prog.info? 3).map (fun i => (i.zero, i.size, i.bytes)) = some (some (.int .i64 0), 1, 8) := by kernel_rfl

/-- The slice value v reads as the integers zs in w; its cells lie below block B. -/
def Rd (q : IntKind) (B : Nat) (w : World) (v : Value) (zs : List Int) : Prop :=
  ∃ a cap, v = .slice a zs.length cap ∧ (zs ≠ [] → ∃ b off, a = some ⟨b, off, none⟩ ∧ b < B ∧ ∀ j, j < zs.length → w.cell? ⟨b, off + j, none⟩ = some (.int q (zs[j]?.getD 0)))
abbrev RdI (B : Nat) (w : World) (v : Value) (zs : List Int) : Prop := Rd .i64 B w v zs
abbrev RdB (B : Nat) (w : World) (v : Value) (zs : List Int) : Prop := Rd .u8 B w v zs

/-- The slice value v is a row of its own, from block B on, and holds the integers zs. -/
def Ow (q : IntKind) (t : TypeId) (B : Nat) (w : World) (v : Value) (zs : List Int) : Prop := w.ownsRow B t 1 v zs.length (zs.map (Value.int q))
abbrev OwI (B : Nat) (w : World) (v : Value) (zs : List Int) : Prop := Ow .i64 3 B w v zs
abbrev OwB (B : Nat) (w : World) (v : Value) (zs : List Int) : Prop := Ow .u8 5 B w v zs

theorem Ow.rd {q : IntKind} {t : TypeId} {B : Nat} {w : World} {v : Value} {zs : List Int} (h : Ow q t B w v zs) : Rd q w.heap.size w v zs := by
  rcases h.2 with ⟨hv, hn⟩ | ⟨g, cap, cur, hv, hb, hg, hnc, hcm, hcs, ht⟩
  · subst hv
    refine ⟨_, 0, by rw [hn], fun h0 => absurd (List.eq_nil_of_length_eq_zero hn) h0⟩
  · subst hv
    refine ⟨_, cap, rfl, fun _ => ⟨g, 0, rfl, (Array.getElem?_eq_some_iff.1 hg).1, fun j hj => ?_⟩⟩
    have := World.ownsRow.cellAt h j (by simpa using hj)
    simp only [Nat.zero_add]
    rw [this]
    simp [hj]

theorem Rd.later {q : IntKind} {B : Nat} {w w' : World} {v : Value} {zs : List Int} (h : Rd q B w v zs) (hg : w.grownBy w' none) : Rd q w'.heap.size w' v zs := by
  obtain ⟨a, cap, hv, hr⟩ := h
  refine ⟨a, cap, hv, fun h0 => ?_⟩
  obtain ⟨b, off, ha, hb, hc⟩ := hr h0
  have h1 := hc 0 (List.length_pos_iff.2 h0)
  have hlt : b < w.heap.size := World.block_lt_of_cell? w _ h1
  exact ⟨b, off, ha, Nat.lt_of_lt_of_le hlt hg.size, fun j hj => hg.cell (hc j hj) (by simp)⟩

/-- .. over a write into a row of its own that lies from B on. -/
theorem Rd.beside {q : IntKind} {B : Nat} {w w' : World} {v : Value} {zs : List Int} {row : Option Nat} (h : Rd q B w v zs) (hg : w.grownBy w' row) (hr : ∀ k, row = some k → B ≤ k) : Rd q B w' v zs := by
  obtain ⟨a, cap, hv, hr'⟩ := h
  refine ⟨a, cap, hv, fun h0 => ?_⟩
  obtain ⟨b, off, ha, hb, hc⟩ := hr' h0
  exact ⟨b, off, ha, hb, fun j hj => hg.cell (hc j hj) (fun e => by have := hr b e.symm; omega)⟩

theorem Ow.later {q : IntKind} {t : TypeId} {B : Nat} {w w' : World} {v : Value} {zs : List Int} (h : Ow q t B w v zs) (hg : w.grownBy w' none) : Ow q t B w' v zs :=
  World.ownsRow.kept h hg (by cases hv : v.ownBlock <;> simp)

theorem Ow.beside {q : IntKind} {t : TypeId} {B : Nat} {w w' : World} {v : Value} {zs : List Int} {row : Option Nat} (h : Ow q t B w v zs) (hg : w.grownBy w' row) (hr : ∀ k, v.ownBlock = some k → ∀ j, row = some j → k ≠ j) : Ow q t B w' v zs := by
  refine World.ownsRow.kept h hg ?_
  cases hv : v.ownBlock with
  | none => exact .inl rfl
  | some k =>
    refine .inr fun e => ?_
    exact hr k hv k e.symm rfl

theorem gWA {w : World} {o : Obj} {r : Option Nat} : w.grownBy (w.alloc o) r := World.grownBy_alloc w o r
theorem grown_trans {a b c : World} {r : Option Nat} (h : a.grownBy b r) (k : b.grownBy c r) : a.grownBy c r :=
  ⟨k.os.trans h.os, k.tape.trans h.tape, k.output.trans h.output, Nat.le_trans h.size k.size, fun i hi hn => (k.block i (Nat.lt_of_lt_of_le hi h.size) hn).trans (h.block i hi hn)⟩

/-- A write into a row that was laid since a: nothing of a has turned. -/
theorem grown_new {a b c : World} {r : Option Nat} (h : a.grownBy b none) (k : b.grownBy c r) (hr : ∀ j, r = some j → a.heap.size ≤ j) : a.grownBy c none :=
  ⟨k.os.trans h.os, k.tape.trans h.tape, k.output.trans h.output, Nat.le_trans h.size k.size, fun i hi _ => (k.block i (Nat.lt_of_lt_of_le hi h.size) (fun e => by have := hr i e.symm; omega)).trans (h.block i hi (by simp))⟩

theorem grown_drewN {a b : World} {r : Option Nat} (h : a.grownBy b r) (n : Nat) : a.grownBy (b.drewN n) r := ⟨h.os, h.tape, h.output, h.size, h.block⟩

theorem below_of_grown {w w' : World} (h : w.grownBy w' none) : Below w.heap.size w w' := ⟨h.os, h.tape, h.output, h.size, fun k hk => h.block k hk (by simp)⟩
theorem grown_of_below {w w' : World} (h : Below w.heap.size w w') : w.grownBy w' none := ⟨h.os, h.tape, h.output, h.size, fun k hk _ => h.block k hk⟩

theorem take_snoc (zs : List Int) (k : Nat) (hk : k < zs.length) : zs.take (k + 1) = zs.take k ++ [zs[k]?.getD 0] := by
  rw [List.take_add_one, List.getElem?_eq_getElem hk]; rfl

/-- The numbers f 0, f 1, .., f (n - 1). -/
def upto (f : Nat → Int) (n : Nat) : List Int := (List.range n).map f
theorem upto_length (f : Nat → Int) (n : Nat) : (upto f n).length = n := by simp [upto]
theorem upto_get (f : Nat → Int) (n j : Nat) (h : j < n) : (upto f n)[j]?.getD 0 = f j := by simp [upto, h]
theorem upto_succ (f : Nat → Int) (n : Nat) : upto f (n + 1) = upto f n ++ [f n] := by simp [upto, List.range_succ]
theorem upto_zero (f : Nat → Int) : upto f 0 = [] := rfl
/-- What a mark lays: k, k + 1, .. as ints; the same as bytes. -/
def markI (k : Int) (i : Nat) : Int := k + (i : Int)
def markB (k : Int) (i : Nat) : Int := (k + (i : Int)) % 256

theorem copy_step (q : IntKind) (zs : List Int) (k : Nat) (hk : k < zs.length) :
    ((zs.take k ++ List.replicate (zs.length - k) 0).map (Value.int q)).set k (.int q (zs[k]?.getD 0)) = (zs.take (k + 1) ++ List.replicate (zs.length - (k + 1)) 0).map (Value.int q) := by
  rw [take_snoc zs k hk, show zs.length - k = (zs.length - (k + 1)) + 1 by omega, List.replicate_succ]
  simp [Nat.min_eq_left (Nat.le_of_lt hk)]

theorem mark_step (q : IntKind) (f : Nat → Int) (zs : List Int) (i : Nat) (hi : i < zs.length) :
    ((upto f i ++ zs.drop i).map (Value.int q)).set i (.int q (f i)) = (upto f (i + 1) ++ zs.drop (i + 1)).map (Value.int q) := by
  rw [List.drop_eq_getElem_cons hi, upto_succ, List.map_append, List.set_append_right _ _ (by simp [upto_length])]
  simp only [List.length_map, upto_length, Nat.sub_self, List.map_cons, List.set_cons_zero, List.map_append, List.append_assoc, List.cons_append, List.nil_append]

theorem row_base {w : World} {B B' : Nat} {e : TypeId} {size : Nat} {v : Value} {k : Nat} {xs : List Value} (h : B' ≤ B) (hr : w.ownsRow B e size v k xs) : w.ownsRow B' e size v k xs := by
  refine ⟨hr.1, ?_⟩
  rcases hr.2 with h1 | ⟨g, cap, cur, hv, hb, rest⟩
  · exact .inl h1
  · exact .inr ⟨g, cap, cur, hv, by omega, rest⟩

/-- A row of one's own over an append of the list xs. -/
theorem own_app {q : IntKind} {t : TypeId} {B : Nat} {w w1 : World} {v v' : Value} {ys xs : List Int} {o : Obj} (n : Nat) (hB : B ≤ w.heap.size)
    (hv : Ow q t B w v ys) (hown' : w1.ownsRow B t 1 v' n (ys.map (Value.int q) ++ xs.map (Value.int q))) (hn : n = (ys ++ xs).length) (hgrow : (w.alloc o).grownBy w1 v.ownBlock) :
    Ow q t B w1 v' (ys ++ xs) ∧ Below B w w1 := by
  subst hn
  refine ⟨by unfold Ow; simpa using hown', ((Below.refl B w).alloc hB o).grown hgrow (by simp; omega) (fun k hk => (World.ownsRow.lt hv k hk).1)⟩

theorem rd_of_row {q : IntKind} (x : Addr) (ys z0 : List Int) (len cap : Nat) (w : World) (hys : ys = z0.take len) (hlen : ys.length = len) (hl : len ≤ z0.length)
    (hcell : ∀ i, i < z0.length → w.cell? (x.add i) = some (.int q (z0.getD i 0))) : Rd q w.heap.size w (.slice (some x) ys.length cap) ys := by
  refine ⟨some x, cap, rfl, fun h0 => ?_⟩
  have hp : 0 < ys.length := List.length_pos_iff.2 h0
  obtain ⟨b, off, spot⟩ := x
  have hc := hcell 0 (by omega)
  have hspot : spot = none := by simpa [Addr.add] using World.cell?_spot hc
  subst hspot
  refine ⟨b, off, rfl, ?_, fun j hj => ?_⟩
  · have := World.block_lt_of_cell? w _ hc
    simpa [Addr.add] using this
  · have hj2 : j < len := by omega
    have := hcell j (by omega)
    rw [Addr.add_lit] at this
    rw [this, hys]
    simp [List.getD, hj2]

theorem Rd.now {q : IntKind} {B : Nat} {w : World} {v : Value} {zs : List Int} (h : Rd q B w v zs) : Rd q w.heap.size w v zs := h.later (World.grownBy.refl _ _)
theorem Rd.keep {q : IntKind} {B : Nat} {w w' : World} {v : Value} {zs : List Int} (h : Rd q B w v zs) (hg : w.grownBy w' none) : Rd q B w' v zs := h.beside hg (fun _ e => by cases e)

/-- The slice's capacity holds its length. -/
def Sl (v : Value) (n : Nat) : Prop := ∃ a cap, v = .slice a n cap ∧ n ≤ cap ∧ cap ≤ maxLen
theorem Ow.sl {q : IntKind} {t : TypeId} {B : Nat} {w : World} {v : Value} {zs : List Int} (h : Ow q t B w v zs) : Sl v zs.length := by
  rcases h.2 with ⟨hv, hn⟩ | ⟨g, cap, cur, hv, hb, hg, hnc, hcm, hcs, ht⟩
  · exact ⟨_, 0, by rw [hv, hn], by omega, by unfold maxLen; omega⟩
  · exact ⟨_, cap, hv, hnc, hcm⟩

theorem hide {p : Prop} (h : p) : Hid p := h

def isPt (p : Int) : Bool := decide (0 ≤ p ∧ p ≤ 1114111)
def isUn (p : Int) : Bool := decide (0 ≤ p ∧ p < 65536)
def isHi (p : Int) : Bool := decide (55296 ≤ p ∧ p < 56320)
def isLo (p : Int) : Bool := decide (56320 ≤ p ∧ p ≤ 57343)

theorem all_snoc (zs : List Int) (f : Int → Bool) (k : Nat) (hk : k < zs.length) (h : (zs.take k).all f = true) (hp : f (zs[k]?.getD 0) = true) : (zs.take (k + 1)).all f = true := by
  rw [take_snoc zs k hk, List.all_append, h]; simp [hp]
theorem all_not (zs : List Int) (f : Int → Bool) (k : Nat) (hk : k < zs.length) (hp : f (zs[k]?.getD 0) = false) : zs.all f = false := by
  rw [List.all_eq_false]
  exact ⟨zs[k], List.getElem_mem hk, by simpa [hk] using hp⟩

end Go.Proofs.YtakkdniikhgpdaaGreatDoor

namespace Go.Proofs.YtakkdniikhgpdaaGreatDoor
open Go.RowKit

end Go.Proofs.YtakkdniikhgpdaaGreatDoor

namespace Go.Proofs.YtakkdniikhgpdaaGreatDoor

/-! A region that draws its order, in which the world turns: what only reads, and reads the same as long as I holds, may be taken first. -/

section
variable {P : Program} {ops : Array Oper} {Q : Exit → Act → World → Prop} {md : Region.Mode} {I : World → Prop} {ex : Nat → Bool}

/-- Every order from here on; behind each operation (but those of ex) I holds. -/
def anyI (P : Program) (md : Region.Mode) (ops : Array Oper) (Q : Exit → Act → World → Prop) (I : World → Prop) (ex : Nat → Bool) : Nat → Array Bool → Act → World → Prop
  | 0, listed, a, w => Region.ready md ops listed = [] ∧ Q .normal a w
  | fuel + 1, listed, a, w => (Region.ready md ops listed = [] → Q .normal a w) ∧
      ∀ i ∈ Region.ready md ops listed, wpOp P ops Q i (fun a' w' => (ex i = true ∨ I w') ∧ anyI P md ops Q I ex fuel (listed.setIfInBounds i true) a' w') a w

theorem any_of_anyI : ∀ (fuel : Nat) (listed : Array Bool) (a : Act) (w : World), anyI P md ops Q I ex fuel listed a w → wpAny P md ops Q fuel listed a w
  | 0, _, _, _, h => h
  | fuel + 1, _, _, _, h => ⟨h.1, fun i hi => wpOp_mono (fun a' w' h2 => any_of_anyI fuel _ a' w' h2.2) (h.2 i hi)⟩

theorem region_anyI (I : World → Prop) (ex : Nat → Bool) {id : Nat} {a : Act} {w : World} (hm : P.follows .mixedOrders = true) (h : anyI P .any ops Q I ex ops.size (Array.replicate ops.size false) a w.drew) : (Code.region id ops true).wp P Q a w :=
  wp_region_any hm (any_of_anyI _ _ _ _ h)

/-- What an operation does to the frame. -/
theorem wpOp_frame {j : Nat} {oj : Oper} {K : Act → World → Prop} {a : Act} {w : World} (hj : ops[j]? = some oj) (hh : wpOp P ops Q j K a w) :
    wpOp P ops Q j (fun a' w' => K a' w' ∧ ∃ ds u, a' = ({ a with defers := ds } : Act).put oj.dst u) a w := by
  unfold wpOp at *
  simp only [hj] at *
  split
  · rename_i hw
    simp only [hw, if_true] at hh
    rcases hh with hh | hh
    case inr => exact .inr hh
    refine .inl ?_
    unfold Oper.wp at *
    generalize (execOp a.eval oj).run P w = r at *
    cases r with
    | halt x w' => cases x <;> simp only [Oper.upon] at hh ⊢ <;> exact hh
    | ok n w' =>
      cases n <;> simp only [Oper.upon] at hh ⊢
      case value u => exact ⟨hh, a.defers, u, rfl⟩
      case skip => exact ⟨hh, a.defers, undef, rfl⟩
      case defer d => exact ⟨hh, d :: a.defers, undef, rfl⟩
      case enter f args =>
        refine Calls.mono hh fun e w'' he => ?_
        cases e with
        | returned u => exact ⟨he, a.defers, u, rfl⟩
        | panicked c => exact he
        | outgrown => exact he
      case row row args => exact Rows.mono hh fun u w'' he => ⟨he, a.defers, u, rfl⟩
  · rename_i hw
    simp only [hw] at hh
    exact ⟨hh, a.defers, undef, rfl⟩

/-- The operation yields v in every world in which I holds. -/
def YldI (P : Program) (ops : Array Oper) (I : World → Prop) (o : Oper) (v : Value) (a : Act) : Prop :=
  Region.wanted o (yielded ops a.tmps) = true ∧ ∀ w, I w → (execOp a.eval o).run P w = .ok (.value v) w

/-- What may break I is bound behind i. -/
def exOK (md : Region.Mode) (ops : Array Oper) (ex : Nat → Bool) (i : Nat) : Bool :=
  (List.range ops.size).all fun j => !ex j || match ops[j]? with
    | some o => o.after.any fun e => Region.binds md e && e.on == i
    | none => true
theorem exOK_spec {i j : Nat} {oj : Oper} (h : exOK md ops ex i = true) (hj : ops[j]? = some oj) (hno : ∀ e ∈ oj.after, Region.binds md e = true → e.on ≠ i) : ex j = false := by
  simp only [exOK, List.all_eq_true, List.mem_range] at h
  have h1 := h j (Array.getElem?_eq_some_iff.1 hj).1
  simp only [hj, Bool.or_eq_true, Bool.not_eq_true'] at h1
  rcases h1 with h1 | h1
  · exact h1
  · obtain ⟨e, he, hb⟩ := Array.any_eq_true'.1 h1
    simp only [Bool.and_eq_true, beq_iff_eq] at hb
    exact absurd hb.2 (hno e he hb.1)

/-- A plain operation with the same place for its value. -/
def plainOf (o : Oper) (v : Value) : Oper := { dst := o.dst, op := .move (.const v), type := o.type, pos := o.pos, after := #[], guard := none }
theorem plainOf_yields (o : Oper) (v : Value) (a : Act) : Yields P ops (plainOf o v) v a := .inl ⟨rfl, fun _ => rfl⟩
theorem plainOf_apart {o oj : Oper} {v : Value} (h : o.apart ops oj = true) : (plainOf o v).apart ops oj = true := by
  have hl : (plainOf o v).looksAt ops = [] := by simp [Oper.looksAt, plainOf, Op.operands]
  unfold Oper.apart at *
  rw [Bool.and_eq_true] at h
  rw [hl, Bool.and_eq_true]
  refine ⟨h.1, ?_⟩
  cases oj.dst <;> simp

theorem anyI_first {i : Nat} {oi : Oper} {v : Value} (hi : ops[i]? = some oi) (hsel : Region.noSelect ops = true) (hex : exOK md ops ex i = true)
    (hQ : ∀ c a w, Q (.panic c) (a.put oi.dst v) w → Q (.panic c) a w) :
    ∀ (fuel : Nat) (listed : Array Bool) (a : Act) (w : World),
      (∀ j oj, ops[j]? = some oj → j ≠ i → listed.getD j true = false → (∀ e ∈ oj.after, Region.binds md e = true → e.on ≠ i) → oi.apart ops oj = true) →
      i ∈ Region.ready md ops listed → YldI P ops I oi v a → I w →
      anyI P md ops Q I ex fuel (listed.setIfInBounds i true) (a.put oi.dst v) w → anyI P md ops Q I ex (fuel + 1) listed a w := by
  have take : ∀ (fuel : Nat) (listed : Array Bool) (a : Act) (w : World), YldI P ops I oi v a → I w → anyI P md ops Q I ex fuel (listed.setIfInBounds i true) (a.put oi.dst v) w →
      wpOp P ops Q i (fun a' w' => (ex i = true ∨ I w') ∧ anyI P md ops Q I ex fuel (listed.setIfInBounds i true) a' w') a w := by
    intro fuel listed a w hy hw H
    unfold wpOp
    simp only [hi, hy.1, if_true]
    refine .inl ?_
    unfold Oper.wp
    rw [hy.2 w hw]
    exact ⟨.inr hw, H⟩
  intro fuel
  induction fuel with
  | zero =>
    intro listed a w _ hr hy hw H
    refine ⟨fun h => (by rw [h] at hr; cases hr), fun j hj => ?_⟩
    by_cases hji : j = i
    · subst hji; exact take 0 listed a w hy hw H
    · have := ready_mono hj hji
      rw [H.1] at this
      cases this
  | succ fuel ih =>
    intro listed a w hfree hr hy hw H
    refine ⟨fun h => (by rw [h] at hr; cases hr), fun j hj => ?_⟩
    by_cases hji : j = i
    · subst hji; exact take _ listed a w hy hw H
    · have h1 := H.2 j (ready_mono hj hji)
      obtain ⟨hjun, oj, hoj, hall⟩ := mem_ready.1 hj
      have hnot : ∀ e ∈ oj.after, Region.binds md e = true → e.on ≠ i := fun e he hb heq => by
        have h2 := hall e he hb
        have h0 := (mem_ready.1 hr).1
        rw [heq] at h2
        rcases Nat.lt_or_ge i listed.size with h' | h'
        · simp [h'] at h0 h2; rw [h0] at h2; cases h2
        · simp [Array.getElem?_eq_none h'] at h2
      have hap := hfree j oj hoj hji hjun hnot
      have hexj := exOK_spec hex hoj hnot
      have h2 := wpOp_frame hoj (wpOp_put hoj (plainOf_apart (v := v) hap) (fun cs b => by simp [plainOf]) (fun cs b => Region.noSelect_spec hsel j oj cs b hoj) hQ (plainOf_yields oi v a) h1)
      obtain ⟨_, _, h3⟩ := Oper.apart_spec hap
      refine wpOp_mono (fun a' w' h4 => ?_) h2
      obtain ⟨⟨_, hI, hrest⟩, ds, u, rfl⟩ := h4
      have hIw : I w' := hI.resolve_left (by rw [hexj]; simp)
      refine ⟨.inr hIw, ih (listed.setIfInBounds j true) _ w' ?_ (ready_mono hr (Ne.symm hji)) ?_ hIw ?_⟩
      · intro k ok hk hki hun hno
        refine hfree k ok hk hki ?_ hno
        by_cases hjk : j = k
        · subst hjk; exact hjun
        · rw [getD_set_ne true hjk] at hun; exact hun
      · refine ⟨?_, ?_⟩
        · rw [wanted_put oi _ oj.dst u h3]; exact hy.1
        · rw [execOp_put oi (fun cs b => Region.noSelect_spec hsel i oi cs b hi) _ oj.dst u h3]; exact hy.2
      · rw [Array.setIfInBounds_comm _ _ hji]
        exact hrest

theorem anyI_take {i : Nat} {oi : Oper} (v : Value) {fuel : Nat} {listed : Array Bool} {a : Act} {w : World} (hi : ops[i]? = some oi) (hs : Region.noSelect ops = true) (hf : Region.free md ops listed i = true)
    (hr : (Region.ready md ops listed).contains i = true) (hex : exOK md ops ex i = true) (hQ : ∀ c a w, Q (.panic c) (a.put oi.dst v) w → Q (.panic c) a w) (hw : I w) (hy : YldI P ops I oi v a)
    (h : anyI P md ops Q I ex fuel (listed.setIfInBounds i true) (a.put oi.dst v) w) : anyI P md ops Q I ex (fuel + 1) listed a w :=
  anyI_first hi hs hex hQ fuel listed a w (Region.free_spec hi hf) (by simpa using hr) hy hw h

theorem anyT {i : Nat} {oi : Oper} (v : Value) {fuel : Nat} {listed : Array Bool} {a : Act} {w : World} (hi : ops[i]? = some oi) (hw : I w) (hy : YldI P ops I oi v a) (h : anyI P md ops Q I ex fuel (listed.setIfInBounds i true) (a.put oi.dst v) w) (hs : Region.noSelect ops = true := by kernel_rfl) (hf : Region.free md ops listed i = true := by kernel_rfl)
    (hr : (Region.ready md ops listed).contains i = true := by kernel_rfl) (hex : exOK md ops ex i = true := by kernel_rfl) (hQ : ∀ c a w, Q (.panic c) (a.put oi.dst v) w → Q (.panic c) a w := by exact fun _ _ _ h => h) : anyI P md ops Q I ex (fuel + 1) listed a w :=
  anyI_take v hi hs hf hr hex hQ hw hy h

theorem anyI_one {i : Nat} {fuel : Nat} {listed : Array Bool} {a : Act} {w : World} (hr : Region.ready md ops listed = [i])
    (h : wpOp P ops Q i (fun a' w' => (ex i = true ∨ I w') ∧ anyI P md ops Q I ex fuel (listed.setIfInBounds i true) a' w') a w) : anyI P md ops Q I ex (fuel + 1) listed a w :=
  ⟨fun h0 => (by rw [hr] at h0; cases h0), fun j hj => by rw [hr] at hj; simp at hj; subst hj; exact h⟩

theorem anyI_done {listed : Array Bool} {a : Act} {w : World} (hr : Region.ready md ops listed = []) (h : Q .normal a w) : ∀ fuel, anyI P md ops Q I ex fuel listed a w
  | 0 => ⟨hr, h⟩
  | _ + 1 => ⟨fun _ => h, by rw [hr]; simp⟩

theorem wpOp_val {i : Nat} {o : Oper} {K : Act → World → Prop} {a : Act} {w w' : World} {v : Value} (hi : ops[i]? = some o) (hg : o.guard = none) (hrun : (execOp a.eval o).run P w = .ok (.value v) w') (h : K (a.put o.dst v) w') : wpOp P ops Q i K a w := by
  unfold wpOp
  have hw : Region.wanted o (yielded ops a.tmps) = true := by simp [Region.wanted, hg]
  simp only [hi, hw, if_true]
  refine .inl ?_
  unfold Oper.wp
  rw [hrun]; exact h
theorem wpOp_skip {i : Nat} {o : Oper} {K : Act → World → Prop} {a : Act} {w w' : World} (hi : ops[i]? = some o) (hg : o.guard = none) (hrun : (execOp a.eval o).run P w = .ok .skip w') (h : K (a.put o.dst undef) w') : wpOp P ops Q i K a w := by
  unfold wpOp
  have hw : Region.wanted o (yielded ops a.tmps) = true := by simp [Region.wanted, hg]
  simp only [hi, hw, if_true]
  refine .inl ?_
  unfold Oper.wp
  rw [hrun]; exact h
theorem wpOp_call {i : Nat} {o : Oper} {K : Act → World → Prop} {a : Act} {w w1 : World} {f : FuncId} {args : Array Value} {R : Ending → World → Prop} (hi : ops[i]? = some o) (hg : o.guard = none) (hrun : (execOp a.eval o).run P w = .ok (.enter f args) w1)
    (hc : Calls P f args w1 R) (h : ∀ e w', R e w' → ∃ v, e = .returned v ∧ K (a.put o.dst v) w') : wpOp P ops Q i K a w := by
  unfold wpOp
  have hw : Region.wanted o (yielded ops a.tmps) = true := by simp [Region.wanted, hg]
  simp only [hi, hw, if_true]
  refine .inl ?_
  unfold Oper.wp
  rw [hrun]
  refine Calls.mono hc fun e w' hr => ?_
  obtain ⟨v, rfl, hk⟩ := h e w' hr
  exact hk
theorem yldI {o : Oper} {v : Value} {a : Act} (hg : o.guard = none) (h : ∀ w, I w → (execOp a.eval o).run P w = .ok (.value v) w) : YldI P ops I o v a :=
  ⟨by simp [Region.wanted, hg], h⟩
end
end Go.Proofs.YtakkdniikhgpdaaGreatDoor

