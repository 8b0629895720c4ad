import Derived.Test.YtalkhnhhaiigiaaGreatDoorMBE
import Derived.Test.YtalkhnhhaiigiaaGreatDoorMBL
namespace Go.Proofs.YtalkhnhhaiigiaaGreatDoor
open Go.RowKit

/-- The shaper before the nodes R, with all that it reads. -/
structure Sx (bs B : Nat) (ind m : Int) (w : World) (nv : Value) (R : List Nod) : Prop where
  shp : Shp w bs nv ind
  rd : RdN B w nv R
  tab : Tab w
  mx : w.cell? ⟨1, 0, none⟩ = some (.int .i64 m)
theorem Sx.keep {bs B : Nat} {ind m : Int} {w w' : World} {nv : Value} {R : List Nod} (h : Sx bs B ind m w nv R) (g : w.grownBy w' none) : Sx bs B ind m w' nv R := ⟨h.shp.keep g, h.rd.keep g, h.tab.keep g, g.cell h.mx (by simp)⟩
theorem Sx.lt {bs B : Nat} {ind m : Int} {w : World} {nv : Value} {R : List Nod} (h : Sx bs B ind m w nv R) : bs + 3 < w.heap.size := h.shp.sz
/-- A newer row turns. -/
theorem sx_row {bs B : Nat} {ind m : Int} {w w' : World} {nv : Value} {R : List Nod} {r : Option Nat} (h : Sx bs B ind m w nv R) (g : w.grownBy w' r) (hr : ∀ x, r = some x → bs + 3 < x) (hB : B ≤ bs) (hbs : 1 < bs) : Sx bs B ind m w' nv R := by
  have ne : ∀ b, b ≤ bs + 3 → some b ≠ r := fun b hb e => by have := hr b e.symm; omega
  refine ⟨⟨Nat.lt_of_lt_of_le h.shp.sz g.size, g.cell h.shp.n (ne bs (by omega)), ?_, g.cell h.shp.i (ne bs (by omega)), ⟨g.cell h.shp.v0.1 (ne bs (by omega)), g.cell h.shp.v0.2 (ne (bs + 1) (by omega))⟩, ⟨g.cell h.shp.v1.1 (ne bs (by omega)), g.cell h.shp.v1.2 (ne (bs + 2) (by omega))⟩, ⟨g.cell h.shp.v2.1 (ne bs (by omega)), g.cell h.shp.v2.2 (ne (bs + 3) (by omega))⟩, g.cell h.shp.v3 (ne bs (by omega)), g.cell h.shp.v4 (ne bs (by omega)), g.cell h.shp.v5 (ne bs (by omega)), g.cell h.shp.v6 (ne bs (by omega))⟩, h.rd.beside g (fun k e => by have := hr k e; omega), ⟨g.cell h.tab.c0 (ne 0 (by omega)), g.cell h.tab.c1 (ne 0 (by omega)), g.cell h.tab.c2 (ne 0 (by omega)), g.cell h.tab.c3 (ne 0 (by omega)), g.cell h.tab.c4 (ne 0 (by omega))⟩, g.cell h.mx (ne 1 (by omega))⟩
  rw [World.frozen?_of_block (g.block bs (World.block_lt_of_cell? w _ h.shp.n) (ne bs (by omega)))]
  exact h.shp.fz

/-- What a call that takes nodes off answers: a part. -/
def GivesV (bs B : Nat) (ind m : Int) (w : World) (ps : List Pc) (R2 : List Nod) (e : Ending) (w' : World) : Prop :=
  ∃ f caps nv', e = .returned (.func (.func f) #[] caps) ∧ PartAt w' (fun k => w.heap.size ≤ k ∧ k < w'.heap.size) f caps ps ∧ Sx bs B ind m w' nv' R2 ∧ w.grownBy w' (some bs)
/-- Or a list of parts. -/
def GivesL (bs B : Nat) (ind m : Int) (w : World) (dss : List (List Pc)) (R2 : List Nod) (e : Ending) (w' : World) : Prop :=
  ∃ v' nv', e = .returned v' ∧ PoL w.heap.size w' v' dss ∧ Sx bs B ind m w' nv' R2 ∧ w.grownBy w' (some bs)

theorem grown_some {a b : World} {r : Option Nat} (g : a.grownBy b none) : a.grownBy b r := ⟨g.os, g.tape, g.output, g.size, fun k hk _ => g.block k hk (by simp)⟩
/-- A row that is newer than the first world turns, or block bs. -/
theorem grown_mix {a b c : World} {r : Option Nat} {bs : Nat} (h : a.grownBy b (some bs)) (k : b.grownBy c r) (hr : ∀ j, r = some j → a.heap.size ≤ j ∨ j = bs) : a.grownBy c (some bs) :=
  ⟨k.os.trans h.os, k.tape.trans h.tape, k.output.trans h.output, Nat.le_trans h.size k.size, fun i hi hn => (k.block i (Nat.lt_of_lt_of_le hi h.size) (fun e => by have := hr i e.symm; simp only [ne_eq, Option.some.injEq] at hn; omega)).trans (h.block i hi hn)⟩

theorem items_of (ind : Int) (d : Nat) (m : Bool) (c : Nat) (R R2 : List Nod) (hw : loopN (walkL triv d m) c (R, ()) = some (R2, ())) (hn : ∀ n ∈ R, n.k < 5 → n.cnt = 0) :
    ∀ j, j ≤ c → mess (itK (valP ind d) j R) ≤ wNs R ∧ (∃ P, R = P ++ restK (valP ind d) j R) ∧ (j = c → restK (valP ind d) j R = R2) ∧ (j < c → walkL triv d m (restK (valP ind d) j R, ()) = some (restK (valP ind d) (j + 1) R, ())) := by
  intro j hj
  have hl := rest_loop (ind := ind) (fun R R2 h h' => val_rest ind d m R R2 h h') c _ R2 hw hn
  obtain ⟨P, hP⟩ := (loop_splits (walk_splits triv d m).1 (walk_splits triv d m).2 j).2 _ _ (hl j hj)
  refine ⟨?_, ⟨P, hP⟩, fun e => ?_, fun hjc => ?_⟩
  · obtain ⟨P', hP', hm⟩ := mess_itK (ind := ind) (fun R R2 h h' => val_mes ind d m R R2 h h') j _ _ (hl j hj) hn
    have h3 : wNs R = wNs P' + wNs (restK (valP ind d) j R) := by rw [← wNs_app, ← hP']
    omega
  · subst e
    have h4 := hl j hj
    rw [hw] at h4
    simpa using h4.symm
  · have h4 := hl (j + 1) (by omega)
    rw [loopN_succB, hl j hj, Option.bind_some] at h4
    exact h4

/-- What is known of nodes that are to be shaped. -/
structure NsK (R : List Nod) : Prop where
  nd : ∀ p ∈ R, NodeOK comS numS p
  ok : ∀ p ∈ R, NdOk p
  cn : ∀ p ∈ R, p.cnt ≤ 9223372036854775807
  wt : wNs R ≤ 2000000
theorem NsK.sub {R P S : List Nod} (h : NsK R) (e : R = P ++ S) : NsK S :=
  ⟨fun p hp => h.nd p (by rw [e]; exact List.mem_append_right _ hp), fun p hp => h.ok p (by rw [e]; exact List.mem_append_right _ hp), fun p hp => h.cn p (by rw [e]; exact List.mem_append_right _ hp), by have := h.wt; rw [e, wNs_app] at this; omega⟩

theorem pa_twoB {B : Nat} {w1 : World} {f f2 : Nat} {caps caps2 : Array Value} {ds ds2 : List Pc} (hB : B ≤ w1.heap.size) (h : PartAt w1 (fun k => B ≤ k ∧ k < w1.heap.size) f caps ds) (h2 : PartAt w1 (fun k => B ≤ k ∧ k < w1.heap.size) f2 caps2 ds2) :
    PaR (w1.alloc (Obj.cells #[.func (.func f) #[] caps, .func (.func f2) #[] caps2] 51)) (fun k => B ≤ k ∧ k < (w1.alloc (Obj.cells #[.func (.func f) #[] caps, .func (.func f2) #[] caps2] 51)).heap.size) (.slice (some ⟨w1.heap.size, 0, none⟩) 2 2) [ds, ds2] := by
  have gA := World.grownBy_alloc w1 (Obj.cells #[.func (.func f) #[] caps, .func (.func f2) #[] caps2] 51) none
  refine ⟨_, 2, rfl, Nat.le_refl _, by unfold maxLen; omega, fun _ => ⟨w1.heap.size, 0, rfl, ⟨hB, by simp⟩, by simp, fun j d hj => ?_⟩⟩
  match j, hj with
  | 0, hj => simp at hj; subst hj; exact ⟨f, caps, by simp [go_sem], h.at (fun k hk => ⟨hk.1, by simp; omega⟩) (fun k hk => gA.block k hk.2 (by simp))⟩
  | 1, hj => simp at hj; subst hj; exact ⟨f2, caps2, by simp [go_sem], h2.at (fun k hk => ⟨hk.1, by simp; omega⟩) (fun k hk => gA.block k hk.2 (by simp))⟩
  | j + 2, hj => simp at hj
theorem pa_oneB {B : Nat} {w1 : World} {f : Nat} {caps : Array Value} {ds : List Pc} (hB : B ≤ w1.heap.size) (h : PartAt w1 (fun k => B ≤ k ∧ k < w1.heap.size) f caps ds) :
    PaR (w1.alloc (Obj.cells #[.func (.func f) #[] caps] 51)) (fun k => B ≤ k ∧ k < (w1.alloc (Obj.cells #[.func (.func f) #[] caps] 51)).heap.size) (.slice (some ⟨w1.heap.size, 0, none⟩) 1 1) [ds] := by
  have gA := World.grownBy_alloc w1 (Obj.cells #[.func (.func f) #[] caps] 51) none
  refine ⟨_, 1, rfl, Nat.le_refl _, by unfold maxLen; omega, fun _ => ⟨w1.heap.size, 0, rfl, ⟨hB, by simp⟩, by simp, fun j d hj => ?_⟩⟩
  match j, hj with
  | 0, hj => simp at hj; subst hj; exact ⟨f, caps, by simp [go_sem], h.at (fun k hk => ⟨hk.1, by simp; omega⟩) (fun k hk => gA.block k hk.2 (by simp))⟩
  | j + 1, hj => simp at hj
theorem pa_fourB {B : Nat} {w1 : World} {f f2 f3 f4 : Nat} {caps caps2 caps3 caps4 : Array Value} {ds ds2 ds3 ds4 : List Pc} (hB : B ≤ w1.heap.size) (h : PartAt w1 (fun k => B ≤ k ∧ k < w1.heap.size) f caps ds) (h2 : PartAt w1 (fun k => B ≤ k ∧ k < w1.heap.size) f2 caps2 ds2) (h3 : PartAt w1 (fun k => B ≤ k ∧ k < w1.heap.size) f3 caps3 ds3) (h4 : PartAt w1 (fun k => B ≤ k ∧ k < w1.heap.size) f4 caps4 ds4) :
    PaR (w1.alloc (Obj.cells #[.func (.func f) #[] caps, .func (.func f2) #[] caps2, .func (.func f3) #[] caps3, .func (.func f4) #[] caps4] 51)) (fun k => B ≤ k ∧ k < (w1.alloc (Obj.cells #[.func (.func f) #[] caps, .func (.func f2) #[] caps2, .func (.func f3) #[] caps3, .func (.func f4) #[] caps4] 51)).heap.size) (.slice (some ⟨w1.heap.size, 0, none⟩) 4 4) [ds, ds2, ds3, ds4] := by
  have gA := World.grownBy_alloc w1 (Obj.cells #[.func (.func f) #[] caps, .func (.func f2) #[] caps2, .func (.func f3) #[] caps3, .func (.func f4) #[] caps4] 51) none
  refine ⟨_, 4, rfl, Nat.le_refl _, by unfold maxLen; omega, fun _ => ⟨w1.heap.size, 0, rfl, ⟨hB, by simp⟩, by simp, fun j d hj => ?_⟩⟩
  match j, hj with
  | 0, hj => simp at hj; subst hj; exact ⟨f, caps, by simp [go_sem], h.at (fun k hk => ⟨hk.1, by simp; omega⟩) (fun k hk => gA.block k hk.2 (by simp))⟩
  | 1, hj => simp at hj; subst hj; exact ⟨f2, caps2, by simp [go_sem], h2.at (fun k hk => ⟨hk.1, by simp; omega⟩) (fun k hk => gA.block k hk.2 (by simp))⟩
  | 2, hj => simp at hj; subst hj; exact ⟨f3, caps3, by simp [go_sem], h3.at (fun k hk => ⟨hk.1, by simp; omega⟩) (fun k hk => gA.block k hk.2 (by simp))⟩
  | 3, hj => simp at hj; subst hj; exact ⟨f4, caps4, by simp [go_sem], h4.at (fun k hk => ⟨hk.1, by simp; omega⟩) (fun k hk => gA.block k hk.2 (by simp))⟩
  | j + 4, hj => simp at hj
/-- A part under a wider name, in a later world. -/
theorem PartAt.moreB {w1 w2 : World} {A B : Nat} {f : Nat} {caps : Array Value} {ds : List Pc} (h : PartAt w1 (fun k => A ≤ k ∧ k < w1.heap.size) f caps ds) (hB : B ≤ A) (g : w1.grownBy w2 none) : PartAt w2 (fun k => B ≤ k ∧ k < w2.heap.size) f caps ds :=
  h.at (fun k hk => ⟨Nat.le_trans hB hk.1, Nat.lt_of_lt_of_le hk.2 g.size⟩) (fun k hk => g.block k hk.2 (by simp))
end Go.Proofs.YtalkhnhhaiigiaaGreatDoor

