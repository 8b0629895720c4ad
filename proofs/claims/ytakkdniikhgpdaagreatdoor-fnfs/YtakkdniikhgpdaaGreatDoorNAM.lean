import Derived.Test.YtakkdniikhgpdaaGreatDoorNAA
import Derived.Test.YtakkdniikhgpdaaGreatDoorNAB
import Derived.Test.YtakkdniikhgpdaaGreatDoorNAH
import Derived.Test.YtakkdniikhgpdaaGreatDoorNAK
import Derived.Test.YtakkdniikhgpdaaGreatDoorNAL
namespace Go.Proofs.YtakkdniikhgpdaaGreatDoor
open Go.RowKit

/-! The shape of a drawn tree. -/

theorem loopN_snoc {σ : Type} (f : σ → Option σ) : ∀ (k : Nat) (s : σ), loopN f (k + 1) s = (loopN f k s).bind f
  | 0, s => by simp only [loopN, Option.bind_some]; cases f s <;> rfl
  | k + 1, s => by
    rw [loopN]
    cases h : f s with
    | none => simp [loopN, h]
    | some x => rw [Option.bind_some, loopN_snoc f k x]; simp [loopN, h]
/-- A value of its own, with at most d lists below it. -/
def Shp (d : Nat) (ns : List Nod) : Prop := ∃ n P, ns = n :: P ∧ n.mem = false ∧ (5 ≤ n.k → d ≠ 0) ∧ ∀ R, loopN (walkL triv d (decide (n.k = 6))) n.cnt.toNat (P ++ R, ()) = some (R, ())
theorem Shp.walk {d : Nat} {ns : List Nod} (h : Shp d ns) (R : List Nod) : walkL triv (d + 1) false (ns ++ R, ()) = some (R, ()) := by
  obtain ⟨n, P, rfl, h1, h2, h3⟩ := h
  simp only [List.cons_append, walkL, h1, ne_eq, not_true_eq_false, if_false, triv, Option.bind_some]
  rw [if_neg (fun h => h2 h.1 h.2)]
  exact h3 R
theorem Shp.mem {d : Nat} {ns : List Nod} (h : Shp d ns) (key : List Int) (R : List Nod) : walkL triv (d + 1) true (memH key ns ++ R, ()) = some (R, ()) := by
  obtain ⟨n, P, rfl, h1, h2, h3⟩ := h
  simp only [memH, List.cons_append, walkL, ne_eq, not_true_eq_false, if_false, triv, Option.bind_some]
  rw [if_neg (fun h => h2 h.1 h.2)]
  exact h3 R
theorem shp_scal {n : Nod} (h : n.k < 5) (h0 : n.mem = false) (hc : n.cnt = 0) (d : Nat) : Shp d [n] := ⟨n, [], rfl, h0, fun h' => by omega, fun R => by rw [hc]; rfl⟩
section
variable {zs : List Int}
theorem items_shp {f : Nat → List Nod × Nat} {obj : Bool} {d : Nat} (hf : ∀ p, Shp d (f p).1) : ∀ (m i : Nat) (R : List Nod), loopN (walkL triv (d + 1) obj) (dItems zs f obj m i).2.1 ((dItems zs f obj m i).1 ++ R, ()) = some (R, ())
  | 0, i, R => rfl
  | m + 1, i, R => by
    rw [dItems]
    split
    · rename_i hc
      have ih := items_shp (obj := obj) hf m i
      rw [hc.1] at ih
      simp only
      rw [loopN_snoc, List.append_assoc, ih, Option.bind_some]
      unfold dItem
      cases obj with
      | true => rw [if_pos rfl]; exact (hf _).mem _ R
      | false => rw [if_neg (by simp)]; exact (hf _).walk R
    · exact items_shp hf m i R
theorem nodes_shp (rare : Int) : ∀ (d i : Nat), Shp d (dNodes zs rare d i).1 := by
  intro d
  induction d with
  | zero =>
    intro i
    by_cases h : (nx zs i).1 % 16 < 3 ∨ (0 = 0 ∧ 9 < (nx zs i).1 % 16)
    · rw [dN_scal h]; exact shp_scal (by simp only; omega) rfl rfl _
    · by_cases h2 : (nx zs i).1 % 16 < 6
      · rw [dN_num h h2]; exact shp_scal (by simp only; omega) rfl rfl _
      · rw [dN_str h h2 (.inr rfl)]; exact shp_scal (by simp only; omega) rfl rfl _
  | succ d ih =>
    intro i
    by_cases h : (nx zs i).1 % 16 < 3 ∨ (d + 1 = 0 ∧ 9 < (nx zs i).1 % 16)
    · rw [dN_scal h]; exact shp_scal (by simp only; omega) rfl rfl _
    · by_cases h2 : (nx zs i).1 % 16 < 6
      · rw [dN_num h h2]; exact shp_scal (by simp only; omega) rfl rfl _
      · by_cases h3 : (nx zs i).1 % 16 < 9
        · rw [dN_str h h2 (.inl h3)]; exact shp_scal (by simp only; omega) rfl rfl _
        · rw [dN_cont h2 h3]
          refine ⟨_, _, rfl, rfl, fun _ => by omega, fun R => ?_⟩
          have := items_shp (zs := zs) (obj := decide ((nx zs i).1 % 16 % 2 = 1)) ih ((nx zs (dComs zs rare (nx zs i).2).2).1 % 5).toNat (nx zs (dComs zs rare (nx zs i).2).2).2 R
          unfold dBel
          simp only [Int.toNat_natCast]
          have e : decide (5 + (nx zs i).1 % 16 % 2 = 6) = decide ((nx zs i).1 % 16 % 2 = 1) := decide_eq_decide.2 (by omega)
          rw [e]
          exact this
theorem Shp.more {d d' : Nat} {ns : List Nod} (h : Shp d ns) (hd : d ≤ d') : Shp d' ns := by
  obtain ⟨n, P, h0, h1, h2, h3⟩ := h
  exact ⟨n, P, h0, h1, fun h => by have := h2 h; omega, fun R => loop_more (fun a b hab => walk_more triv d d' _ a b hd hab) _ _ _ (h3 R)⟩
theorem more_shp (rare : Int) : ∀ (m d : Nat) (s : List Nod × Nat), 3 ≤ d → Shp d s.1 → Shp (d + m) (dMore zs rare m s).1
  | 0, d, s, _, h => h
  | m + 1, d, s, hd, h => by
    rw [dMore]
    split
    · have := more_shp rare m (d + 1) ({ nod0 with k := 5, cnt := 2 } :: (s.1 ++ (dNodes zs rare 3 s.2).1), (dNodes zs rare 3 s.2).2) (by omega) ⟨_, _, rfl, rfl, fun _ => by omega, fun R => ?_⟩
      · rw [show d + (m + 1) = d + 1 + m by omega]; exact this
      · show loopN (walkL triv (d + 1) (decide ((5 : Int) = 6))) (2 : Int).toNat _ = _
        rw [show decide ((5 : Int) = 6) = false from rfl, show (2 : Int).toNat = 2 from rfl]
        simp only [loopN, List.append_assoc]
        rw [h.walk, Option.bind_some, ((nodes_shp rare 3 s.2).more hd).walk]
        rfl
    · exact h.more (by omega)
theorem good_walk (i : Nat) : walkL triv 9 false ((dGood zs i).1.1, ()) = some ([], ()) := by
  have := (more_shp (zs := zs) (rareV (nx zs i).1 (nx zs (nx zs i).2).1) 4 4 _ (by omega) (nodes_shp (zs := zs) (rareV (nx zs i).1 (nx zs (nx zs i).2).1) 4 (nx zs (nx zs i).2).2)).walk []
  rw [List.append_nil] at this
  exact this
end

/-! What is known of its nodes. -/
def Un (zs : List Int) : Prop := ∀ z ∈ zs, 0 ≤ z ∧ z < 65536
structure Gl (p : Nod) : Prop where
  key : Un p.key
  units : Un p.units
  text : p.k = 3 → p.text ∈ numW
  cnt : p.k < 5 → p.cnt = 0
theorem un_nil : Un [] := fun z h => by simp at h
section
variable {zs : List Int}
theorem duOne_u (hz : Bys zs) (i : Nat) : 0 ≤ (duOne zs i).1 ∧ (duOne zs i).1 < 65536 := by
  have h1 := nx_bd hz i
  unfold duOne
  split
  · simp only; omega
  · split
    · simp only; omega
    · simp only; omega
theorem dusN_u (hz : Bys zs) (i : Nat) : ∀ m, Un (dusN zs m i).1
  | 0, z, h => by simp [dusN] at h
  | m + 1, z, h => by
    simp only [dusN, List.mem_append, List.mem_singleton] at h
    rcases h with h | rfl
    · exact dusN_u hz i m z h
    · exact duOne_u hz _
theorem key_u (hz : Bys zs) (i : Nat) : Un (dKey zs i).1 := by
  unfold dKey
  split
  · exact dusN_u hz _ _
  · have : keyW.all (fun t => t.all fun z => decide (0 ≤ z ∧ z ≤ 300)) = true := by decide
    by_cases hn : ((nx zs i).1 % 13).toNat < keyW.length
    · have h := List.all_eq_true.1 this _ (List.getElem_mem hn)
      simp only [decide_eq_true_eq, List.all_eq_true] at h
      rw [List.getD_eq_getElem?_getD, List.getElem?_eq_getElem hn]
      exact fun z hm => by have := h z hm; omega
    · rw [List.getD_eq_getElem?_getD, List.getElem?_eq_none (by omega)]
      exact un_nil
theorem num_w (hz : Bys zs) (i : Nat) : (dNum zs i).1 ∈ numW := by
  have h1 := nx_bd hz i
  have hn : ((nx zs i).1 % 22).toNat < numW.length := by simp [numW]; omega
  unfold dNum
  simp only
  rw [List.getD_eq_getElem?_getD, List.getElem?_eq_getElem hn]
  exact List.getElem_mem hn
theorem mem_gl {key : List Int} (hy : Un key) {ns : List Nod} (h : ∀ p ∈ ns, Gl p) : ∀ p ∈ memH key ns, Gl p := by
  cases ns with
  | nil => exact h
  | cons q ns =>
    intro p hp
    rcases List.mem_cons.1 hp with rfl | hp
    · have := h q (by simp)
      exact ⟨hy, this.units, this.text, this.cnt⟩
    · exact h p (by simp [hp])
theorem items_gl (hz : Bys zs) {f : Nat → List Nod × Nat} {obj : Bool} (hf : ∀ p, ∀ q ∈ (f p).1, Gl q) : ∀ (m i : Nat), ∀ q ∈ (dItems zs f obj m i).1, Gl q
  | 0, i => fun q h => by simp [dItems] at h
  | m + 1, i => by
    have h1 := items_gl hz (obj := obj) hf m i
    rw [dItems]
    split
    · intro q hq
      rcases List.mem_append.1 hq with hq | hq
      · exact h1 q hq
      · unfold dItem at hq
        split at hq
        · exact mem_gl (key_u hz _) (hf _) q hq
        · exact hf _ q hq
    · exact h1
theorem gl_scal {l : List Cm} {k : Int} (h : k ≠ 3) : Gl { nod0 with k := k, lead := l } := ⟨un_nil, un_nil, fun e => absurd e h, fun _ => rfl⟩
theorem gl_num {l : List Cm} {x : List Int} (h : x ∈ numW) : Gl { nod0 with k := 3, lead := l, text := x } := ⟨un_nil, un_nil, fun _ => h, fun _ => rfl⟩
theorem gl_str {l : List Cm} {x : List Int} (h : Un x) : Gl { nod0 with k := 4, lead := l, units := x } := ⟨un_nil, h, fun e => by simp at e, fun _ => rfl⟩
theorem nodes_gl (hz : Bys zs) (rare : Int) : ∀ (d i : Nat), ∀ q ∈ (dNodes zs rare d i).1, Gl q := by
  intro d
  induction d with
  | zero =>
    intro i q hq
    by_cases h : (nx zs i).1 % 16 < 3 ∨ (0 = 0 ∧ 9 < (nx zs i).1 % 16)
    · rw [dN_scal h] at hq; simp at hq; subst hq
      exact gl_scal (by omega)
    · by_cases h2 : (nx zs i).1 % 16 < 6
      · rw [dN_num h h2] at hq; simp at hq; subst hq
        exact gl_num (num_w hz _)
      · rw [dN_str h h2 (.inr rfl)] at hq; simp at hq; subst hq
        exact gl_str (dusN_u hz _ _)
  | succ d ih =>
    intro i q hq
    by_cases h : (nx zs i).1 % 16 < 3 ∨ (d + 1 = 0 ∧ 9 < (nx zs i).1 % 16)
    · rw [dN_scal h] at hq; simp at hq; subst hq
      exact gl_scal (by omega)
    · by_cases h2 : (nx zs i).1 % 16 < 6
      · rw [dN_num h h2] at hq; simp at hq; subst hq
        exact gl_num (num_w hz _)
      · by_cases h3 : (nx zs i).1 % 16 < 9
        · rw [dN_str h h2 (.inl h3)] at hq; simp at hq; subst hq
          exact gl_str (dusN_u hz _ _)
        · rw [dN_cont h2 h3] at hq
          rcases List.mem_cons.1 hq with rfl | hq
          · exact ⟨un_nil, un_nil, fun e => by simp only at e; omega, fun e => by simp only at e; omega⟩
          · exact items_gl hz ih _ _ q hq
theorem more_gl (hz : Bys zs) (rare : Int) : ∀ (m : Nat) (s : List Nod × Nat), (∀ q ∈ s.1, Gl q) → ∀ q ∈ (dMore zs rare m s).1, Gl q
  | 0, s, h => h
  | m + 1, s, h => by
    rw [dMore]
    split
    · refine more_gl hz rare m _ (fun q hq => ?_)
      simp only [List.mem_cons, List.mem_append] at hq
      rcases hq with rfl | hq | hq
      · exact ⟨un_nil, un_nil, fun e => by simp at e, fun e => by simp at e⟩
      · exact h q hq
      · exact nodes_gl hz rare 3 _ q hq
    · exact h
theorem good_gl (hz : Bys zs) (i : Nat) : ∀ q ∈ (dGood zs i).1.1, Gl q := more_gl hz _ 4 _ (nodes_gl hz _ 4 _)
end

/-! Its text, laid out in any way. -/
def gapW : List (List Int) := [[], [], [32], [10], [32, 32], [13, 10], [9], [194, 160], [226, 128, 168], [239, 187, 191]]
def markW : List (List Int) := [[47, 42, 42, 47], [47, 47, 32, 120, 10], [47, 42, 32, 97, 13, 10, 98, 32, 42, 47], [47, 47, 13], [47, 42, 226, 128, 169, 42, 47]]
def gapF (zs : List Int) (i : Nat) : List Int × Nat :=
  (if 245 < (nx zs i).1 then markW.getD ((nx zs i).1 % 5).toNat [] else gapW.getD ((nx zs i).1 % 10).toNat [], (nx zs i).2)
/-- The units by their numbers. -/
def hexQ (us : List Int) : Nat → List Int
  | 0 => []
  | k + 1 => hexQ us k ++ (hex4 (us[k]?.getD 0) ++ if (k : Int) % 3 = 1 then [92, 10] else [])
def lqF (zs us : List Int) (i : Nat) : List Int × Nat :=
  (if (nx zs i).1 % 4 = 1 then 39 :: hexQ us us.length ++ [39] else (quR us).1, (nx zs i).2)
def markC (c : Cm) : List Int := if c.b then 47 :: 42 :: c.t ++ [42, 47] else 47 :: 47 :: c.t
def comsF (cs : List Cm) : List Int := cs.flatMap fun c => markC c ++ if c.b then [] else [10]
def scalW (n : Nod) : List Int := if n.k = 3 then n.text else if n.k = 0 then [110, 117, 108, 108] else if n.k = 1 then [116, 114, 117, 101] else [102, 97, 108, 115, 101]
section
variable (zs : List Int)
/-- A member's key, with what stands around its colon. -/
def lkF (n : Nod) (i : Nat) : List Int × Nat :=
  if n.mem then
    let a := if nmR n.key then (if 0 < (nx zs i).1 % 3 then (n.key, (nx zs i).2) else lqF zs n.key (nx zs i).2) else lqF zs n.key i
    let b := gapF zs a.2
    let c := gapF zs b.2
    (a.1 ++ (b.1 ++ 58 :: c.1), c.2)
  else ([], i)
/-- One item; last: none is behind it. -/
def liF (f : List Nod → Nat → List Int × List Nod × Nat) (last : Bool) (R : List Nod) (i : Nat) : List Int × List Nod × Nat :=
  match R with
  | [] => ([], [], i)
  | n :: R' =>
    let g := gapF zs i
    let k := lkF zs n g.2
    let x := f (n :: R') k.2
    let h := gapF zs x.2.2
    let c : List Int × Nat := if last then (if (nx zs h.2).1 % 3 = 1 then [44] else [], (nx zs h.2).2) else ([44], h.2)
    (g.1 ++ (comsF n.lead ++ (k.1 ++ (x.1 ++ (h.1 ++ c.1)))), x.2.1, c.2)
def lisF (f : List Nod → Nat → List Int × List Nod × Nat) (cnt : Nat) : Nat → List Nod → Nat → List Int × List Nod × Nat
  | 0, R, i => ([], R, i)
  | k + 1, R, i =>
    let s := lisF f cnt k R i
    let x := liF zs f (decide (¬ k + 1 < cnt)) s.2.1 s.2.2
    (s.1 ++ x.1, x.2.1, x.2.2)
def loF : Nat → List Nod → Nat → List Int × List Nod × Nat
  | 0, R, i => ([], R.tail, i)
  | _ + 1, [], i => ([], [], i)
  | d + 1, n :: R, i =>
    if n.k = 4 then ((lqF zs n.units i).1, R, (lqF zs n.units i).2)
    else if n.k < 5 then (scalW n, R, i)
    else
      let s := lisF zs (loF d) n.cnt.toNat n.cnt.toNat R i
      let g := gapF zs s.2.2
      ((if n.k = 6 then 123 else 91) :: (s.1 ++ (g.1 ++ (comsF n.tail ++ [if n.k = 6 then 125 else 93]))), s.2.1, g.2)
/-- A tree's text. -/
def ltF (ns : List Nod) (ts : List Cm) (i : Nat) : List Int × Nat :=
  let g := gapF zs i
  let x := loF zs 9 ns g.2
  let h := gapF zs x.2.2
  (g.1 ++ (comsF (match ns with | [] => [] | n :: _ => n.lead) ++ (x.1 ++ (h.1 ++ comsF ts))), h.2)
end
/-- What is left behind a value is what the walk leaves. -/
theorem li_rest {zs : List Int} {f : List Nod → Nat → List Int × List Nod × Nat} {d : Nat} {m : Bool} (hf : ∀ R R2 i, walkL triv d m (R, ()) = some (R2, ()) → (∀ n ∈ R, n.k < 5 → n.cnt = 0) → (f R i).2.1 = R2) {last : Bool} {R R2 : List Nod} {i : Nat} (h : walkL triv d m (R, ()) = some (R2, ())) (hn : ∀ n ∈ R, n.k < 5 → n.cnt = 0) : (liF zs f last R i).2.1 = R2 := by
  cases R with
  | nil => cases d <;> simp [walkL] at h
  | cons n R => exact hf _ _ _ h hn
theorem lis_rest {zs : List Int} {f : List Nod → Nat → List Int × List Nod × Nat} {d : Nat} {m : Bool} (hf : ∀ R R2 i, walkL triv d m (R, ()) = some (R2, ()) → (∀ n ∈ R, n.k < 5 → n.cnt = 0) → (f R i).2.1 = R2) (cnt : Nat) : ∀ (k : Nat) (R R2 : List Nod) (i : Nat), loopN (walkL triv d m) k (R, ()) = some (R2, ()) → (∀ n ∈ R, n.k < 5 → n.cnt = 0) → (lisF zs f cnt k R i).2.1 = R2
  | 0, R, R2, i, h, _ => by simp only [loopN, Option.some.injEq, Prod.mk.injEq, and_true] at h; exact h
  | k + 1, R, R2, i, h, hn => by
    rw [loopN_snoc, Option.bind_eq_some_iff] at h
    obtain ⟨⟨R1, ⟨⟩⟩, h1, h2⟩ := h
    have ih := lis_rest (zs := zs) hf cnt k R R1 i h1 hn
    obtain ⟨P, hP⟩ := (loop_splits (walk_splits triv d m).1 (walk_splits triv d m).2 k).2 R R1 h1
    simp only [lisF]
    rw [ih]
    exact li_rest hf h2 (fun n hn' => hn n (by rw [hP]; exact List.mem_append_right _ hn'))
theorem lo_rest (zs : List Int) : ∀ (d : Nat) (m : Bool) (R R2 : List Nod) (i : Nat), walkL triv d m (R, ()) = some (R2, ()) → (∀ n ∈ R, n.k < 5 → n.cnt = 0) → (loF zs d R i).2.1 = R2
  | 0, m, R, R2, i, h, _ => by simp [walkL] at h
  | d + 1, m, [], R2, i, h, _ => by simp [walkL] at h
  | d + 1, m, n :: R, R2, i, h, hn => by
    by_cases hm : n.mem ≠ m
    · simp [walkL, hm] at h
    · by_cases hd : 5 ≤ n.k ∧ d = 0
      · simp [walkL, hm, hd, triv] at h
      · simp only [walkL, if_neg hm, if_neg hd, triv, Option.bind_some] at h
        by_cases h5 : n.k < 5
        · rw [hn n (by simp) h5] at h
          simp [loopN] at h
          subst h
          simp only [loF]
          split
          · rfl
          · rfl
        · simp only [loF]
          rw [if_neg (by omega), if_neg h5]
          exact lis_rest (fun R R2 i => lo_rest zs d _ R R2 i) _ _ _ _ _ h (fun p hp => hn p (by simp [hp]))
end Go.Proofs.YtakkdniikhgpdaaGreatDoor

namespace Go.Proofs.YtakkdniikhgpdaaGreatDoor
open Go.RowKit
attribute [-go_sem] Builtin.append_

def lscP (n : Nod) : List Pc := textP (scalW n)
set_option maxHeartbeats 4000000 in
set_option maxRecDepth 100000 in
theorem lvalue_scal (t : Tre) (ind : Int) (i : Nat) (hi : i < t.nodes.length) (hk0 : 0 ≤ t.nodes[i].k) (hk : t.nodes[i].k < 4) (hx1 : t.nodes[i].text.length ≤ 1048576) (nv tv : Value) (w : World) (hv : RdT' w.heap.size w nv tv t) :
    Calls Tryz.prog 85 #[.agg #[nv, tv], .int .i64 i, .int .i64 ind] w fun e w' => ∃ v', e = .returned v' ∧ PoR w.heap.size w' v' (lscP t.nodes[i]) ∧ w.grownBy w' none := by
  obtain ⟨hvn, hvt⟩ := id hv
  obtain ⟨na, ncap, hn0, _⟩ := id hvn
  obtain ⟨ta, tcap, ht0, _⟩ := id hvt
  obtain ⟨b, off, cap', lv, kv, xv, uv, qv, hva, hb0, hp⟩ := hvn.at i hi
  have gA : ∀ W : World, w.grownBy W none → RdB W.heap.size W xv t.nodes[i].text := fun W g => ((hp.rx.keep g).wideC g.size)
  have HX : Hid (∀ W : World, w.grownBy W none → _) := fun W (g : w.grownBy W none) => l6text_any xv t.nodes[i].text W (gA W g) (by omega)
  have z0 := hp.k; have z1 := hp.lead; have z2 := hp.mem; have z3 := hp.key; have z4 := hp.text; have z5 := hp.units; have z6 := hp.cnt; have z7 := hp.tail
  obtain ⟨la, lcap, hlv, _, _⟩ := hp.rl.sl
  obtain ⟨qa, qcap, hqv, _, _⟩ := hp.rt.sl
  obtain ⟨ka, kcap, hkv, _, _⟩ := hp.sk
  obtain ⟨xa, xcap, hxv, _, _⟩ := hp.sx
  obtain ⟨ua, ucap, huv, _, _⟩ := hp.su
  subst hlv hqv hkv hxv huv hva ht0
  cases hn0
  clear hvn hvt hv hp gA
  generalize t.nodes[i] = p at *
  obtain ⟨wA, hwA⟩ : ∃ wA, wA = w.alloc (Obj.cells #[.slice (some ⟨b, off, none⟩) t.nodes.length ncap, .slice ta t.tail.length tcap] 100) := ⟨_, rfl⟩
  have gA : w.grownBy wA none := by rw [hwA]; exact World.grownBy_alloc _ _ _
  have z0' := gA.cell z0 (by simp); have z1' := gA.cell z1 (by simp); have z2' := gA.cell z2 (by simp); have z3' := gA.cell z3 (by simp); have z4' := gA.cell z4 (by simp); have z5' := gA.cell z5 (by simp); have z6' := gA.cell z6 (by simp); have z7' := gA.cell z7 (by simp)
  have sA : wA.heap.size = w.heap.size + 1 := by rw [hwA]; simp
  clear z0 z1 z2 z3 z4 z5 z6 z7
  have g3 : ∀ o1 o2 : Obj, w.grownBy ((wA.alloc o1).alloc o2) none := fun o1 o2 => grown_trans gA (grown_trans (World.grownBy_alloc _ _ _) (World.grownBy_alloc _ _ _))
  have G3 := hide g3
  subst hwA
  clear gA g3
  have hkc : p.k = 0 ∨ p.k = 1 ∨ p.k = 2 ∨ p.k = 3 := by omega
  rcases hkc with hkk | hkk | hkk | hkk
  · have HS := hide (show lscP p = textP [110, 117, 108, 108] by unfold lscP scalW; rw [if_neg (by omega), if_pos hkk])
    have HT : Hid (∀ W : World, _) := fun W => l2text_any [110, 117, 108, 108] (by intro z hz; simp at hz; omega) (by simp) W
    rw [hkk] at z0' hk hk0
    go_enter Tryz.func85, Tryz.ntmps85
    go_wp2_with fail
    refine (HT.out _).mono ?_
    rintro e w4 ⟨v4, rfl, o4, g4⟩
    have gg := G3.out (Obj.cells #[.int .i64 0, .slice la p.lead.length lcap, .bool p.mem, .slice ka p.key.length kcap, .slice xa p.text.length xcap, .slice ua p.units.length ucap, .int .i64 p.cnt, .slice qa p.tail.length qcap] 119) (Obj.cells #[.string { data := #[110, 117, 108, 108] }, .string { data := #[116, 114, 117, 101] }, .string { data := #[102, 97, 108, 115, 101] }] 9)
    have HG := hide (grown_trans gg g4)
    have HO := hide (o4.base gg.size)
    obtain ⟨a4, c4, hv4, _, _⟩ := o4.sl
    subst hv4
    clear o4 g4 HX HT gg
    go_wp2
    go_ret
    exact ⟨_, rfl, by rw [HS.out]; exact HO.out, HG.out⟩
  · have HS := hide (show lscP p = textP [116, 114, 117, 101] by unfold lscP scalW; rw [if_neg (by omega), if_neg (by omega), if_pos hkk])
    have HT : Hid (∀ W : World, _) := fun W => l2text_any [116, 114, 117, 101] (by intro z hz; simp at hz; omega) (by simp) W
    rw [hkk] at z0' hk hk0
    go_enter Tryz.func85, Tryz.ntmps85
    go_wp2_with fail
    refine (HT.out _).mono ?_
    rintro e w4 ⟨v4, rfl, o4, g4⟩
    have gg := G3.out (Obj.cells #[.int .i64 1, .slice la p.lead.length lcap, .bool p.mem, .slice ka p.key.length kcap, .slice xa p.text.length xcap, .slice ua p.units.length ucap, .int .i64 p.cnt, .slice qa p.tail.length qcap] 119) (Obj.cells #[.string { data := #[110, 117, 108, 108] }, .string { data := #[116, 114, 117, 101] }, .string { data := #[102, 97, 108, 115, 101] }] 9)
    have HG := hide (grown_trans gg g4)
    have HO := hide (o4.base gg.size)
    obtain ⟨a4, c4, hv4, _, _⟩ := o4.sl
    subst hv4
    clear o4 g4 HX HT gg
    go_wp2
    go_ret
    exact ⟨_, rfl, by rw [HS.out]; exact HO.out, HG.out⟩
  · have HS := hide (show lscP p = textP [102, 97, 108, 115, 101] by unfold lscP scalW; rw [if_neg (by omega), if_neg (by omega), if_neg (by omega)])
    have HT : Hid (∀ W : World, _) := fun W => l2text_any [102, 97, 108, 115, 101] (by intro z hz; simp at hz; omega) (by simp) W
    rw [hkk] at z0' hk hk0
    go_enter Tryz.func85, Tryz.ntmps85
    go_wp2_with fail
    refine (HT.out _).mono ?_
    rintro e w4 ⟨v4, rfl, o4, g4⟩
    have gg := G3.out (Obj.cells #[.int .i64 2, .slice la p.lead.length lcap, .bool p.mem, .slice ka p.key.length kcap, .slice xa p.text.length xcap, .slice ua p.units.length ucap, .int .i64 p.cnt, .slice qa p.tail.length qcap] 119) (Obj.cells #[.string { data := #[110, 117, 108, 108] }, .string { data := #[116, 114, 117, 101] }, .string { data := #[102, 97, 108, 115, 101] }] 9)
    have HG := hide (grown_trans gg g4)
    have HO := hide (o4.base gg.size)
    obtain ⟨a4, c4, hv4, _, _⟩ := o4.sl
    subst hv4
    clear o4 g4 HX HT gg
    go_wp2
    go_ret
    exact ⟨_, rfl, by rw [HS.out]; exact HO.out, HG.out⟩
  · have HS := hide (show lscP p = textP p.text by unfold lscP scalW; rw [if_pos hkk])
    rw [hkk] at z0' hk hk0
    go_enter Tryz.func85, Tryz.ntmps85
    go_wp2_with fail
    refine (HX.out _ (G3.out _ _)).mono ?_
    rintro e w4 ⟨v4, rfl, o4, g4⟩
    have HG := hide (grown_trans (G3.out (Obj.cells #[.int .i64 3, .slice la p.lead.length lcap, .bool p.mem, .slice ka p.key.length kcap, .slice xa p.text.length xcap, .slice ua p.units.length ucap, .int .i64 p.cnt, .slice qa p.tail.length qcap] 119) (Obj.cells #[.string { data := #[110, 117, 108, 108] }, .string { data := #[116, 114, 117, 101] }, .string { data := #[102, 97, 108, 115, 101] }] 9)) g4)
    have HO := hide (o4.base (G3.out (Obj.cells #[.int .i64 3, .slice la p.lead.length lcap, .bool p.mem, .slice ka p.key.length kcap, .slice xa p.text.length xcap, .slice ua p.units.length ucap, .int .i64 p.cnt, .slice qa p.tail.length qcap] 119) (Obj.cells #[.string { data := #[110, 117, 108, 108] }, .string { data := #[116, 114, 117, 101] }, .string { data := #[102, 97, 108, 115, 101] }] 9)).size)
    obtain ⟨a4, c4, hv4, _, _⟩ := o4.sl
    subst hv4
    clear o4 g4 HX
    go_wp2
    go_ret
    exact ⟨_, rfl, by rw [HS.out]; exact HO.out, HG.out⟩
end Go.Proofs.YtakkdniikhgpdaaGreatDoor

namespace Go.Proofs.YtakkdniikhgpdaaGreatDoor
open Go.RowKit

/-! How long such a text is; that it is bytes. -/
def BL (L : Nat) (t : List Int) : Prop := t.length ≤ L ∧ Bys t
theorem bl_nil {L : Nat} : BL L [] := ⟨by simp, fun z h => by simp at h⟩
theorem BL.app {A B C : Nat} {s t : List Int} (h : BL A s) (h' : BL B t) (hc : A + B ≤ C) : BL C (s ++ t) := ⟨by have := h.1; have := h'.1; simp; omega, fun z hz => by
  rcases List.mem_append.1 hz with hz | hz
  · exact h.2 z hz
  · exact h'.2 z hz⟩
theorem BL.up {A C : Nat} {s : List Int} (h : BL A s) (hc : A ≤ C) : BL C s := ⟨by have := h.1; omega, h.2⟩
theorem bl_one {c : Int} (h : 0 ≤ c ∧ c ≤ 255) : BL 1 [c] := ⟨by simp, fun z hz => by simp at hz; subst hz; exact h⟩
theorem BL.cons {A C : Nat} {s : List Int} {c : Int} (h : BL A s) (hc : 0 ≤ c ∧ c ≤ 255) (hC : A + 1 ≤ C) : BL C (c :: s) := (bl_one hc).app h (by omega)
def BLs (L : Nat) (W : List (List Int)) : Bool := W.all fun t => decide (t.length ≤ L) && t.all fun z => decide (0 ≤ z ∧ z ≤ 255)
theorem BLs.at {L : Nat} {W : List (List Int)} (h : BLs L W = true) (n : Nat) : BL L (W.getD n []) := by
  by_cases hn : n < W.length
  · have h := List.all_eq_true.1 h _ (List.getElem_mem hn)
    simp only [Bool.and_eq_true, decide_eq_true_eq, List.all_eq_true] at h
    rw [List.getD_eq_getElem?_getD, List.getElem?_eq_getElem hn]
    exact ⟨h.1, h.2⟩
  · rw [List.getD_eq_getElem?_getD, List.getElem?_eq_none (by omega)]
    exact bl_nil
section
variable {zs : List Int}
theorem gap_bl (i : Nat) : BL 10 (gapF zs i).1 := by
  unfold gapF
  simp only
  split
  · exact BLs.at (by decide) _
  · exact BLs.at (by decide) _
theorem lhd16 (n : Int) (h0 : 0 ≤ n) (h1 : n < 16) : 0 ≤ hd16 n ∧ hd16 n ≤ 255 := by unfold hd16; split <;> omega
theorem hex4_bl (p : Int) : BL 6 (hex4 p) := by
  refine ⟨by simp [hex4], fun z hz => ?_⟩
  have a := lhd16 (p / 4096 % 16) (by omega) (by omega)
  have b := lhd16 (p / 256 % 16) (by omega) (by omega)
  have c := lhd16 (p / 16 % 16) (by omega) (by omega)
  have d := lhd16 (p % 16) (by omega) (by omega)
  simp [hex4] at hz
  omega
theorem Un.at {us : List Int} (h : Un us) (k : Nat) : 0 ≤ us[k]?.getD 0 ∧ us[k]?.getD 0 < 65536 := by
  by_cases hk : k < us.length
  · rw [List.getElem?_eq_getElem hk]; exact h _ (List.getElem_mem hk)
  · rw [List.getElem?_eq_none (by omega)]; simp
theorem hexQ_bl (us : List Int) : ∀ k, BL (8 * k) (hexQ us k)
  | 0 => bl_nil
  | k + 1 => by
    rw [hexQ]
    refine (hexQ_bl us k).app (B := 8) ((hex4_bl (us[k]?.getD 0)).app (B := 2) ?_ (by omega)) (by omega)
    split
    · exact ⟨by simp, fun z hz => by simp at hz; omega⟩
    · exact bl_nil
theorem lenc_bys (p : Int) (h0 : 0 ≤ p) (h1 : p ≤ 1114111) : Bys (enc p) := by
  intro z hz
  unfold enc at hz
  repeat' split at hz
  all_goals simp at hz
  all_goals omega
theorem lqOne_bys (p : Int) (h0 : 0 ≤ p) (h1 : p ≤ 1114111) : Bys (qOne p) := by
  unfold qOne
  split
  · intro z hz
    unfold short at hz
    repeat' split at hz
    all_goals simp at hz
    all_goals omega
  · split
    · intro z hz
      have a := lhd16 (p / 4096 % 16) (by omega) (by omega)
      have b := lhd16 (p / 256 % 16) (by omega) (by omega)
      have c := lhd16 (p / 16 % 16) (by omega) (by omega)
      have d := lhd16 (p % 16) (by omega) (by omega)
      simp [hex4] at hz
      omega
    · exact lenc_bys p h0 h1
theorem lquR_bys (us : List Int) : Bys (quR us).1 := by
  unfold quR
  split
  · rename_i h
    intro z hz
    simp only [List.cons_append, List.mem_cons, List.mem_append, List.not_mem_nil, or_false] at hz
    rcases hz with rfl | hz | rfl
    · omega
    · unfold qAll at hz
      obtain ⟨p, hp, hz⟩ := List.mem_flatMap.1 hz
      have hb := fu_bd us h p hp
      exact lqOne_bys p hb.1 hb.2 z hz
    · omega
  · intro z hz; simp at hz
theorem lq_bl {us : List Int} (hl : us.length ≤ 64) (i : Nat) : BL 520 (lqF zs us i).1 := by
  unfold lqF
  simp only
  split
  · exact ((hexQ_bl us us.length).cons (C := 8 * us.length + 1) (by omega) (Nat.le_refl _)).app (bl_one (by omega)) (by omega)
  · exact ⟨by have := qu_len us; omega, lquR_bys us⟩
theorem coms_bl : ∀ {cs : List Cm}, (∀ c ∈ cs, CmB 64 c) → BL (70 * cs.length) (comsF cs)
  | [], _ => bl_nil
  | c :: cs, h => by
    have hc := h c (by simp)
    have h1 : BL 70 (markC c ++ if c.b then [] else [10]) := by
      have hx : BL 64 c.t := hc
      unfold markC
      split
      · exact (((hx.cons (by omega) (Nat.le_refl _)).cons (by omega) (Nat.le_refl _)).app (B := 2) ⟨by simp, fun z hz => by simp at hz; omega⟩ (Nat.le_refl _)).app (B := 0) bl_nil (by omega)
      · exact ((hx.cons (by omega) (Nat.le_refl _)).cons (by omega) (Nat.le_refl _)).app (bl_one (by omega)) (by omega)
    show BL _ ((markC c ++ if c.b then [] else [10]) ++ comsF cs)
    exact h1.app (coms_bl (fun x hx => h x (by simp [hx]))) (by simp; omega)
theorem coms_bl' {cs : List Cm} (h : cs.length ≤ 64 ∧ ∀ c ∈ cs, CmB 64 c) : BL 4480 (comsF cs) := (coms_bl h.2).up (by omega)
theorem nm_by {us : List Int} (h : nmR us = true) : ∀ z ∈ us, 0 ≤ z ∧ z < 128 := by
  unfold nmR nmUp at h
  rw [Bool.and_eq_true] at h
  intro z hz
  obtain ⟨j, hj, rfl⟩ := List.getElem_of_mem hz
  have := List.all_eq_true.1 h.1 j (by simpa using hj)
  rw [List.getElem?_eq_getElem hj] at this
  simp only [Option.getD_some, nmAt, isLet, isDig, Bool.or_eq_true, Bool.and_eq_true, decide_eq_true_eq] at this
  omega
theorem lk_bl {n : Nod} (hl : n.key.length ≤ 64) (i : Nat) : BL 541 (lkF zs n i).1 := by
  unfold lkF
  split
  · simp only
    refine BL.app (A := 520) (B := 21) ?_ ((gap_bl _).app (B := 11) ((gap_bl _).cons (by omega) (Nat.le_refl _)) (by omega)) (by omega)
    split
    · rename_i hn
      split
      · exact ⟨by simp only; omega, fun z hz => by have := nm_by hn z hz; omega⟩
      · exact lq_bl hl _
    · exact lq_bl hl _
  · exact bl_nil
/-- A node that a text is made of. -/
structure Gx (p : Nod) : Prop where
  g : Gn p
  l : Gl p
def LnB (t : List Int) (R R' : List Nod) (s : Nat) : Prop := t.length + 10000 * R'.length + s ≤ 10000 * R.length ∧ Bys t
theorem li_ln {f : List Nod → Nat → List Int × List Nod × Nat} (hf : ∀ n R i, (∀ p ∈ n :: R, Gx p) → LnB (f (n :: R) i).1 (n :: R) (f (n :: R) i).2.1 5200) (last : Bool) (R : List Nod) (i : Nat) (hg : ∀ p ∈ R, Gx p) : LnB (liF zs f last R i).1 R (liF zs f last R i).2.1 0 := by
  cases R with
  | nil => exact ⟨by simp [liF], bl_nil (L := 0).2⟩
  | cons n R =>
    have hn := hg n (by simp)
    have hk := lk_bl (zs := zs) hn.g.b.key.1 (gapF zs i).2
    obtain ⟨h1, h2⟩ := hf n R (lkF zs n (gapF zs i).2).2 hg
    simp only [liF]
    generalize f (n :: R) (lkF zs n (gapF zs i).2).2 = x at *
    have hL := coms_bl' hn.g.b.lead
    have hc : BL 1 (if last then (if (nx zs (gapF zs x.2.2).2).1 % 3 = 1 then [44] else [], (nx zs (gapF zs x.2.2).2).2) else ([44], (gapF zs x.2.2).2) : List Int × Nat).1 := by
      split
      · simp only
        split
        · exact bl_one (by omega)
        · exact bl_nil
      · exact bl_one (by omega)
    have hx : BL x.1.length x.1 := ⟨Nat.le_refl _, h2⟩
    obtain ⟨a, b⟩ := (gap_bl (zs := zs) i).app (hL.app (hk.app (hx.app ((gap_bl (zs := zs) x.2.2).app hc (Nat.le_refl _)) (Nat.le_refl _)) (Nat.le_refl _)) (Nat.le_refl _)) (Nat.le_refl _)
    exact ⟨by omega, b⟩
theorem lis_ln {f : List Nod → Nat → List Int × List Nod × Nat} (hf : ∀ n R i, (∀ p ∈ n :: R, Gx p) → LnB (f (n :: R) i).1 (n :: R) (f (n :: R) i).2.1 5200) (hs : ∀ R i, ∃ P, R = P ++ (f R i).2.1) (cnt : Nat) : ∀ (k : Nat) (R : List Nod) (i : Nat), (∀ p ∈ R, Gx p) → LnB (lisF zs f cnt k R i).1 R (lisF zs f cnt k R i).2.1 0 ∧ ∃ P, R = P ++ (lisF zs f cnt k R i).2.1
  | 0, R, i, _ => ⟨⟨by simp [lisF], bl_nil (L := 0).2⟩, [], rfl⟩
  | k + 1, R, i, hg => by
    obtain ⟨⟨h1, h2⟩, P, hP⟩ := lis_ln hf hs cnt k R i hg
    simp only [lisF]
    generalize lisF zs f cnt k R i = s at *
    obtain ⟨h3, h4⟩ := li_ln (zs := zs) hf (decide (¬ k + 1 < cnt)) s.2.1 s.2.2 (fun p hp => hg p (by rw [hP]; exact List.mem_append_right _ hp))
    refine ⟨⟨by rw [List.length_append]; omega, (BL.app (A := s.1.length) (s := s.1) ⟨Nat.le_refl _, h2⟩ ⟨Nat.le_refl _, h4⟩ (Nat.le_refl _)).2⟩, ?_⟩
    have : ∃ Q, s.2.1 = Q ++ (liF zs f (decide (¬ k + 1 < cnt)) s.2.1 s.2.2).2.1 := by
      cases hR : s.2.1 with
      | nil => exact ⟨[], rfl⟩
      | cons n R' => exact hs _ _
    obtain ⟨Q, hQ⟩ := this
    exact ⟨P ++ Q, by rw [List.append_assoc, ← hQ]; exact hP⟩
theorem lis_suf {f : List Nod → Nat → List Int × List Nod × Nat} (hs : ∀ R i, ∃ P, R = P ++ (f R i).2.1) (cnt : Nat) : ∀ (k : Nat) (R : List Nod) (i : Nat), ∃ P, R = P ++ (lisF zs f cnt k R i).2.1
  | 0, R, i => ⟨[], rfl⟩
  | k + 1, R, i => by
    obtain ⟨P, hP⟩ := lis_suf hs cnt k R i
    simp only [lisF]
    generalize lisF zs f cnt k R i = s at *
    have : ∃ Q, s.2.1 = Q ++ (liF zs f (decide (¬ k + 1 < cnt)) s.2.1 s.2.2).2.1 := by
      cases hR : s.2.1 with
      | nil => exact ⟨[], rfl⟩
      | cons n R' => exact hs _ _
    obtain ⟨Q, hQ⟩ := this
    exact ⟨P ++ Q, by rw [List.append_assoc, ← hQ]; exact hP⟩
theorem lo_suf : ∀ (d : Nat) (R : List Nod) (i : Nat), ∃ P, R = P ++ (loF zs d R i).2.1
  | 0, R, i => by cases R with
    | nil => exact ⟨[], rfl⟩
    | cons n R => exact ⟨[n], rfl⟩
  | d + 1, [], i => ⟨[], rfl⟩
  | d + 1, n :: R, i => by
    simp only [loF]
    split
    · exact ⟨[n], rfl⟩
    · split
      · exact ⟨[n], rfl⟩
      · obtain ⟨P, hP⟩ := lis_suf (zs := zs) (lo_suf d) n.cnt.toNat n.cnt.toNat R i
        exact ⟨n :: P, by simp only [List.cons_append]; rw [← hP]⟩
theorem scal_bl {n : Nod} (h : BL 64 n.text) : BL 64 (scalW n) := by
  unfold scalW
  split
  · exact h
  · split
    · exact ⟨by simp, fun z hz => by simp at hz; omega⟩
    · split <;> exact ⟨by simp, fun z hz => by simp at hz; omega⟩
theorem lo_ln : ∀ (d : Nat) (n : Nod) (R : List Nod) (i : Nat), (∀ p ∈ n :: R, Gx p) → LnB (loF zs d (n :: R) i).1 (n :: R) (loF zs d (n :: R) i).2.1 5200
  | 0, n, R, i, _ => ⟨by simp [loF]; omega, bl_nil (L := 0).2⟩
  | d + 1, n, R, i, hg => by
    have hn := hg n (by simp)
    simp only [loF]
    split
    · obtain ⟨a, b⟩ := lq_bl (zs := zs) hn.g.b.units.1 i
      exact ⟨by simp; omega, b⟩
    · split
      · obtain ⟨a, b⟩ := scal_bl (n := n) hn.g.b.text
        exact ⟨by simp; omega, b⟩
      · obtain ⟨⟨h1, h2⟩, P, hP⟩ := lis_ln (zs := zs) (fun n R i => lo_ln d n R i) (lo_suf d) n.cnt.toNat n.cnt.toNat R i (fun p hp => hg p (by simp [hp]))
        generalize lisF zs (loF zs d) n.cnt.toNat n.cnt.toNat R i = s at *
        have hT := coms_bl' hn.g.b.tail
        have hx : BL s.1.length s.1 := ⟨Nat.le_refl _, h2⟩
        have h9 : ∀ (a b : Int), (0 ≤ a ∧ a ≤ 255) → (0 ≤ b ∧ b ≤ 255) → BL 1 [if n.k = 6 then a else b] := fun a b ha hb => by split; exact bl_one ha; exact bl_one hb
        obtain ⟨a, b⟩ := (h9 123 91 (by omega) (by omega)).app (hx.app ((gap_bl (zs := zs) s.2.2).app (hT.app (h9 125 93 (by omega) (by omega)) (Nat.le_refl _)) (Nat.le_refl _)) (Nat.le_refl _)) (Nat.le_refl _)
        refine ⟨?_, b⟩
        simp only [List.singleton_append] at a
        simp only [List.length_cons] at a ⊢
        omega
theorem lt_bl {ns : List Nod} {ts : List Cm} (hg : ∀ p ∈ ns, Gx p) (hl : ns.length ≤ 341) (ht : ts.length ≤ 64 ∧ ∀ c ∈ ts, CmB 64 c) (i : Nat) : BL 4000000 (ltF zs ns ts i).1 := by
  unfold ltF
  simp only
  have hT := coms_bl' ht
  cases ns with
  | nil =>
    exact ((gap_bl i).app (BL.app (A := 0) (B := 4490) (C := 4490) bl_nil (BL.app (A := 0) (B := 4490) (C := 4490) bl_nil ((gap_bl _).app hT (by omega)) (by omega)) (by omega)) (by omega))
  | cons n R =>
    obtain ⟨h1, h2⟩ := lo_ln (zs := zs) 9 n R (gapF zs i).2 hg
    have hL := coms_bl' (hg n (by simp)).g.b.lead
    generalize loF zs 9 (n :: R) (gapF zs i).2 = x at *
    have hx : BL 3410000 x.1 := ⟨by omega, h2⟩
    exact (gap_bl i).app (hL.app (hx.app ((gap_bl x.2.2).app hT (Nat.le_refl _)) (Nat.le_refl _)) (Nat.le_refl _)) (by omega)
end
end Go.Proofs.YtakkdniikhgpdaaGreatDoor

namespace Go.Proofs.YtakkdniikhgpdaaGreatDoor
open Go.RowKit
attribute [-go_sem] Builtin.append_

/-- A word of the texts. -/
def wrdOK (t : List Int) : Bool := pcOK ⟨1, t, 0⟩ && decide (t.length ≤ 64) && t.all fun z => decide (0 ≤ z ∧ z ≤ 255)
theorem scal_wrd {n : Nod} (h : n.k = 3 → n.text ∈ numW) : wrdOK (scalW n) = true := by
  have hw : numW.all wrdOK = true := by decide +kernel
  unfold scalW
  split
  · rename_i h3
    exact List.all_eq_true.1 hw _ (h h3)
  · split
    · decide +kernel
    · split <;> decide +kernel
theorem wrd_facts {t : List Int} (h : wrdOK t = true) : Doc (textP t) ∧ (∀ p ∈ textP t, pcOK p = true) ∧ Seg (textP t) (startsOf (textP t)) (.leaf ⟨1, t, 0⟩) 0 (textP t).length := by
  unfold wrdOK at h
  simp only [Bool.and_eq_true, decide_eq_true_eq, List.all_eq_true] at h
  obtain ⟨⟨h1, h2⟩, h3⟩ := h
  have hm : ∀ p ∈ textP t, p = ⟨1, t, 0⟩ := fun p hp => by simpa [textP] using hp
  refine ⟨⟨by simp [textP], fun p hp => by rw [hm p hp]; simp only; omega, by simp [textP, sumT]; omega, fun p hp => by rw [hm p hp]; exact h3⟩, fun p hp => by rw [hm p hp]; exact h1, ?_⟩
  have hbd : bd (textP t) [] = some [.leaf ⟨1, t, 0⟩] := by simp [textP, bd, bdStep, ar]
  rcases starts_ok (textP t) (by simp [textP]) with ⟨_, T', e1, e2⟩ | ⟨_, h⟩
  · rw [hbd] at e1
    simp at e1
    subst e1
    exact e2
  · exact absurd hbd (h _)

set_option maxHeartbeats 4000000 in
set_option maxRecDepth 100000 in
/-- spec.l6oneLine at a word. -/
theorem lone_scal (t : Tre) (i : Nat) (hi : i < t.nodes.length) (hk0 : 0 ≤ t.nodes[i].k) (hk : t.nodes[i].k < 4) (hx : t.nodes[i].k = 3 → t.nodes[i].text ∈ numW) (hxl : BL 64 t.nodes[i].text) (nv tv : Value) (w : World) (hv : RdT' w.heap.size w nv tv t) :
    Calls Tryz.prog 78 #[.agg #[nv, tv], .int .i64 i] w fun e w' => ∃ v', e = .returned (.tuple #[v', .bool true]) ∧ OwB w.heap.size w' v' (scalW t.nodes[i]) ∧ w.grownBy w' none := by
  have HVAL : Hid (∀ W : World, w.grownBy W none → _) := fun W (g : w.grownBy W none) => lvalue_scal t 0 i hi hk0 hk (by have := hxl.1; omega) nv tv W ⟨(hv.1.keep g).wide g.size, (hv.2.keep g).wide g.size⟩
  obtain ⟨hDoc, hpc, hseg⟩ := wrd_facts (scal_wrd hx)
  have HFL : Hid (∀ va sv B, _) := fun va sv B => l2flat_any va sv B _ _ hDoc hpc _ _ _ hseg
  have hlen := hDoc.len
  have hbl := (scal_bl (n := t.nodes[i]) hxl).1
  have HX1 := hide (show lscP t.nodes[i] = textP (scalW t.nodes[i]) from rfl)
  rw [HX1.out] at HVAL
  generalize scalW t.nodes[i] = S at *
  have hszT : sz (.leaf ⟨1, S, 0⟩ : Tr) ≤ 200 := by simp [sz]; omega
  have hfl : flatT (.leaf ⟨1, S, 0⟩) [] = some S := by simp [flatT]
  generalize textP S = doc at *
  generalize (.leaf ⟨1, S, 0⟩ : Tr) = T at *
  obtain ⟨hvn, hvt⟩ := id hv
  obtain ⟨na, ncap, hn0, hn1, hn2, _⟩ := id hvn
  obtain ⟨ta, tcap, ht0, _⟩ := id hvt
  obtain ⟨b, off, cap', lv, kv, xv, uv, qv, hva, hb0, hp⟩ := hvn.at i hi
  have hlenN : t.nodes.length ≤ 9223372036854775807 := by unfold maxLen at hn2; omega
  have z0 := hp.k; have z1 := hp.lead; have z2 := hp.mem; have z3 := hp.key; have z4 := hp.text; have z5 := hp.units; have z6 := hp.cnt; have z7 := hp.tail
  obtain ⟨la, lcap, hlv, _, _⟩ := hp.rl.sl
  obtain ⟨qa, qcap, hqv, _, _⟩ := hp.rt.sl
  obtain ⟨ka, kcap, hkv, _, _⟩ := hp.sk
  obtain ⟨xa, xcap, hxv, _, _⟩ := hp.sx
  obtain ⟨ua, ucap, huv, _, _⟩ := hp.su
  subst hlv hqv hkv hxv huv hva ht0
  cases hn0
  clear hvn hvt hv hp hDoc hpc hseg hx hxl HX1
  generalize t.nodes[i] = p at *
  obtain ⟨wA, hwA⟩ : ∃ wA, wA = w.alloc (Obj.cells #[.slice (some ⟨b, off, none⟩) t.nodes.length ncap, .slice ta t.tail.length tcap] 100) := ⟨_, rfl⟩
  have gA : w.grownBy wA none := by rw [hwA]; exact World.grownBy_alloc _ _ _
  have z0' := gA.cell z0 (by simp); have z1' := gA.cell z1 (by simp); have z2' := gA.cell z2 (by simp); have z3' := gA.cell z3 (by simp); have z4' := gA.cell z4 (by simp); have z5' := gA.cell z5 (by simp); have z6' := gA.cell z6 (by simp); have z7' := gA.cell z7 (by simp)
  obtain ⟨W3, hW3⟩ : ∃ W3, W3 = wA.alloc (Obj.cells #[.int .i64 p.k, .slice la p.lead.length lcap, .bool p.mem, .slice ka p.key.length kcap, .slice xa p.text.length xcap, .slice ua p.units.length ucap, .int .i64 p.cnt, .slice qa p.tail.length qcap] 119) := ⟨_, rfl⟩
  have gg : w.grownBy W3 none := by rw [hW3]; exact grown_trans gA (World.grownBy_alloc _ _ _)
  have HX := hide (HVAL.out W3 gg)
  have GG := hide gg
  have HW3 := hide hW3
  rw [hW3] at HX
  clear hW3 gg HVAL z0 z1 z2 z3 z4 z5 z6 z7 gA
  subst hwA
  have h5 : p.k < 5 := by omega
  have h5' : decide (p.k < 5) = true := by simpa using h5
  go_enter Tryz.func78, Tryz.ntmps78
  go_wp2_with fail
  refine HX.out.mono ?_
  rintro e w4 ⟨v4, rfl, o4, g4⟩
  have hW3 := HW3.out
  rw [← hW3] at o4 g4
  clear hW3
  have HP4 := hide o4.pi.rdP
  have HST := hide (l2starts_any v4 doc w4 HP4.out (by omega))
  obtain ⟨a4, c4, hv4, _, _⟩ := o4.sl
  have G4 := hide (grown_trans GG.out g4)
  subst hv4
  clear o4 g4 HX
  go_wp2_with fail
  refine HST.out.mono ?_
  rintro e w5 ⟨v5, rfl, o5, g5⟩
  have HF := hide (HFL.out (.slice a4 doc.length c4) v5 w5.heap.size w5 (.slice none 0 0) [] (Nat.le_refl _) ((HP4.out.keep g5).wide g5.size) o5.rd ⟨by simp, .inl ⟨rfl, rfl⟩⟩ (by simp; omega))
  obtain ⟨a5, c5, hv5, _, _⟩ := o5.sl
  have G5 := hide (grown_trans G4.out g5)
  generalize (startsOf doc).length = SL at hv5
  subst hv5
  clear o5 g5 HFL HST HP4
  rw [hfl] at HF
  clear hfl
  go_wp2_with fail
  refine HF.out.mono ?_
  rintro e w6 ⟨hbel, hr⟩
  have G6 := hide (grown_trans G5.out (grown_of_below hbel))
  have hs5 := G5.out.size
  clear HF hbel
  obtain ⟨v6, rfl, o6⟩ := hr
  obtain ⟨a6, c6, hv6, _, _⟩ := o6.sl
  have HO6 := hide (row_base hs5 o6)
  generalize S.length = OL at hv6
  subst hv6
  clear o6
  go_wp2
  go_ret2
  exact ⟨_, rfl, HO6.out, G6.out⟩
end Go.Proofs.YtakkdniikhgpdaaGreatDoor

