import Derived.Test.YtakkdniikhgpdaaGreatDoorMAO
import Derived.Test.YtakkdniikhgpdaaGreatDoorMAP
import Derived.Test.YtakkdniikhgpdaaGreatDoorMAR
import Derived.Test.YtakkdniikhgpdaaGreatDoorMAT
import Derived.Test.YtakkdniikhgpdaaGreatDoorMAY
namespace Go.Proofs.YtakkdniikhgpdaaGreatDoor
open Go.RowKit

/-! The shape of a drawn tree. -/

theorem loopN_snoc {σ : Type} (f : σ → Option σ) : ∀ (k : Nat) (s : σ), loopN f (k + 1) s = (loopN f k s).bind f
  | 0, s => by simp only [loopN, Option.bind_some]; cases f s <;> rfl
  | k + 1, s => by
    rw [loopN]
    cases h : f s with
    | none => simp [loopN, h]
    | some x => rw [Option.bind_some, loopN_snoc f k x]; simp [loopN, h]
/-- A value of its own, with at most d lists below it. -/
def Shp (d : Nat) (ns : List Nod) : Prop := ∃ n P, ns = n :: P ∧ n.mem = false ∧ (5 ≤ n.k → d ≠ 0) ∧ ∀ R, loopN (walkL triv d (decide (n.k = 6))) n.cnt.toNat (P ++ R, ()) = some (R, ())
theorem Shp.walk {d : Nat} {ns : List Nod} (h : Shp d ns) (R : List Nod) : walkL triv (d + 1) false (ns ++ R, ()) = some (R, ()) := by
  obtain ⟨n, P, rfl, h1, h2, h3⟩ := h
  simp only [List.cons_append, walkL, h1, ne_eq, not_true_eq_false, if_false, triv, Option.bind_some]
  rw [if_neg (fun h => h2 h.1 h.2)]
  exact h3 R
theorem Shp.mem {d : Nat} {ns : List Nod} (h : Shp d ns) (key : List Int) (R : List Nod) : walkL triv (d + 1) true (memH key ns ++ R, ()) = some (R, ()) := by
  obtain ⟨n, P, rfl, h1, h2, h3⟩ := h
  simp only [memH, List.cons_append, walkL, ne_eq, not_true_eq_false, if_false, triv, Option.bind_some]
  rw [if_neg (fun h => h2 h.1 h.2)]
  exact h3 R
theorem shp_scal {n : Nod} (h : n.k < 5) (h0 : n.mem = false) (hc : n.cnt = 0) (d : Nat) : Shp d [n] := ⟨n, [], rfl, h0, fun h' => by omega, fun R => by rw [hc]; rfl⟩
section
variable {zs : List Int}
theorem items_shp {f : Nat → List Nod × Nat} {obj : Bool} {d : Nat} (hf : ∀ p, Shp d (f p).1) : ∀ (m i : Nat) (R : List Nod), loopN (walkL triv (d + 1) obj) (dItems zs f obj m i).2.1 ((dItems zs f obj m i).1 ++ R, ()) = some (R, ())
  | 0, i, R => rfl
  | m + 1, i, R => by
    rw [dItems]
    split
    · rename_i hc
      have ih := items_shp (obj := obj) hf m i
      rw [hc.1] at ih
      simp only
      rw [loopN_snoc, List.append_assoc, ih, Option.bind_some]
      unfold dItem
      cases obj with
      | true => rw [if_pos rfl]; exact (hf _).mem _ R
      | false => rw [if_neg (by simp)]; exact (hf _).walk R
    · exact items_shp hf m i R
theorem nodes_shp (rare : Int) : ∀ (d i : Nat), Shp d (dNodes zs rare d i).1 := by
  intro d
  induction d with
  | zero =>
    intro i
    by_cases h : (nx zs i).1 % 16 < 3 ∨ (0 = 0 ∧ 9 < (nx zs i).1 % 16)
    · rw [dN_scal h]; exact shp_scal (by simp only; omega) rfl rfl _
    · by_cases h2 : (nx zs i).1 % 16 < 6
      · rw [dN_num h h2]; exact shp_scal (by simp only; omega) rfl rfl _
      · rw [dN_str h h2 (.inr rfl)]; exact shp_scal (by simp only; omega) rfl rfl _
  | succ d ih =>
    intro i
    by_cases h : (nx zs i).1 % 16 < 3 ∨ (d + 1 = 0 ∧ 9 < (nx zs i).1 % 16)
    · rw [dN_scal h]; exact shp_scal (by simp only; omega) rfl rfl _
    · by_cases h2 : (nx zs i).1 % 16 < 6
      · rw [dN_num h h2]; exact shp_scal (by simp only; omega) rfl rfl _
      · by_cases h3 : (nx zs i).1 % 16 < 9
        · rw [dN_str h h2 (.inl h3)]; exact shp_scal (by simp only; omega) rfl rfl _
        · rw [dN_cont h2 h3]
          refine ⟨_, _, rfl, rfl, fun _ => by omega, fun R => ?_⟩
          have := items_shp (zs := zs) (obj := decide ((nx zs i).1 % 16 % 2 = 1)) ih ((nx zs (dComs zs rare (nx zs i).2).2).1 % 5).toNat (nx zs (dComs zs rare (nx zs i).2).2).2 R
          unfold dBel
          simp only [Int.toNat_natCast]
          have e : decide (5 + (nx zs i).1 % 16 % 2 = 6) = decide ((nx zs i).1 % 16 % 2 = 1) := decide_eq_decide.2 (by omega)
          rw [e]
          exact this
theorem Shp.more {d d' : Nat} {ns : List Nod} (h : Shp d ns) (hd : d ≤ d') : Shp d' ns := by
  obtain ⟨n, P, h0, h1, h2, h3⟩ := h
  exact ⟨n, P, h0, h1, fun h => by have := h2 h; omega, fun R => loop_more (fun a b hab => walk_more triv d d' _ a b hd hab) _ _ _ (h3 R)⟩
theorem more_shp (rare : Int) : ∀ (m d : Nat) (s : List Nod × Nat), 3 ≤ d → Shp d s.1 → Shp (d + m) (dMore zs rare m s).1
  | 0, d, s, _, h => h
  | m + 1, d, s, hd, h => by
    rw [dMore]
    split
    · have := more_shp rare m (d + 1) ({ nod0 with k := 5, cnt := 2 } :: (s.1 ++ (dNodes zs rare 3 s.2).1), (dNodes zs rare 3 s.2).2) (by omega) ⟨_, _, rfl, rfl, fun _ => by omega, fun R => ?_⟩
      · rw [show d + (m + 1) = d + 1 + m by omega]; exact this
      · show loopN (walkL triv (d + 1) (decide ((5 : Int) = 6))) (2 : Int).toNat _ = _
        rw [show decide ((5 : Int) = 6) = false from rfl, show (2 : Int).toNat = 2 from rfl]
        simp only [loopN, List.append_assoc]
        rw [h.walk, Option.bind_some, ((nodes_shp rare 3 s.2).more hd).walk]
        rfl
    · exact h.more (by omega)
theorem good_walk (i : Nat) : walkL triv 9 false ((dGood zs i).1.1, ()) = some ([], ()) := by
  have := (more_shp (zs := zs) (rareV (nx zs i).1 (nx zs (nx zs i).2).1) 4 4 _ (by omega) (nodes_shp (zs := zs) (rareV (nx zs i).1 (nx zs (nx zs i).2).1) 4 (nx zs (nx zs i).2).2)).walk []
  rw [List.append_nil] at this
  exact this
end

/-! What is known of its nodes. -/
def Un (zs : List Int) : Prop := ∀ z ∈ zs, 0 ≤ z ∧ z < 65536
structure Gl (p : Nod) : Prop where
  key : Un p.key
  units : Un p.units
  text : p.k = 3 → p.text ∈ numW
  cnt : p.k < 5 → p.cnt = 0
theorem un_nil : Un [] := fun z h => by simp at h
section
variable {zs : List Int}
theorem duOne_u (hz : Bys zs) (i : Nat) : 0 ≤ (duOne zs i).1 ∧ (duOne zs i).1 < 65536 := by
  have h1 := nx_bd hz i
  unfold duOne
  split
  · simp only; omega
  · split
    · simp only; omega
    · simp only; omega
theorem dusN_u (hz : Bys zs) (i : Nat) : ∀ m, Un (dusN zs m i).1
  | 0, z, h => by simp [dusN] at h
  | m + 1, z, h => by
    simp only [dusN, List.mem_append, List.mem_singleton] at h
    rcases h with h | rfl
    · exact dusN_u hz i m z h
    · exact duOne_u hz _
theorem key_u (hz : Bys zs) (i : Nat) : Un (dKey zs i).1 := by
  unfold dKey
  split
  · exact dusN_u hz _ _
  · have : keyW.all (fun t => t.all fun z => decide (0 ≤ z ∧ z ≤ 300)) = true := by decide
    by_cases hn : ((nx zs i).1 % 13).toNat < keyW.length
    · have h := List.all_eq_true.1 this _ (List.getElem_mem hn)
      simp only [decide_eq_true_eq, List.all_eq_true] at h
      rw [List.getD_eq_getElem?_getD, List.getElem?_eq_getElem hn]
      exact fun z hm => by have := h z hm; omega
    · rw [List.getD_eq_getElem?_getD, List.getElem?_eq_none (by omega)]
      exact un_nil
theorem num_w (hz : Bys zs) (i : Nat) : (dNum zs i).1 ∈ numW := by
  have h1 := nx_bd hz i
  have hn : ((nx zs i).1 % 22).toNat < numW.length := by simp [numW]; omega
  unfold dNum
  simp only
  rw [List.getD_eq_getElem?_getD, List.getElem?_eq_getElem hn]
  exact List.getElem_mem hn
theorem mem_gl {key : List Int} (hy : Un key) {ns : List Nod} (h : ∀ p ∈ ns, Gl p) : ∀ p ∈ memH key ns, Gl p := by
  cases ns with
  | nil => exact h
  | cons q ns =>
    intro p hp
    rcases List.mem_cons.1 hp with rfl | hp
    · have := h q (by simp)
      exact ⟨hy, this.units, this.text, this.cnt⟩
    · exact h p (by simp [hp])
theorem items_gl (hz : Bys zs) {f : Nat → List Nod × Nat} {obj : Bool} (hf : ∀ p, ∀ q ∈ (f p).1, Gl q) : ∀ (m i : Nat), ∀ q ∈ (dItems zs f obj m i).1, Gl q
  | 0, i => fun q h => by simp [dItems] at h
  | m + 1, i => by
    have h1 := items_gl hz (obj := obj) hf m i
    rw [dItems]
    split
    · intro q hq
      rcases List.mem_append.1 hq with hq | hq
      · exact h1 q hq
      · unfold dItem at hq
        split at hq
        · exact mem_gl (key_u hz _) (hf _) q hq
        · exact hf _ q hq
    · exact h1
theorem gl_scal {l : List Cm} {k : Int} (h : k ≠ 3) : Gl { nod0 with k := k, lead := l } := ⟨un_nil, un_nil, fun e => absurd e h, fun _ => rfl⟩
theorem gl_num {l : List Cm} {x : List Int} (h : x ∈ numW) : Gl { nod0 with k := 3, lead := l, text := x } := ⟨un_nil, un_nil, fun _ => h, fun _ => rfl⟩
theorem gl_str {l : List Cm} {x : List Int} (h : Un x) : Gl { nod0 with k := 4, lead := l, units := x } := ⟨un_nil, h, fun e => by simp at e, fun _ => rfl⟩
theorem nodes_gl (hz : Bys zs) (rare : Int) : ∀ (d i : Nat), ∀ q ∈ (dNodes zs rare d i).1, Gl q := by
  intro d
  induction d with
  | zero =>
    intro i q hq
    by_cases h : (nx zs i).1 % 16 < 3 ∨ (0 = 0 ∧ 9 < (nx zs i).1 % 16)
    · rw [dN_scal h] at hq; simp at hq; subst hq
      exact gl_scal (by omega)
    · by_cases h2 : (nx zs i).1 % 16 < 6
      · rw [dN_num h h2] at hq; simp at hq; subst hq
        exact gl_num (num_w hz _)
      · rw [dN_str h h2 (.inr rfl)] at hq; simp at hq; subst hq
        exact gl_str (dusN_u hz _ _)
  | succ d ih =>
    intro i q hq
    by_cases h : (nx zs i).1 % 16 < 3 ∨ (d + 1 = 0 ∧ 9 < (nx zs i).1 % 16)
    · rw [dN_scal h] at hq; simp at hq; subst hq
      exact gl_scal (by omega)
    · by_cases h2 : (nx zs i).1 % 16 < 6
      · rw [dN_num h h2] at hq; simp at hq; subst hq
        exact gl_num (num_w hz _)
      · by_cases h3 : (nx zs i).1 % 16 < 9
        · rw [dN_str h h2 (.inl h3)] at hq; simp at hq; subst hq
          exact gl_str (dusN_u hz _ _)
        · rw [dN_cont h2 h3] at hq
          rcases List.mem_cons.1 hq with rfl | hq
          · exact ⟨un_nil, un_nil, fun e => by simp only at e; omega, fun e => by simp only at e; omega⟩
          · exact items_gl hz ih _ _ q hq
theorem more_gl (hz : Bys zs) (rare : Int) : ∀ (m : Nat) (s : List Nod × Nat), (∀ q ∈ s.1, Gl q) → ∀ q ∈ (dMore zs rare m s).1, Gl q
  | 0, s, h => h
  | m + 1, s, h => by
    rw [dMore]
    split
    · refine more_gl hz rare m _ (fun q hq => ?_)
      simp only [List.mem_cons, List.mem_append] at hq
      rcases hq with rfl | hq | hq
      · exact ⟨un_nil, un_nil, fun e => by simp at e, fun e => by simp at e⟩
      · exact h q hq
      · exact nodes_gl hz rare 3 _ q hq
    · exact h
theorem good_gl (hz : Bys zs) (i : Nat) : ∀ q ∈ (dGood zs i).1.1, Gl q := more_gl hz _ 4 _ (nodes_gl hz _ 4 _)
end

/-! Its text, laid out in any way. -/
def gapW : List (List Int) := [[], [], [32], [10], [32, 32], [13, 10], [9], [194, 160], [226, 128, 168], [239, 187, 191]]
def markW : List (List Int) := [[47, 42, 42, 47], [47, 47, 32, 120, 10], [47, 42, 32, 97, 13, 10, 98, 32, 42, 47], [47, 47, 13], [47, 42, 226, 128, 169, 42, 47]]
def gapF (zs : List Int) (i : Nat) : List Int × Nat :=
  (if 245 < (nx zs i).1 then markW.getD ((nx zs i).1 % 5).toNat [] else gapW.getD ((nx zs i).1 % 10).toNat [], (nx zs i).2)
/-- The units by their numbers. -/
def hexQ (us : List Int) : Nat → List Int
  | 0 => []
  | k + 1 => hexQ us k ++ (hex4 (us[k]?.getD 0) ++ if (k : Int) % 3 = 1 then [92, 10] else [])
def lqF (zs us : List Int) (i : Nat) : List Int × Nat :=
  (if (nx zs i).1 % 4 = 1 then 39 :: hexQ us us.length ++ [39] else (quR us).1, (nx zs i).2)
def markC (c : Cm) : List Int := if c.b then 47 :: 42 :: c.t ++ [42, 47] else 47 :: 47 :: c.t
def comsF (cs : List Cm) : List Int := cs.flatMap fun c => markC c ++ if c.b then [] else [10]
def scalW (n : Nod) : List Int := if n.k = 3 then n.text else if n.k = 0 then [110, 117, 108, 108] else if n.k = 1 then [116, 114, 117, 101] else [102, 97, 108, 115, 101]
section
variable (zs : List Int)
/-- A member's key, with what stands around its colon. -/
def lkF (n : Nod) (i : Nat) : List Int × Nat :=
  if n.mem then
    let a := if nmR n.key then (if 0 < (nx zs i).1 % 3 then (n.key, (nx zs i).2) else lqF zs n.key (nx zs i).2) else lqF zs n.key i
    let b := gapF zs a.2
    let c := gapF zs b.2
    (a.1 ++ (b.1 ++ 58 :: c.1), c.2)
  else ([], i)
/-- One item; last: none is behind it. -/
def liF (f : List Nod → Nat → List Int × List Nod × Nat) (last : Bool) (R : List Nod) (i : Nat) : List Int × List Nod × Nat :=
  match R with
  | [] => ([], [], i)
  | n :: R' =>
    let g := gapF zs i
    let k := lkF zs n g.2
    let x := f (n :: R') k.2
    let h := gapF zs x.2.2
    let c : List Int × Nat := if last then (if (nx zs h.2).1 % 3 = 1 then [44] else [], (nx zs h.2).2) else ([44], h.2)
    (g.1 ++ (comsF n.lead ++ (k.1 ++ (x.1 ++ (h.1 ++ c.1)))), x.2.1, c.2)
def lisF (f : List Nod → Nat → List Int × List Nod × Nat) (cnt : Nat) : Nat → List Nod → Nat → List Int × List Nod × Nat
  | 0, R, i => ([], R, i)
  | k + 1, R, i =>
    let s := lisF f cnt k R i
    let x := liF zs f (decide (¬ k + 1 < cnt)) s.2.1 s.2.2
    (s.1 ++ x.1, x.2.1, x.2.2)
def loF : Nat → List Nod → Nat → List Int × List Nod × Nat
  | 0, R, i => ([], R.tail, i)
  | _ + 1, [], i => ([], [], i)
  | d + 1, n :: R, i =>
    if n.k = 4 then ((lqF zs n.units i).1, R, (lqF zs n.units i).2)
    else if n.k < 5 then (scalW n, R, i)
    else
      let s := lisF zs (loF d) n.cnt.toNat n.cnt.toNat R i
      let g := gapF zs s.2.2
      ((if n.k = 6 then 123 else 91) :: (s.1 ++ (g.1 ++ (comsF n.tail ++ [if n.k = 6 then 125 else 93]))), s.2.1, g.2)
/-- A tree's text. -/
def ltF (ns : List Nod) (ts : List Cm) (i : Nat) : List Int × Nat :=
  let g := gapF zs i
  let x := loF zs 9 ns g.2
  let h := gapF zs x.2.2
  (g.1 ++ (comsF (match ns with | [] => [] | n :: _ => n.lead) ++ (x.1 ++ (h.1 ++ comsF ts))), h.2)
end
/-- What is left behind a value is what the walk leaves. -/
theorem li_rest {zs : List Int} {f : List Nod → Nat → List Int × List Nod × Nat} {d : Nat} {m : Bool} (hf : ∀ R R2 i, walkL triv d m (R, ()) = some (R2, ()) → (∀ n ∈ R, n.k < 5 → n.cnt = 0) → (f R i).2.1 = R2) {last : Bool} {R R2 : List Nod} {i : Nat} (h : walkL triv d m (R, ()) = some (R2, ())) (hn : ∀ n ∈ R, n.k < 5 → n.cnt = 0) : (liF zs f last R i).2.1 = R2 := by
  cases R with
  | nil => cases d <;> simp [walkL] at h
  | cons n R => exact hf _ _ _ h hn
theorem lis_rest {zs : List Int} {f : List Nod → Nat → List Int × List Nod × Nat} {d : Nat} {m : Bool} (hf : ∀ R R2 i, walkL triv d m (R, ()) = some (R2, ()) → (∀ n ∈ R, n.k < 5 → n.cnt = 0) → (f R i).2.1 = R2) (cnt : Nat) : ∀ (k : Nat) (R R2 : List Nod) (i : Nat), loopN (walkL triv d m) k (R, ()) = some (R2, ()) → (∀ n ∈ R, n.k < 5 → n.cnt = 0) → (lisF zs f cnt k R i).2.1 = R2
  | 0, R, R2, i, h, _ => by simp only [loopN, Option.some.injEq, Prod.mk.injEq, and_true] at h; exact h
  | k + 1, R, R2, i, h, hn => by
    rw [loopN_snoc, Option.bind_eq_some_iff] at h
    obtain ⟨⟨R1, ⟨⟩⟩, h1, h2⟩ := h
    have ih := lis_rest (zs := zs) hf cnt k R R1 i h1 hn
    obtain ⟨P, hP⟩ := (loop_splits (walk_splits triv d m).1 (walk_splits triv d m).2 k).2 R R1 h1
    simp only [lisF]
    rw [ih]
    exact li_rest hf h2 (fun n hn' => hn n (by rw [hP]; exact List.mem_append_right _ hn'))
theorem lo_rest (zs : List Int) : ∀ (d : Nat) (m : Bool) (R R2 : List Nod) (i : Nat), walkL triv d m (R, ()) = some (R2, ()) → (∀ n ∈ R, n.k < 5 → n.cnt = 0) → (loF zs d R i).2.1 = R2
  | 0, m, R, R2, i, h, _ => by simp [walkL] at h
  | d + 1, m, [], R2, i, h, _ => by simp [walkL] at h
  | d + 1, m, n :: R, R2, i, h, hn => by
    by_cases hm : n.mem ≠ m
    · simp [walkL, hm] at h
    · by_cases hd : 5 ≤ n.k ∧ d = 0
      · simp [walkL, hm, hd, triv] at h
      · simp only [walkL, if_neg hm, if_neg hd, triv, Option.bind_some] at h
        by_cases h5 : n.k < 5
        · rw [hn n (by simp) h5] at h
          simp [loopN] at h
          subst h
          simp only [loF]
          split
          · rfl
          · rfl
        · simp only [loF]
          rw [if_neg (by omega), if_neg h5]
          exact lis_rest (fun R R2 i => lo_rest zs d _ R R2 i) _ _ _ _ _ h (fun p hp => hn p (by simp [hp]))
end Go.Proofs.YtakkdniikhgpdaaGreatDoor

namespace Go.Proofs.YtakkdniikhgpdaaGreatDoor
open Go.RowKit

/-! How long such a text is; that it is bytes. -/
def BL (L : Nat) (t : List Int) : Prop := t.length ≤ L ∧ Bys t
theorem bl_nil {L : Nat} : BL L [] := ⟨by simp, fun z h => by simp at h⟩
theorem BL.app {A B C : Nat} {s t : List Int} (h : BL A s) (h' : BL B t) (hc : A + B ≤ C) : BL C (s ++ t) := ⟨by have := h.1; have := h'.1; simp; omega, fun z hz => by
  rcases List.mem_append.1 hz with hz | hz
  · exact h.2 z hz
  · exact h'.2 z hz⟩
theorem BL.up {A C : Nat} {s : List Int} (h : BL A s) (hc : A ≤ C) : BL C s := ⟨by have := h.1; omega, h.2⟩
theorem bl_one {c : Int} (h : 0 ≤ c ∧ c ≤ 255) : BL 1 [c] := ⟨by simp, fun z hz => by simp at hz; subst hz; exact h⟩
theorem BL.cons {A C : Nat} {s : List Int} {c : Int} (h : BL A s) (hc : 0 ≤ c ∧ c ≤ 255) (hC : A + 1 ≤ C) : BL C (c :: s) := (bl_one hc).app h (by omega)
def BLs (L : Nat) (W : List (List Int)) : Bool := W.all fun t => decide (t.length ≤ L) && t.all fun z => decide (0 ≤ z ∧ z ≤ 255)
theorem BLs.at {L : Nat} {W : List (List Int)} (h : BLs L W = true) (n : Nat) : BL L (W.getD n []) := by
  by_cases hn : n < W.length
  · have h := List.all_eq_true.1 h _ (List.getElem_mem hn)
    simp only [Bool.and_eq_true, decide_eq_true_eq, List.all_eq_true] at h
    rw [List.getD_eq_getElem?_getD, List.getElem?_eq_getElem hn]
    exact ⟨h.1, h.2⟩
  · rw [List.getD_eq_getElem?_getD, List.getElem?_eq_none (by omega)]
    exact bl_nil
section
variable {zs : List Int}
theorem gap_bl (i : Nat) : BL 10 (gapF zs i).1 := by
  unfold gapF
  simp only
  split
  · exact BLs.at (by decide) _
  · exact BLs.at (by decide) _
theorem lhd16 (n : Int) (h0 : 0 ≤ n) (h1 : n < 16) : 0 ≤ hd16 n ∧ hd16 n ≤ 255 := by unfold hd16; split <;> omega
theorem hex4_bl (p : Int) : BL 6 (hex4 p) := by
  refine ⟨by simp [hex4], fun z hz => ?_⟩
  have a := lhd16 (p / 4096 % 16) (by omega) (by omega)
  have b := lhd16 (p / 256 % 16) (by omega) (by omega)
  have c := lhd16 (p / 16 % 16) (by omega) (by omega)
  have d := lhd16 (p % 16) (by omega) (by omega)
  simp [hex4] at hz
  omega
theorem Un.at {us : List Int} (h : Un us) (k : Nat) : 0 ≤ us[k]?.getD 0 ∧ us[k]?.getD 0 < 65536 := by
  by_cases hk : k < us.length
  · rw [List.getElem?_eq_getElem hk]; exact h _ (List.getElem_mem hk)
  · rw [List.getElem?_eq_none (by omega)]; simp
theorem hexQ_bl (us : List Int) : ∀ k, BL (8 * k) (hexQ us k)
  | 0 => bl_nil
  | k + 1 => by
    rw [hexQ]
    refine (hexQ_bl us k).app (B := 8) ((hex4_bl (us[k]?.getD 0)).app (B := 2) ?_ (by omega)) (by omega)
    split
    · exact ⟨by simp, fun z hz => by simp at hz; omega⟩
    · exact bl_nil
theorem lenc_bys (p : Int) (h0 : 0 ≤ p) (h1 : p ≤ 1114111) : Bys (enc p) := by
  intro z hz
  unfold enc at hz
  repeat' split at hz
  all_goals simp at hz
  all_goals omega
theorem lqOne_bys (p : Int) (h0 : 0 ≤ p) (h1 : p ≤ 1114111) : Bys (qOne p) := by
  unfold qOne
  split
  · intro z hz
    unfold short at hz
    repeat' split at hz
    all_goals simp at hz
    all_goals omega
  · split
    · intro z hz
      have a := lhd16 (p / 4096 % 16) (by omega) (by omega)
      have b := lhd16 (p / 256 % 16) (by omega) (by omega)
      have c := lhd16 (p / 16 % 16) (by omega) (by omega)
      have d := lhd16 (p % 16) (by omega) (by omega)
      simp [hex4] at hz
      omega
    · exact lenc_bys p h0 h1
theorem lquR_bys (us : List Int) : Bys (quR us).1 := by
  unfold quR
  split
  · rename_i h
    intro z hz
    simp only [List.cons_append, List.mem_cons, List.mem_append, List.not_mem_nil, or_false] at hz
    rcases hz with rfl | hz | rfl
    · omega
    · unfold qAll at hz
      obtain ⟨p, hp, hz⟩ := List.mem_flatMap.1 hz
      have hb := fu_bd us h p hp
      exact lqOne_bys p hb.1 hb.2 z hz
    · omega
  · intro z hz; simp at hz
theorem lq_bl {us : List Int} (hl : us.length ≤ 64) (i : Nat) : BL 520 (lqF zs us i).1 := by
  unfold lqF
  simp only
  split
  · exact ((hexQ_bl us us.length).cons (C := 8 * us.length + 1) (by omega) (Nat.le_refl _)).app (bl_one (by omega)) (by omega)
  · exact ⟨by have := qu_len us; omega, lquR_bys us⟩
theorem coms_bl : ∀ {cs : List Cm}, (∀ c ∈ cs, CmB 64 c) → BL (70 * cs.length) (comsF cs)
  | [], _ => bl_nil
  | c :: cs, h => by
    have hc := h c (by simp)
    have h1 : BL 70 (markC c ++ if c.b then [] else [10]) := by
      have hx : BL 64 c.t := hc
      unfold markC
      split
      · exact (((hx.cons (by omega) (Nat.le_refl _)).cons (by omega) (Nat.le_refl _)).app (B := 2) ⟨by simp, fun z hz => by simp at hz; omega⟩ (Nat.le_refl _)).app (B := 0) bl_nil (by omega)
      · exact ((hx.cons (by omega) (Nat.le_refl _)).cons (by omega) (Nat.le_refl _)).app (bl_one (by omega)) (by omega)
    show BL _ ((markC c ++ if c.b then [] else [10]) ++ comsF cs)
    exact h1.app (coms_bl (fun x hx => h x (by simp [hx]))) (by simp; omega)
theorem coms_bl' {cs : List Cm} (h : cs.length ≤ 64 ∧ ∀ c ∈ cs, CmB 64 c) : BL 4480 (comsF cs) := (coms_bl h.2).up (by omega)
theorem nm_by {us : List Int} (h : nmR us = true) : ∀ z ∈ us, 0 ≤ z ∧ z < 128 := by
  unfold nmR nmUp at h
  rw [Bool.and_eq_true] at h
  intro z hz
  obtain ⟨j, hj, rfl⟩ := List.getElem_of_mem hz
  have := List.all_eq_true.1 h.1 j (by simpa using hj)
  rw [List.getElem?_eq_getElem hj] at this
  simp only [Option.getD_some, nmAt, isLet, isDig, Bool.or_eq_true, Bool.and_eq_true, decide_eq_true_eq] at this
  omega
theorem lk_bl {n : Nod} (hl : n.key.length ≤ 64) (i : Nat) : BL 541 (lkF zs n i).1 := by
  unfold lkF
  split
  · simp only
    refine BL.app (A := 520) (B := 21) ?_ ((gap_bl _).app (B := 11) ((gap_bl _).cons (by omega) (Nat.le_refl _)) (by omega)) (by omega)
    split
    · rename_i hn
      split
      · exact ⟨by simp only; omega, fun z hz => by have := nm_by hn z hz; omega⟩
      · exact lq_bl hl _
    · exact lq_bl hl _
  · exact bl_nil
/-- A node that a text is made of. -/
structure Gx (p : Nod) : Prop where
  g : Gn p
  l : Gl p
def LnB (t : List Int) (R R' : List Nod) (s : Nat) : Prop := t.length + 10000 * R'.length + s ≤ 10000 * R.length ∧ Bys t
theorem li_ln {f : List Nod → Nat → List Int × List Nod × Nat} (hf : ∀ n R i, (∀ p ∈ n :: R, Gx p) → LnB (f (n :: R) i).1 (n :: R) (f (n :: R) i).2.1 5200) (last : Bool) (R : List Nod) (i : Nat) (hg : ∀ p ∈ R, Gx p) : LnB (liF zs f last R i).1 R (liF zs f last R i).2.1 0 := by
  cases R with
  | nil => exact ⟨by simp [liF], bl_nil (L := 0).2⟩
  | cons n R =>
    have hn := hg n (by simp)
    have hk := lk_bl (zs := zs) hn.g.b.key.1 (gapF zs i).2
    obtain ⟨h1, h2⟩ := hf n R (lkF zs n (gapF zs i).2).2 hg
    simp only [liF]
    generalize f (n :: R) (lkF zs n (gapF zs i).2).2 = x at *
    have hL := coms_bl' hn.g.b.lead
    have hc : BL 1 (if last then (if (nx zs (gapF zs x.2.2).2).1 % 3 = 1 then [44] else [], (nx zs (gapF zs x.2.2).2).2) else ([44], (gapF zs x.2.2).2) : List Int × Nat).1 := by
      split
      · simp only
        split
        · exact bl_one (by omega)
        · exact bl_nil
      · exact bl_one (by omega)
    have hx : BL x.1.length x.1 := ⟨Nat.le_refl _, h2⟩
    obtain ⟨a, b⟩ := (gap_bl (zs := zs) i).app (hL.app (hk.app (hx.app ((gap_bl (zs := zs) x.2.2).app hc (Nat.le_refl _)) (Nat.le_refl _)) (Nat.le_refl _)) (Nat.le_refl _)) (Nat.le_refl _)
    exact ⟨by omega, b⟩
theorem lis_ln {f : List Nod → Nat → List Int × List Nod × Nat} (hf : ∀ n R i, (∀ p ∈ n :: R, Gx p) → LnB (f (n :: R) i).1 (n :: R) (f (n :: R) i).2.1 5200) (hs : ∀ R i, ∃ P, R = P ++ (f R i).2.1) (cnt : Nat) : ∀ (k : Nat) (R : List Nod) (i : Nat), (∀ p ∈ R, Gx p) → LnB (lisF zs f cnt k R i).1 R (lisF zs f cnt k R i).2.1 0 ∧ ∃ P, R = P ++ (lisF zs f cnt k R i).2.1
  | 0, R, i, _ => ⟨⟨by simp [lisF], bl_nil (L := 0).2⟩, [], rfl⟩
  | k + 1, R, i, hg => by
    obtain ⟨⟨h1, h2⟩, P, hP⟩ := lis_ln hf hs cnt k R i hg
    simp only [lisF]
    generalize lisF zs f cnt k R i = s at *
    obtain ⟨h3, h4⟩ := li_ln (zs := zs) hf (decide (¬ k + 1 < cnt)) s.2.1 s.2.2 (fun p hp => hg p (by rw [hP]; exact List.mem_append_right _ hp))
    refine ⟨⟨by rw [List.length_append]; omega, (BL.app (A := s.1.length) (s := s.1) ⟨Nat.le_refl _, h2⟩ ⟨Nat.le_refl _, h4⟩ (Nat.le_refl _)).2⟩, ?_⟩
    have : ∃ Q, s.2.1 = Q ++ (liF zs f (decide (¬ k + 1 < cnt)) s.2.1 s.2.2).2.1 := by
      cases hR : s.2.1 with
      | nil => exact ⟨[], rfl⟩
      | cons n R' => exact hs _ _
    obtain ⟨Q, hQ⟩ := this
    exact ⟨P ++ Q, by rw [List.append_assoc, ← hQ]; exact hP⟩
theorem lis_suf {f : List Nod → Nat → List Int × List Nod × Nat} (hs : ∀ R i, ∃ P, R = P ++ (f R i).2.1) (cnt : Nat) : ∀ (k : Nat) (R : List Nod) (i : Nat), ∃ P, R = P ++ (lisF zs f cnt k R i).2.1
  | 0, R, i => ⟨[], rfl⟩
  | k + 1, R, i => by
    obtain ⟨P, hP⟩ := lis_suf hs cnt k R i
    simp only [lisF]
    generalize lisF zs f cnt k R i = s at *
    have : ∃ Q, s.2.1 = Q ++ (liF zs f (decide (¬ k + 1 < cnt)) s.2.1 s.2.2).2.1 := by
      cases hR : s.2.1 with
      | nil => exact ⟨[], rfl⟩
      | cons n R' => exact hs _ _
    obtain ⟨Q, hQ⟩ := this
    exact ⟨P ++ Q, by rw [List.append_assoc, ← hQ]; exact hP⟩
theorem lo_suf : ∀ (d : Nat) (R : List Nod) (i : Nat), ∃ P, R = P ++ (loF zs d R i).2.1
  | 0, R, i => by cases R with
    | nil => exact ⟨[], rfl⟩
    | cons n R => exact ⟨[n], rfl⟩
  | d + 1, [], i => ⟨[], rfl⟩
  | d + 1, n :: R, i => by
    simp only [loF]
    split
    · exact ⟨[n], rfl⟩
    · split
      · exact ⟨[n], rfl⟩
      · obtain ⟨P, hP⟩ := lis_suf (zs := zs) (lo_suf d) n.cnt.toNat n.cnt.toNat R i
        exact ⟨n :: P, by simp only [List.cons_append]; rw [← hP]⟩
theorem scal_bl {n : Nod} (h : BL 64 n.text) : BL 64 (scalW n) := by
  unfold scalW
  split
  · exact h
  · split
    · exact ⟨by simp, fun z hz => by simp at hz; omega⟩
    · split <;> exact ⟨by simp, fun z hz => by simp at hz; omega⟩
theorem lo_ln : ∀ (d : Nat) (n : Nod) (R : List Nod) (i : Nat), (∀ p ∈ n :: R, Gx p) → LnB (loF zs d (n :: R) i).1 (n :: R) (loF zs d (n :: R) i).2.1 5200
  | 0, n, R, i, _ => ⟨by simp [loF]; omega, bl_nil (L := 0).2⟩
  | d + 1, n, R, i, hg => by
    have hn := hg n (by simp)
    simp only [loF]
    split
    · obtain ⟨a, b⟩ := lq_bl (zs := zs) hn.g.b.units.1 i
      exact ⟨by simp; omega, b⟩
    · split
      · obtain ⟨a, b⟩ := scal_bl (n := n) hn.g.b.text
        exact ⟨by simp; omega, b⟩
      · obtain ⟨⟨h1, h2⟩, P, hP⟩ := lis_ln (zs := zs) (fun n R i => lo_ln d n R i) (lo_suf d) n.cnt.toNat n.cnt.toNat R i (fun p hp => hg p (by simp [hp]))
        generalize lisF zs (loF zs d) n.cnt.toNat n.cnt.toNat R i = s at *
        have hT := coms_bl' hn.g.b.tail
        have hx : BL s.1.length s.1 := ⟨Nat.le_refl _, h2⟩
        have h9 : ∀ (a b : Int), (0 ≤ a ∧ a ≤ 255) → (0 ≤ b ∧ b ≤ 255) → BL 1 [if n.k = 6 then a else b] := fun a b ha hb => by split; exact bl_one ha; exact bl_one hb
        obtain ⟨a, b⟩ := (h9 123 91 (by omega) (by omega)).app (hx.app ((gap_bl (zs := zs) s.2.2).app (hT.app (h9 125 93 (by omega) (by omega)) (Nat.le_refl _)) (Nat.le_refl _)) (Nat.le_refl _)) (Nat.le_refl _)
        refine ⟨?_, b⟩
        simp only [List.singleton_append] at a
        simp only [List.length_cons] at a ⊢
        omega
theorem lt_bl {ns : List Nod} {ts : List Cm} (hg : ∀ p ∈ ns, Gx p) (hl : ns.length ≤ 341) (ht : ts.length ≤ 64 ∧ ∀ c ∈ ts, CmB 64 c) (i : Nat) : BL 4000000 (ltF zs ns ts i).1 := by
  unfold ltF
  simp only
  have hT := coms_bl' ht
  cases ns with
  | nil =>
    exact ((gap_bl i).app (BL.app (A := 0) (B := 4490) (C := 4490) bl_nil (BL.app (A := 0) (B := 4490) (C := 4490) bl_nil ((gap_bl _).app hT (by omega)) (by omega)) (by omega)) (by omega))
  | cons n R =>
    obtain ⟨h1, h2⟩ := lo_ln (zs := zs) 9 n R (gapF zs i).2 hg
    have hL := coms_bl' (hg n (by simp)).g.b.lead
    generalize loF zs 9 (n :: R) (gapF zs i).2 = x at *
    have hx : BL 3410000 x.1 := ⟨by omega, h2⟩
    exact (gap_bl i).app (hL.app (hx.app ((gap_bl x.2.2).app hT (Nat.le_refl _)) (Nat.le_refl _)) (Nat.le_refl _)) (by omega)
end
end Go.Proofs.YtakkdniikhgpdaaGreatDoor

namespace Go.Proofs.YtakkdniikhgpdaaGreatDoor
open Go.RowKit

/-! Texts of trees, laid out in any way: what stands between. -/
set_option maxHeartbeats 4000000 in
set_option maxRecDepth 100000 in
theorem gap_k {F : Nat} {v : Value} {zs : List Int} {i : Nat} {Γ : Gk} {w : World} (hs : KS F v zs i Γ w) (hz : Zk zs) :
    Calls Tryz.prog 69 #[.pointer (some ⟨F, 0, none⟩)] w fun e w' => e = .returned (.string (strOfNums (gapF zs i).1)) ∧ KD F v zs Γ w (gapF zs i).2 Γ w' := by
  have HN := hide ((KD.refl hs).next hz)
  have hkb := nx_bd hz.by' i
  have HP : Hid (gapF zs i = (if 245 < (nx zs i).1 then markW.getD ((nx zs i).1 % 5).toNat [] else gapW.getD ((nx zs i).1 % 10).toNat [], (nx zs i).2)) := rfl
  generalize (nx zs i).1 = k at *
  generalize (nx zs i).2 = j at *
  obtain ⟨hk0, hk1⟩ := hkb
  clear hs hz
  go_enter Tryz.func69, Tryz.ntmps69
  go_wp2_with fail
  refine HN.out.mono ?_
  rintro e w1 ⟨rfl, hD1, g1⟩
  have gA := World.grownBy_alloc w1 (Obj.cells #[.string { data := #[] }, .string { data := #[] }, .string { data := #[32] }, .string { data := #[10] }, .string { data := #[32, 32] }, .string { data := #[13, 10] }, .string { data := #[9] }, .string { data := #[194, 160] }, .string { data := #[226, 128, 168] }, .string { data := #[239, 187, 191] }] 9) none
  have hcell := fun n hn => lit_cellK w1 gapW 9 n hn #[.string { data := #[] }, .string { data := #[] }, .string { data := #[32] }, .string { data := #[10] }, .string { data := #[32, 32] }, .string { data := #[13, 10] }, .string { data := #[9] }, .string { data := #[194, 160] }, .string { data := #[226, 128, 168] }, .string { data := #[239, 187, 191] }] rfl
  have gB := World.grownBy_alloc (w1.alloc (Obj.cells #[.string { data := #[] }, .string { data := #[] }, .string { data := #[32] }, .string { data := #[10] }, .string { data := #[32, 32] }, .string { data := #[13, 10] }, .string { data := #[9] }, .string { data := #[194, 160] }, .string { data := #[226, 128, 168] }, .string { data := #[239, 187, 191] }] 9)) (Obj.cells #[.string { data := #[47, 42, 42, 47] }, .string { data := #[47, 47, 32, 120, 10] }, .string { data := #[47, 42, 32, 97, 13, 10, 98, 32, 42, 47] }, .string { data := #[47, 47, 13] }, .string { data := #[47, 42, 226, 128, 169, 42, 47] }] 9) none
  have hcell2 := fun n hn => lit_cellK (w1.alloc (Obj.cells #[.string { data := #[] }, .string { data := #[] }, .string { data := #[32] }, .string { data := #[10] }, .string { data := #[32, 32] }, .string { data := #[13, 10] }, .string { data := #[9] }, .string { data := #[194, 160] }, .string { data := #[226, 128, 168] }, .string { data := #[239, 187, 191] }] 9)) markW 9 n hn #[.string { data := #[47, 42, 42, 47] }, .string { data := #[47, 47, 32, 120, 10] }, .string { data := #[47, 42, 32, 97, 13, 10, 98, 32, 42, 47] }, .string { data := #[47, 47, 13] }, .string { data := #[47, 42, 226, 128, 169, 42, 47] }] rfl
  have HD1 := hide (hD1.keep gA)
  have HD2 := hide ((hD1.keep gA).keep gB)
  by_cases hk : 245 < k
  · rw [if_pos hk] at HP
    have hc := hcell2 (k % 5).toNat (by simp [markW]; omega)
    rw [show ∀ o : Obj, (w1.alloc o).heap.size = w1.heap.size + 1 from fun o => by simp] at hc
    generalize markW.getD (k % 5).toNat [] = t at *
    clear HN hD1 g1 hcell hcell2 gA gB HD1
    go_wp2
    go_ret
    rw [HP.out]
    exact ⟨rfl, HD2.out⟩
  · rw [if_neg hk] at HP
    have hc := hcell (k % 10).toNat (by simp [gapW]; omega)
    generalize gapW.getD (k % 10).toNat [] = t at *
    clear HN hD1 g1 hcell hcell2 gA gB HD2
    go_wp2
    go_ret
    rw [HP.out]
    exact ⟨rfl, HD1.out⟩
end Go.Proofs.YtakkdniikhgpdaaGreatDoor

namespace Go.Proofs.YtakkdniikhgpdaaGreatDoor
open Go.RowKit

theorem lstr_app (a b : List Int) : strOfNums a ++ strOfNums b = strOfNums (a ++ b) := by
  apply ByteArray.ext
  simp [strOfNums]
theorem grown_F {F : Nat} {a b : World} (g : a.grownBy b none) : a.grownBy b (some F) := ⟨g.os, g.tape, g.output, g.size, fun k hk _ => g.block k hk (by simp)⟩

set_option maxHeartbeats 4000000 in
set_option maxRecDepth 100000 in
/-- spec.l6looseQuote. -/
theorem looseQuote_k {F : Nat} {v : Value} {zs : List Int} {i : Nat} {Γ : Gk} {w : World} (hs : KS F v zs i Γ w) (hz : Zk zs) (sv : Sv) (us : List Int) (hJ : JI (Pre Γ) sv us) (hu : Un us) (hl : us.length ≤ 64) :
    Calls Tryz.prog 77 #[sv.v, .pointer (some ⟨F, 0, none⟩)] w fun e w' => e = .returned (.string (strOfNums (lqF zs us i).1)) ∧ KD F v zs Γ w (lqF zs us i).2 Γ w' := by
  have HN := hide ((KD.refl hs).next hz)
  have hkb := nx_bd hz.by' i
  have HP : Hid (lqF zs us i = (if (nx zs i).1 % 4 = 1 then 39 :: hexQ us us.length ++ [39] else (quR us).1, (nx zs i).2)) := rfl
  generalize (nx zs i).1 = k at *
  generalize (nx zs i).2 = j at *
  obtain ⟨hk0, hk1⟩ := hkb
  have HJ := hide hJ
  have HU := hide hu
  have hsv := (hJ.rd hs.mt).2
  clear hs hz hJ hu
  obtain ⟨a, n, cap⟩ := sv
  obtain ⟨a', cap', e', hc1, hc2⟩ := hsv
  simp only [Sv.v] at e' ⊢
  cases e'
  go_enter Tryz.func77, Tryz.ntmps77
  go_wp2_with fail
  refine HN.out.mono ?_
  rintro e w1 ⟨rfl, hD1, g1⟩
  have hR := (HJ.out.rd hD1.st.mt).1
  have HR := hide hR
  have HQ := hide (specQuote_any _ us w1 hR (by omega))
  have HD1 := hide hD1
  simp only [Sv.v] at HQ HR
  clear HN hD1 g1 hR
  go_wp2_with fail
  refine HQ.out.mono ?_
  rintro e w2 ⟨v2, rfl, o2, g2⟩
  have HD2 := hide (HD1.out.keep g2)
  have hcv := conv_rd o2.rd
  obtain ⟨a2, c2, hv2, hr2⟩ := o2.rd
  subst hv2
  have G2 := hide g2
  clear HQ HD1 o2 hr2
  by_cases hk : k % 4 = 1
  · have HE := hide (HP.out.trans (by rw [if_pos hk]))
    clear HP g2 hcv
    go_wp2
    go_loopw [8, 9] (fun o i W => ∃ q : Nat, q ≤ us.length ∧ i = .int .i64 q ∧ o = .string (strOfNums (39 :: hexQ us q)) ∧ w2.grownBy W none)
      (fun _ i _ => us.length - (intOf i).toNat)
    case atStart => exact ⟨0, Nat.zero_le _, rfl, rfl, World.grownBy.refl _ _⟩
    case round =>
      obtain ⟨q, hq, rfl, rfl, g⟩ := hrel
      by_cases hlt : q < us.length
      · obtain ⟨a3, cap3, e, hr⟩ := (HR.out.keep G2.out).keep g
        simp only [Value.slice.injEq, true_and] at e
        obtain ⟨rfl, rfl⟩ := e
        obtain ⟨b, off, rfl, hbb, hc⟩ := hr (fun e => by rw [e] at hlt; simp at hlt)
        have hck := hc q hlt
        have hpz := HU.out.at q
        have HH : Hid (39 :: hexQ us (q + 1) = (39 :: hexQ us q) ++ (hex4 (us[q]?.getD 0) ++ if (q : Int) % 3 = 1 then [92, 10] else [])) := by unfold Hid; rw [hexQ]; rfl
        generalize us[q]?.getD 0 = p at *
        have HX := hide (hex4_any p wr hpz.1 hpz.2)
        generalize hs0 : strOfNums (39 :: hexQ us q) = s0 at *
        have hz0 : s0.size ≤ 600 := by have := (hexQ_bl us q).1; rw [← hs0, strOfNums_size]; simp; omega
        have hl1 : ¬ 9223372036854775807 < s0.size + (strOfNums (hex4 p)).size := by have := (hex4_bl p).1; rw [strOfNums_size]; omega
        have hl2 : ¬ 9223372036854775807 < (s0 ++ strOfNums (hex4 p)).size + 2 := by have := (hex4_bl p).1; rw [ByteArray.size_append, strOfNums_size]; omega
        have hl3 : ¬ 9223372036854775807 < s0.size + (strOfNums (hex4 p)).size + 2 := by have := (hex4_bl p).1; rw [strOfNums_size]; omega
        have HS := hide hs0
        have Gr := hide g
        clear hr hc g hs0
        go_wp2_with fail
        refine HX.out.mono ?_
        rintro e w3 ⟨v3, rfl, o3, b3⟩
        have hcv := conv_rd o3.rd
        have g3 := grown_of_below b3
        obtain ⟨a4, c4, hv4, hr4⟩ := o3.rd
        subst hv4
        have G3 := hide (grown_trans Gr.out g3)
        clear o3 b3 g3 hr4 HX
        by_cases h3 : (q : Int) % 3 = 1
        · rw [if_pos h3] at HH
          go_wp2
          go_roundw
          case rel => exact ⟨q + 1, by omega, by go_num, by rw [HH.out, ← HS.out, ← lstr_app, ← lstr_app, ← ByteArray.append_assoc]; rfl, G3.out⟩
          case measure => simp [intOf]; omega
        · rw [if_neg h3] at HH
          go_wp2
          go_roundw
          case rel => exact ⟨q + 1, by omega, by go_num, by rw [HH.out, ← HS.out, List.append_nil, lstr_app], G3.out⟩
          case measure => simp [intOf]; omega
      · obtain rfl : q = us.length := by omega
        have hl1 : ¬ 9223372036854775807 < (strOfNums (39 :: hexQ us us.length)).size + 1 := by have := (hexQ_bl us us.length).1; rw [strOfNums_size]; simp; omega
        go_wp2
        go_ret
        rw [HE.out]
        exact ⟨by simp only; rw [← lstr_app]; rfl, HD2.out.keep g⟩
  · have HE := hide (HP.out.trans (by rw [if_neg hk]))
    clear HP g2
    go_wp2
    go_ret
    rw [HE.out]
    exact ⟨rfl, HD2.out⟩
end Go.Proofs.YtakkdniikhgpdaaGreatDoor

