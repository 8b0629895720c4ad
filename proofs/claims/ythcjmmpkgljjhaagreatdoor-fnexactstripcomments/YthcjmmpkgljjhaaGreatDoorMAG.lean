import Derived.Orders
import Derived.Deep.RegionWith
import Derived.Test.YthcjmmpkgljjhaaGreatDoorMAA
import Derived.Test.YthcjmmpkgljjhaaGreatDoorMAF
namespace Go.Proofs.YthcjmmpkgljjhaaGreatDoor
open Go.RowKit

/-! The model's valid trees and the program's are the same: cOk says which comments, nOk which numbers are in order. -/
section
variable (cOk : Cm → Bool) (nOk : List Int → Bool)

def sumC : List Cm → Int
  | [] => 0
  | c :: cs => c.t.length + sumC cs
theorem sumC_nonneg : ∀ cs, 0 ≤ sumC cs
  | [] => by simp [sumC]
  | c :: cs => by have := sumC_nonneg cs; simp only [sumC]; omega

/-- What a node takes of the elements, and of the comments. -/
def nr (n : Nod) : Int := n.key.length + n.units.length + n.text.length + (sumC n.lead + sumC n.tail)
def nc (n : Nod) : Int := n.lead.length + n.tail.length
theorem nr_nonneg (n : Nod) : 0 ≤ nr n := by have := sumC_nonneg n.lead; have := sumC_nonneg n.tail; unfold nr; omega
theorem nc_nonneg (n : Nod) : 0 ≤ nc n := by unfold nc; omega

/-- The model's node. -/
def NodeOK (n : Nod) : Prop :=
  (0 ≤ n.k ∧ n.k ≤ 6) ∧ n.lead.all cOk = true ∧ n.tail.all cOk = true ∧ n.key.all isUn = true ∧ n.units.all isUn = true ∧ (n.mem = true ∨ n.key = []) ∧ (n.k = 3 → nOk n.text = true) ∧ (n.k ≠ 3 → n.text = []) ∧ (n.k ≠ 4 → n.units = []) ∧ (n.k < 5 → n.cnt = 0 ∧ n.tail = []) ∧ 0 ≤ n.cnt
/-- What the program asks of a node's fields. -/
def Fits (n : Nod) : Prop :=
  (0 ≤ n.k ∧ n.k ≤ 6) ∧ (n.mem = true ∨ n.key = []) ∧ (n.k ≠ 3 → n.text = []) ∧ (n.k ≠ 4 → n.units = []) ∧ (5 ≤ n.k → 0 ≤ n.cnt) ∧ (n.k < 5 → n.cnt = 0 ∧ n.tail = [])

def comR : List Cm → Int → Option Int
  | [], r => some r
  | c :: cs, r => if r - c.t.length < 0 ∨ cOk c = false then none else comR cs (r - c.t.length)
theorem comR_is : ∀ (cs : List Cm) (r : Int), 0 ≤ r → comR cOk cs r = if cs.all cOk = true ∧ sumC cs ≤ r then some (r - sumC cs) else none
  | [], r, h => by simp [comR, sumC, h]
  | c :: cs, r, h => by
    have hn := sumC_nonneg cs
    simp only [comR, sumC, List.all_cons]
    by_cases h1 : r - c.t.length < 0
    · rw [if_pos (.inl h1)]
      exact (if_neg (fun h : (cOk c && cs.all cOk) = true ∧ (c.t.length : Int) + sumC cs ≤ r => by have := h.2; omega)).symm
    · by_cases h2 : cOk c = true
      · have e1 : (if r - c.t.length < 0 ∨ cOk c = false then none else comR cOk cs (r - c.t.length)) = comR cOk cs (r - c.t.length) := if_neg (fun h => h.elim h1 (fun e => by rw [h2] at e; cases e))
        rw [e1, comR_is cs _ (by omega)]
        by_cases h3 : cs.all cOk = true ∧ sumC cs ≤ r - c.t.length
        · rw [if_pos h3]
          refine Eq.trans ?_ (if_pos (show (cOk c && cs.all cOk) = true ∧ (c.t.length : Int) + sumC cs ≤ r from ⟨by rw [h2, h3.1]; rfl, by have := h3.2; omega⟩)).symm
          congr 1; omega
        · rw [if_neg h3]
          refine (if_neg (fun h : (cOk c && cs.all cOk) = true ∧ (c.t.length : Int) + sumC cs ≤ r => h3 ⟨?_, by have := h.2; omega⟩)).symm
          have := h.1
          rw [h2] at this
          simpa only [Bool.true_and] using this
      · have h2' : cOk c = false := by simpa using h2
        rw [if_pos (.inr h2')]
        exact (if_neg (fun h : (cOk c && cs.all cOk) = true ∧ (c.t.length : Int) + sumC cs ≤ r => by have := h.1; rw [h2'] at this; simp at this)).symm
def comP (cs : List Cm) (s : Int × Int) : Option (Int × Int) := if s.1 - cs.length < 0 then none else (comR cOk cs s.2).map fun r => (s.1 - cs.length, r)
theorem comP_is (cs : List Cm) (c r : Int) (hr : 0 ≤ r) : comP cOk cs (c, r) = if (cs.length : Int) ≤ c ∧ cs.all cOk = true ∧ sumC cs ≤ r then some (c - cs.length, r - sumC cs) else none := by
  unfold comP
  by_cases h : c - (cs.length : Int) < 0
  · rw [if_pos h, if_neg (fun h' => by have := h'.1; omega)]
  · rw [if_neg h, comR_is cOk cs r hr]
    by_cases h2 : cs.all cOk = true ∧ sumC cs ≤ r
    · rw [if_pos h2, if_pos ⟨by omega, h2⟩]; rfl
    · rw [if_neg h2, if_neg (fun h => h2 h.2)]; rfl

open Classical in
/-- What the program does at a node. -/
noncomputable def chkP (n : Nod) (s : Int × Int) : Option (Int × Int) :=
  if ¬ Fits n then none
  else if s.2 - n.key.length < 0 ∨ n.key.all isUn = false then none
  else if s.2 - n.key.length - n.units.length < 0 ∨ n.units.all isUn = false then none
  else if s.2 - n.key.length - n.units.length - n.text.length < 0 then none
  else if n.k = 3 ∧ nOk n.text = false then none
  else (comP cOk n.lead (s.1, s.2 - n.key.length - n.units.length - n.text.length)).bind fun s' => comP cOk n.tail s'

theorem fits_node (n : Nod) : NodeOK cOk nOk n ↔ Fits n ∧ n.key.all isUn = true ∧ n.units.all isUn = true ∧ (n.k = 3 → nOk n.text = true) ∧ n.lead.all cOk = true ∧ n.tail.all cOk = true := by
  unfold NodeOK Fits
  constructor
  · rintro ⟨h1, h2, h3, h4, h5, h6, h7, h8, h9, h10, h11⟩
    exact ⟨⟨h1, h6, h8, h9, fun _ => h11, h10⟩, h4, h5, h7, h2, h3⟩
  · rintro ⟨⟨h1, h6, h8, h9, h11, h10⟩, h4, h5, h7, h2, h3⟩
    refine ⟨h1, h2, h3, h4, h5, h6, h7, h8, h9, h10, ?_⟩
    by_cases h : 5 ≤ n.k
    · exact h11 h
    · have := (h10 (by omega)).1; omega

open Classical in
theorem chkP_is (n : Nod) (c r : Int) : chkP cOk nOk n (c, r) = if NodeOK cOk nOk n ∧ nc n ≤ c ∧ nr n ≤ r then some (c - nc n, r - nr n) else none := by
  have s1 := sumC_nonneg n.lead
  have s2 := sumC_nonneg n.tail
  rw [fits_node]
  unfold chkP nc nr
  by_cases h1 : Fits n
  · rw [if_neg (by simpa using h1)]
    by_cases h2 : r - n.key.length < 0 ∨ n.key.all isUn = false
    · rw [if_pos h2, if_neg]
      rintro ⟨⟨_, k1, _⟩, _, b⟩
      rcases h2 with h | h
      · omega
      · rw [k1] at h; cases h
    · rw [if_neg h2]
      by_cases h3 : r - n.key.length - n.units.length < 0 ∨ n.units.all isUn = false
      · rw [if_pos h3, if_neg]
        rintro ⟨⟨_, _, k2, _⟩, _, b⟩
        rcases h3 with h | h
        · omega
        · rw [k2] at h; cases h
      · rw [if_neg h3]
        by_cases h4 : r - n.key.length - n.units.length - n.text.length < 0
        · rw [if_pos h4, if_neg (by rintro ⟨_, _, b⟩; omega)]
        · rw [if_neg h4]
          by_cases h5 : n.k = 3 ∧ nOk n.text = false
          · rw [if_pos h5, if_neg]
            rintro ⟨⟨_, _, _, k3, _⟩, _⟩
            have := k3 h5.1
            rw [h5.2] at this; cases this
          · rw [if_neg h5]
            have k1 : n.key.all isUn = true := eq_true_of_ne_false (fun h => h2 (.inr h))
            have k2 : n.units.all isUn = true := eq_true_of_ne_false (fun h => h3 (.inr h))
            have k3 : n.k = 3 → nOk n.text = true := fun hk => eq_true_of_ne_false (fun h => h5 ⟨hk, h⟩)
            rw [comP_is cOk n.lead c _ (by omega)]
            by_cases h6 : (n.lead.length : Int) ≤ c ∧ n.lead.all cOk = true ∧ sumC n.lead ≤ r - n.key.length - n.units.length - n.text.length
            · rw [if_pos h6, Option.bind_some, comP_is cOk n.tail _ _ (by omega)]
              by_cases h7 : (n.tail.length : Int) ≤ c - n.lead.length ∧ n.tail.all cOk = true ∧ sumC n.tail ≤ r - n.key.length - n.units.length - n.text.length - sumC n.lead
              · rw [if_pos h7, if_pos ⟨⟨h1, k1, k2, k3, h6.2.1, h7.2.1⟩, by omega, by omega⟩]
                congr 1
                rw [Prod.mk.injEq]
                constructor <;> omega
              · rw [if_neg h7, if_neg]
                rintro ⟨⟨_, _, _, _, _, a⟩, b, b'⟩
                exact h7 ⟨by omega, a, by omega⟩
            · rw [if_neg h6, Option.bind_none, if_neg]
              rintro ⟨⟨_, _, _, _, a, _⟩, b, b'⟩
              exact h6 ⟨by omega, a, by omega⟩
  · rw [if_pos (by simpa using h1), if_neg (fun h => h1 h.1.1)]

def sumR : List Nod → Int
  | [] => 0
  | n :: ns => nr n + sumR ns
def sumK : List Nod → Int
  | [] => 0
  | n :: ns => nc n + sumK ns
theorem sumR_nonneg : ∀ ns, 0 ≤ sumR ns
  | [] => by simp [sumR]
  | n :: ns => by have := sumR_nonneg ns; have := nr_nonneg n; simp only [sumR]; omega
theorem sumK_nonneg : ∀ ns, 0 ≤ sumK ns
  | [] => by simp [sumK]
  | n :: ns => by have := sumK_nonneg ns; have := nc_nonneg n; simp only [sumK]; omega

theorem fold_is : ∀ (ns : List Nod) (c r : Int) (x : Int × Int), 0 ≤ c → 0 ≤ r → (foldC (chkP cOk nOk) ns (c, r) = some x ↔ (∀ n ∈ ns, NodeOK cOk nOk n) ∧ sumK ns ≤ c ∧ sumR ns ≤ r ∧ x = (c - sumK ns, r - sumR ns))
  | [], c, r, x, hc, hr => by
    simp only [foldC, Option.some.injEq, sumK, sumR, Int.sub_zero]
    constructor
    · intro h; exact ⟨by simp, hc, hr, h.symm⟩
    · rintro ⟨_, _, _, h⟩; exact h.symm
  | n :: ns, c, r, x, hc, hr => by
    have a1 := sumR_nonneg ns
    have a2 := sumK_nonneg ns
    have b1 := nr_nonneg n
    have b2 := nc_nonneg n
    simp only [foldC, chkP_is cOk nOk n c r, sumK, sumR]
    by_cases h : NodeOK cOk nOk n ∧ nc n ≤ c ∧ nr n ≤ r
    · rw [if_pos h, Option.bind_some, fold_is ns _ _ x (by omega) (by omega)]
      constructor
      · rintro ⟨p1, p2, p3, p4⟩
        refine ⟨fun q hq => ?_, by omega, by omega, by rw [p4, Prod.mk.injEq]; constructor <;> omega⟩
        simp only [List.mem_cons] at hq
        rcases hq with rfl | hq
        · exact h.1
        · exact p1 q hq
      · rintro ⟨p1, p2, p3, p4⟩
        exact ⟨fun q hq => p1 q (by simp [hq]), by omega, by omega, by rw [p4, Prod.mk.injEq]; constructor <;> omega⟩
    · rw [if_neg h, Option.bind_none]
      constructor
      · intro hh; cases hh
      · rintro ⟨p1, p2, p3, _⟩
        exact absurd ⟨p1 n (by simp), by omega, by omega⟩ h

/-- THE TWO ARE THE SAME. -/
theorem valid_tree (ns : List Nod) (tail : List Cm) :
    (∃ s x, walkL (chkP cOk nOk) 201 false (ns, (4000, 100000)) = some ([], s) ∧ comP cOk tail s = some x) ↔
    (sumR ns + sumC tail ≤ 100000 ∧ sumK ns + tail.length ≤ 4000 ∧ tail.all cOk = true ∧ (∀ n ∈ ns, NodeOK cOk nOk n) ∧ endL ns.length 201 false ns = some []) := by
  have a1 := sumR_nonneg ns
  have a2 := sumK_nonneg ns
  have a3 := sumC_nonneg tail
  have he : (walkL triv 201 false (ns, ()) = some ([], ())) ↔ endL ns.length 201 false ns = some [] := by
    rw [← end_walk ns.length 201 false ns (Nat.le_refl _)]
    cases endL ns.length 201 false ns with
    | none => simp
    | some R => simp
  constructor
  · rintro ⟨s, x, hw, hc⟩
    obtain ⟨g, f⟩ := (walk_all _ 201 false ns (4000, 100000) s).1 hw
    obtain ⟨p1, p2, p3, p4⟩ := (fold_is cOk nOk ns 4000 100000 s (by omega) (by omega)).1 f
    subst p4
    rw [comP_is cOk tail _ _ (by omega)] at hc
    by_cases h : (tail.length : Int) ≤ 4000 - sumK ns ∧ tail.all cOk = true ∧ sumC tail ≤ 100000 - sumR ns
    · exact ⟨by omega, by omega, h.2.1, p1, he.1 g⟩
    · rw [if_neg h] at hc; cases hc
  · rintro ⟨h1, h2, h3, h4, h5⟩
    refine ⟨(4000 - sumK ns, 100000 - sumR ns), (4000 - sumK ns - tail.length, 100000 - sumR ns - sumC tail), ?_, ?_⟩
    · exact (walk_all _ 201 false ns (4000, 100000) _).2 ⟨he.2 h5, (fold_is cOk nOk ns 4000 100000 _ (by omega) (by omega)).2 ⟨h4, by omega, by omega, rfl⟩⟩
    · rw [comP_is cOk tail _ _ (by omega), if_pos ⟨by omega, h3, by omega⟩]
end
end Go.Proofs.YthcjmmpkgljjhaaGreatDoor

namespace Go.Proofs.YthcjmmpkgljjhaaGreatDoor

/-! A region that draws its order, in which the world turns: what only reads, and reads the same as long as I holds, may be taken first. -/

section
variable {P : Program} {ops : Array Oper} {Q : Exit → Act → World → Prop} {md : Region.Mode} {I : World → Prop} {ex : Nat → Bool}

/-- Every order from here on; behind each operation (but those of ex) I holds. -/
def anyI (P : Program) (md : Region.Mode) (ops : Array Oper) (Q : Exit → Act → World → Prop) (I : World → Prop) (ex : Nat → Bool) : Nat → Array Bool → Act → World → Prop
  | 0, listed, a, w => Region.ready md ops listed = [] ∧ Q .normal a w
  | fuel + 1, listed, a, w => (Region.ready md ops listed = [] → Q .normal a w) ∧
      ∀ i ∈ Region.ready md ops listed, wpOp P ops Q i (fun a' w' => (ex i = true ∨ I w') ∧ anyI P md ops Q I ex fuel (listed.setIfInBounds i true) a' w') a w

theorem any_of_anyI : ∀ (fuel : Nat) (listed : Array Bool) (a : Act) (w : World), anyI P md ops Q I ex fuel listed a w → wpAny P md ops Q fuel listed a w
  | 0, _, _, _, h => h
  | fuel + 1, _, _, _, h => ⟨h.1, fun i hi => wpOp_mono (fun a' w' h2 => any_of_anyI fuel _ a' w' h2.2) (h.2 i hi)⟩

theorem region_anyI (I : World → Prop) (ex : Nat → Bool) {id : Nat} {a : Act} {w : World} (hm : P.follows .mixedOrders = true) (h : anyI P .any ops Q I ex ops.size (Array.replicate ops.size false) a w.drew) : (Code.region id ops true).wp P Q a w :=
  wp_region_any hm (any_of_anyI _ _ _ _ h)

/-- What an operation does to the frame. -/
theorem wpOp_frame {j : Nat} {oj : Oper} {K : Act → World → Prop} {a : Act} {w : World} (hj : ops[j]? = some oj) (hh : wpOp P ops Q j K a w) :
    wpOp P ops Q j (fun a' w' => K a' w' ∧ ∃ ds u, a' = ({ a with defers := ds } : Act).put oj.dst u) a w := by
  unfold wpOp at *
  simp only [hj] at *
  split
  · rename_i hw
    simp only [hw, if_true] at hh
    rcases hh with hh | hh
    case inr => exact .inr hh
    refine .inl ?_
    unfold Oper.wp at *
    generalize (execOp a.eval oj).run P w = r at *
    cases r with
    | halt x w' => cases x <;> simp only [Oper.upon] at hh ⊢ <;> exact hh
    | ok n w' =>
      cases n <;> simp only [Oper.upon] at hh ⊢
      case value u => exact ⟨hh, a.defers, u, rfl⟩
      case skip => exact ⟨hh, a.defers, undef, rfl⟩
      case defer d => exact ⟨hh, d :: a.defers, undef, rfl⟩
      case enter f args =>
        refine Calls.mono hh fun e w'' he => ?_
        cases e with
        | returned u => exact ⟨he, a.defers, u, rfl⟩
        | panicked c => exact he
        | outgrown => exact he
      case row row args => exact Rows.mono hh fun u w'' he => ⟨he, a.defers, u, rfl⟩
  · rename_i hw
    simp only [hw] at hh
    exact ⟨hh, a.defers, undef, rfl⟩

/-- The operation yields v in every world in which I holds. -/
def YldI (P : Program) (ops : Array Oper) (I : World → Prop) (o : Oper) (v : Value) (a : Act) : Prop :=
  Region.wanted o (yielded ops a.tmps) = true ∧ ∀ w, I w → (execOp a.eval o).run P w = .ok (.value v) w

/-- What may break I is bound behind i. -/
def exOK (md : Region.Mode) (ops : Array Oper) (ex : Nat → Bool) (i : Nat) : Bool :=
  (List.range ops.size).all fun j => !ex j || match ops[j]? with
    | some o => o.after.any fun e => Region.binds md e && e.on == i
    | none => true
theorem exOK_spec {i j : Nat} {oj : Oper} (h : exOK md ops ex i = true) (hj : ops[j]? = some oj) (hno : ∀ e ∈ oj.after, Region.binds md e = true → e.on ≠ i) : ex j = false := by
  simp only [exOK, List.all_eq_true, List.mem_range] at h
  have h1 := h j (Array.getElem?_eq_some_iff.1 hj).1
  simp only [hj, Bool.or_eq_true, Bool.not_eq_true'] at h1
  rcases h1 with h1 | h1
  · exact h1
  · obtain ⟨e, he, hb⟩ := Array.any_eq_true'.1 h1
    simp only [Bool.and_eq_true, beq_iff_eq] at hb
    exact absurd hb.2 (hno e he hb.1)

/-- A plain operation with the same place for its value. -/
def plainOf (o : Oper) (v : Value) : Oper := { dst := o.dst, op := .move (.const v), type := o.type, pos := o.pos, after := #[], guard := none }
theorem plainOf_yields (o : Oper) (v : Value) (a : Act) : Yields P ops (plainOf o v) v a := .inl ⟨rfl, fun _ => rfl⟩
theorem plainOf_apart {o oj : Oper} {v : Value} (h : o.apart ops oj = true) : (plainOf o v).apart ops oj = true := by
  have hl : (plainOf o v).looksAt ops = [] := by simp [Oper.looksAt, plainOf, Op.operands]
  unfold Oper.apart at *
  rw [Bool.and_eq_true] at h
  rw [hl, Bool.and_eq_true]
  refine ⟨h.1, ?_⟩
  cases oj.dst <;> simp

theorem anyI_first {i : Nat} {oi : Oper} {v : Value} (hi : ops[i]? = some oi) (hsel : Region.noSelect ops = true) (hex : exOK md ops ex i = true)
    (hQ : ∀ c a w, Q (.panic c) (a.put oi.dst v) w → Q (.panic c) a w) :
    ∀ (fuel : Nat) (listed : Array Bool) (a : Act) (w : World),
      (∀ j oj, ops[j]? = some oj → j ≠ i → listed.getD j true = false → (∀ e ∈ oj.after, Region.binds md e = true → e.on ≠ i) → oi.apart ops oj = true) →
      i ∈ Region.ready md ops listed → YldI P ops I oi v a → I w →
      anyI P md ops Q I ex fuel (listed.setIfInBounds i true) (a.put oi.dst v) w → anyI P md ops Q I ex (fuel + 1) listed a w := by
  have take : ∀ (fuel : Nat) (listed : Array Bool) (a : Act) (w : World), YldI P ops I oi v a → I w → anyI P md ops Q I ex fuel (listed.setIfInBounds i true) (a.put oi.dst v) w →
      wpOp P ops Q i (fun a' w' => (ex i = true ∨ I w') ∧ anyI P md ops Q I ex fuel (listed.setIfInBounds i true) a' w') a w := by
    intro fuel listed a w hy hw H
    unfold wpOp
    simp only [hi, hy.1, if_true]
    refine .inl ?_
    unfold Oper.wp
    rw [hy.2 w hw]
    exact ⟨.inr hw, H⟩
  intro fuel
  induction fuel with
  | zero =>
    intro listed a w _ hr hy hw H
    refine ⟨fun h => (by rw [h] at hr; cases hr), fun j hj => ?_⟩
    by_cases hji : j = i
    · subst hji; exact take 0 listed a w hy hw H
    · have := ready_mono hj hji
      rw [H.1] at this
      cases this
  | succ fuel ih =>
    intro listed a w hfree hr hy hw H
    refine ⟨fun h => (by rw [h] at hr; cases hr), fun j hj => ?_⟩
    by_cases hji : j = i
    · subst hji; exact take _ listed a w hy hw H
    · have h1 := H.2 j (ready_mono hj hji)
      obtain ⟨hjun, oj, hoj, hall⟩ := mem_ready.1 hj
      have hnot : ∀ e ∈ oj.after, Region.binds md e = true → e.on ≠ i := fun e he hb heq => by
        have h2 := hall e he hb
        have h0 := (mem_ready.1 hr).1
        rw [heq] at h2
        rcases Nat.lt_or_ge i listed.size with h' | h'
        · simp [h'] at h0 h2; rw [h0] at h2; cases h2
        · simp [Array.getElem?_eq_none h'] at h2
      have hap := hfree j oj hoj hji hjun hnot
      have hexj := exOK_spec hex hoj hnot
      have h2 := wpOp_frame hoj (wpOp_put hoj (plainOf_apart (v := v) hap) (fun cs b => by simp [plainOf]) (fun cs b => Region.noSelect_spec hsel j oj cs b hoj) hQ (plainOf_yields oi v a) h1)
      obtain ⟨_, _, h3⟩ := Oper.apart_spec hap
      refine wpOp_mono (fun a' w' h4 => ?_) h2
      obtain ⟨⟨_, hI, hrest⟩, ds, u, rfl⟩ := h4
      have hIw : I w' := hI.resolve_left (by rw [hexj]; simp)
      refine ⟨.inr hIw, ih (listed.setIfInBounds j true) _ w' ?_ (ready_mono hr (Ne.symm hji)) ?_ hIw ?_⟩
      · intro k ok hk hki hun hno
        refine hfree k ok hk hki ?_ hno
        by_cases hjk : j = k
        · subst hjk; exact hjun
        · rw [getD_set_ne true hjk] at hun; exact hun
      · refine ⟨?_, ?_⟩
        · rw [wanted_put oi _ oj.dst u h3]; exact hy.1
        · rw [execOp_put oi (fun cs b => Region.noSelect_spec hsel i oi cs b hi) _ oj.dst u h3]; exact hy.2
      · rw [Array.setIfInBounds_comm _ _ hji]
        exact hrest

theorem anyI_take {i : Nat} {oi : Oper} (v : Value) {fuel : Nat} {listed : Array Bool} {a : Act} {w : World} (hi : ops[i]? = some oi) (hs : Region.noSelect ops = true) (hf : Region.free md ops listed i = true)
    (hr : (Region.ready md ops listed).contains i = true) (hex : exOK md ops ex i = true) (hQ : ∀ c a w, Q (.panic c) (a.put oi.dst v) w → Q (.panic c) a w) (hw : I w) (hy : YldI P ops I oi v a)
    (h : anyI P md ops Q I ex fuel (listed.setIfInBounds i true) (a.put oi.dst v) w) : anyI P md ops Q I ex (fuel + 1) listed a w :=
  anyI_first hi hs hex hQ fuel listed a w (Region.free_spec hi hf) (by simpa using hr) hy hw h

theorem anyI_one {i : Nat} {fuel : Nat} {listed : Array Bool} {a : Act} {w : World} (hr : Region.ready md ops listed = [i])
    (h : wpOp P ops Q i (fun a' w' => (ex i = true ∨ I w') ∧ anyI P md ops Q I ex fuel (listed.setIfInBounds i true) a' w') a w) : anyI P md ops Q I ex (fuel + 1) listed a w :=
  ⟨fun h0 => (by rw [hr] at h0; cases h0), fun j hj => by rw [hr] at hj; simp at hj; subst hj; exact h⟩

theorem anyI_done {listed : Array Bool} {a : Act} {w : World} (hr : Region.ready md ops listed = []) (h : Q .normal a w) : ∀ fuel, anyI P md ops Q I ex fuel listed a w
  | 0 => ⟨hr, h⟩
  | _ + 1 => ⟨fun _ => h, by rw [hr]; simp⟩

theorem wpOp_val {i : Nat} {o : Oper} {K : Act → World → Prop} {a : Act} {w w' : World} {v : Value} (hi : ops[i]? = some o) (hg : o.guard = none) (hrun : (execOp a.eval o).run P w = .ok (.value v) w') (h : K (a.put o.dst v) w') : wpOp P ops Q i K a w := by
  unfold wpOp
  have hw : Region.wanted o (yielded ops a.tmps) = true := by simp [Region.wanted, hg]
  simp only [hi, hw, if_true]
  refine .inl ?_
  unfold Oper.wp
  rw [hrun]; exact h
theorem wpOp_skip {i : Nat} {o : Oper} {K : Act → World → Prop} {a : Act} {w w' : World} (hi : ops[i]? = some o) (hg : o.guard = none) (hrun : (execOp a.eval o).run P w = .ok .skip w') (h : K (a.put o.dst undef) w') : wpOp P ops Q i K a w := by
  unfold wpOp
  have hw : Region.wanted o (yielded ops a.tmps) = true := by simp [Region.wanted, hg]
  simp only [hi, hw, if_true]
  refine .inl ?_
  unfold Oper.wp
  rw [hrun]; exact h
theorem wpOp_call {i : Nat} {o : Oper} {K : Act → World → Prop} {a : Act} {w w1 : World} {f : FuncId} {args : Array Value} {R : Ending → World → Prop} (hi : ops[i]? = some o) (hg : o.guard = none) (hrun : (execOp a.eval o).run P w = .ok (.enter f args) w1)
    (hc : Calls P f args w1 R) (h : ∀ e w', R e w' → ∃ v, e = .returned v ∧ K (a.put o.dst v) w') : wpOp P ops Q i K a w := by
  unfold wpOp
  have hw : Region.wanted o (yielded ops a.tmps) = true := by simp [Region.wanted, hg]
  simp only [hi, hw, if_true]
  refine .inl ?_
  unfold Oper.wp
  rw [hrun]
  refine Calls.mono hc fun e w' hr => ?_
  obtain ⟨v, rfl, hk⟩ := h e w' hr
  exact hk
theorem yldI {o : Oper} {v : Value} {a : Act} (hg : o.guard = none) (h : ∀ w, I w → (execOp a.eval o).run P w = .ok (.value v) w) : YldI P ops I o v a :=
  ⟨by simp [Region.wanted, hg], h⟩
end
end Go.Proofs.YthcjmmpkgljjhaaGreatDoor

namespace Go.Proofs.YthcjmmpkgljjhaaGreatDoor

/-! The same for operations behind a guard that holds. -/

section
variable {P : Program} {ops : Array Oper} {Q : Exit → Act → World → Prop} {md : Region.Mode} {I : World → Prop} {ex : Nat → Bool}

theorem grown_drewG {a b : World} {r : Option Nat} (h : a.grownBy b r) : a.grownBy b.drew r := ⟨h.os, h.tape, h.output, h.size, h.block⟩
theorem wpOp_valG {i : Nat} {o : Oper} {K : Act → World → Prop} {a : Act} {w w' : World} {v : Value} (hi : ops[i]? = some o) (hw : Region.wanted o (yielded ops a.tmps) = true) (hrun : (execOp a.eval o).run P w = .ok (.value v) w') (h : K (a.put o.dst v) w') : wpOp P ops Q i K a w := by
  unfold wpOp
  simp only [hi, hw, if_true]
  refine .inl ?_
  unfold Oper.wp
  rw [hrun]; exact h
theorem wpOp_callG {i : Nat} {o : Oper} {K : Act → World → Prop} {a : Act} {w w1 : World} {f : FuncId} {args : Array Value} {R : Ending → World → Prop} (hi : ops[i]? = some o) (hw : Region.wanted o (yielded ops a.tmps) = true) (hrun : (execOp a.eval o).run P w = .ok (.enter f args) w1)
    (hc : Calls P f args w1 R) (h : ∀ e w', R e w' → ∃ v, e = .returned v ∧ K (a.put o.dst v) w') : wpOp P ops Q i K a w := by
  unfold wpOp
  simp only [hi, hw, if_true]
  refine .inl ?_
  unfold Oper.wp
  rw [hrun]
  refine Calls.mono hc fun e w' hr => ?_
  obtain ⟨v, rfl, hk⟩ := h e w' hr
  exact hk
theorem yldG {o : Oper} {v : Value} {a : Act} (hw : Region.wanted o (yielded ops a.tmps) = true) (h : ∀ w, I w → (execOp a.eval o).run P w = .ok (.value v) w) : YldI P ops I o v a := ⟨hw, h⟩
end
end Go.Proofs.YthcjmmpkgljjhaaGreatDoor

