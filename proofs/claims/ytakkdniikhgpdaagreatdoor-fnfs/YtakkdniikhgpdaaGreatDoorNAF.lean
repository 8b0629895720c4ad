import Derived.Handy
import Derived.Test.YtakkdniikhgpdaaGreatDoorNAA
import Derived.Test.YtakkdniikhgpdaaGreatDoorNAB
import Derived.Test.YtakkdniikhgpdaaGreatDoorNAC
namespace Go.Proofs.YtakkdniikhgpdaaGreatDoor
open Go.RowKit

set_option maxHeartbeats 1000000 in
theorem l4letter_any (p : Int) (w : World) : Calls Tryz.prog 89 #[.int .i64 p] w fun e w' => e = .returned (.bool (isLet p)) ∧ w = w' := by
  by_cases h : isLet p = true
  · have HI : Hid (isLet p = true) := h
    have h' : (97 ≤ p ∧ p ≤ 122) ∨ (65 ≤ p ∧ p ≤ 90) ∨ p = 95 ∨ p = 36 := by simpa [isLet] using h
    clear h
    rcases h' with ⟨h1, h2⟩ | ⟨h1, h2⟩ | rfl | rfl
    · have h3 : ¬ p ≤ 90 := by omega
      have h4 : 65 ≤ p := by omega
      go_enter Tryz.func89, Tryz.ntmps89
      go_wp2
      go_ret
      exact ⟨by rw [HI.out]; rfl, rfl⟩
    · have h3 : ¬ 97 ≤ p := by omega
      go_enter Tryz.func89, Tryz.ntmps89
      go_wp2
      go_ret
      exact ⟨by rw [HI.out]; rfl, rfl⟩
    all_goals
      go_enter Tryz.func89, Tryz.ntmps89
      go_wp2
      go_ret
      exact ⟨rfl, rfl⟩
  · have HI : Hid (isLet p = false) := by simpa [Hid] using h
    have h' : ¬ ((97 ≤ p ∧ p ≤ 122) ∨ (65 ≤ p ∧ p ≤ 90) ∨ p = 95 ∨ p = 36) := by simpa [isLet] using h
    clear h
    have h95 : (p == 95) = false := by simp; omega
    have h36 : (p == 36) = false := by simp; omega
    by_cases h1 : 65 ≤ p
    · have h2 : ¬ p ≤ 90 := by omega
      by_cases h3 : 97 ≤ p
      · have h4 : ¬ p ≤ 122 := by omega
        clear h'
        go_enter Tryz.func89, Tryz.ntmps89
        go_wp2
        go_ret
        exact ⟨by rw [HI.out]; rfl, rfl⟩
      · clear h'
        go_enter Tryz.func89, Tryz.ntmps89
        go_wp2
        go_ret
        exact ⟨by rw [HI.out]; rfl, rfl⟩
    · have h3 : ¬ 97 ≤ p := by omega
      clear h'
      go_enter Tryz.func89, Tryz.ntmps89
      go_wp2
      go_ret
      exact ⟨by rw [HI.out]; rfl, rfl⟩

end Go.Proofs.YtakkdniikhgpdaaGreatDoor

namespace Go.Proofs.YtakkdniikhgpdaaGreatDoor
open Go.RowKit

set_option maxHeartbeats 400000 in
theorem l4digit_any (p : Int) (w : World) : Calls Tryz.prog 90 #[.int .i64 p] w fun e w' => e = .returned (.bool (isDig p)) ∧ w = w' := by
  by_cases h0 : 48 ≤ p
  · by_cases h1 : p ≤ 57
    · have HI : Hid (isDig p = true) := by simp [Hid, isDig, h0, h1]
      go_enter Tryz.func90, Tryz.ntmps90
      go_wp2
      go_ret
      exact ⟨by rw [HI.out]; rfl, rfl⟩
    · have HI : Hid (isDig p = false) := by simp [Hid, isDig]; omega
      go_enter Tryz.func90, Tryz.ntmps90
      go_wp2
      go_ret
      exact ⟨by rw [HI.out]; rfl, rfl⟩
  · have HI : Hid (isDig p = false) := by simp [Hid, isDig]; omega
    go_enter Tryz.func90, Tryz.ntmps90
    go_wp2
    go_ret
    exact ⟨by rw [HI.out]; rfl, rfl⟩

end Go.Proofs.YtakkdniikhgpdaaGreatDoor

namespace Go.Proofs.YtakkdniikhgpdaaGreatDoor
open Go.RowKit

set_option maxHeartbeats 1000000 in
set_option maxRecDepth 100000 in
theorem specIsName_any (v : Value) (zs : List Int) (w : World) (hv : RdI w.heap.size w v zs) (hn : zs.length ≤ 2097152) :
    Calls Tryz.prog 79 #[v] w fun e w' => e = .returned (.bool (nmR zs)) ∧ w = w' := by
  obtain ⟨a, cap, rfl, hr⟩ := hv
  have hnot : ∀ (x : Bool) (w : World), (Op.unary .not (.bool x)).run Tryz.prog w = .ok (.bool (!x)) w := fun _ _ => rfl
  go_enter Tryz.func79, Tryz.ntmps79
  go_wp2
  go_loopw [3] (fun i wr => ∃ k : Nat, k ≤ zs.length ∧ i = .int .i64 k ∧ nmUp zs k = true ∧ w = wr)
    (fun i _ => zs.length - (intOf i).toNat)
  case atStart => exact ⟨0, Nat.zero_le _, rfl, rfl, rfl⟩
  case round =>
    obtain ⟨k, hk, rfl, hall, rfl⟩ := hrel
    by_cases hlt : k < zs.length
    · obtain ⟨b, off, rfl, hb, hc⟩ := hr (fun h => by simp [h] at hlt)
      have hcx := hc k hlt
      have hal := hide (nmUp_snoc zs k hall)
      have han := hide (nmR_not zs k hlt)
      generalize zs[k]?.getD 0 = p at hcx hal han
      clear hc hr
      cases h1 : isLet p
      · by_cases hk0 : k = 0
        · have hk1 : ((k : Int) == 0) = true := by simp [hk0]
          have HF : Hid (nmR zs = false) := han.out (by simp [nmAt, h1, hk0])
          have HK := hide hk0
          clear hal han hk0
          go_wp2_with (first
            | (go_at_call 89; refine (l4letter_any _ _).mono ?_; rintro e w' ⟨rfl, rfl⟩; rw [h1]))
          go_ret
          exact ⟨by rw [HF.out]; rfl, rfl⟩
        · have hk1 : ((k : Int) == 0) = false := by simp; omega
          cases h2 : isDig p
          · have HF : Hid (nmR zs = false) := han.out (by simp [nmAt, h1, h2])
            clear hal han
            go_wp2_with (first
              | (go_at_call 89; refine (l4letter_any _ _).mono ?_; rintro e w' ⟨rfl, rfl⟩; rw [h1])
              | (go_at_call 90; refine (l4digit_any _ _).mono ?_; rintro e w' ⟨rfl, rfl⟩; rw [h2]))
            go_ret
            exact ⟨by rw [HF.out]; rfl, rfl⟩
          · have HT : Hid (nmUp zs (k + 1) = true) := hal.out (by simp [nmAt, h1, h2, hk0])
            clear hal han
            go_wp2_with (first
              | (go_at_call 89; refine (l4letter_any _ _).mono ?_; rintro e w' ⟨rfl, rfl⟩; rw [h1])
              | (go_at_call 90; refine (l4digit_any _ _).mono ?_; rintro e w' ⟨rfl, rfl⟩; rw [h2]))
            go_roundw
            case rel => exact ⟨k + 1, by omega, by go_num, HT.out, trivial⟩
            case measure => simp [intOf]; omega
      · have HT : Hid (nmUp zs (k + 1) = true) := hal.out (by simp [nmAt, h1])
        clear hal han
        go_wp2_with (first
          | (go_at_call 89; refine (l4letter_any _ _).mono ?_; rintro e w' ⟨rfl, rfl⟩; rw [h1]))
        go_roundw
        case rel => exact ⟨k + 1, by omega, by go_num, HT.out, trivial⟩
        case measure => simp [intOf]; omega
    · have hkn : k = zs.length := by omega
      rw [hkn] at hall
      have HF : Hid (nmR zs = decide (0 < zs.length)) := nmR_yes zs hall
      have HG : Hid (decide ((0 : Int) < (zs.length : Int)) = decide (0 < zs.length)) := by simp [Hid]
      clear hr hall hkn
      go_wp2
      go_ret
      exact ⟨by rw [HF.out, ← HG.out]; rfl, rfl⟩

end Go.Proofs.YtakkdniikhgpdaaGreatDoor

namespace Go.Proofs.YtakkdniikhgpdaaGreatDoor
open Go.RowKit

/-! The model's valid trees and the program's are the same: cOk says which comments, nOk which numbers are in order. -/
section
variable (cOk : Cm → Bool) (nOk : List Int → Bool)

def sumC : List Cm → Int
  | [] => 0
  | c :: cs => c.t.length + sumC cs
theorem sumC_nonneg : ∀ cs, 0 ≤ sumC cs
  | [] => by simp [sumC]
  | c :: cs => by have := sumC_nonneg cs; simp only [sumC]; omega

/-- What a node takes of the elements, and of the comments. -/
def nr (n : Nod) : Int := n.key.length + n.units.length + n.text.length + (sumC n.lead + sumC n.tail)
def nc (n : Nod) : Int := n.lead.length + n.tail.length
theorem nr_nonneg (n : Nod) : 0 ≤ nr n := by have := sumC_nonneg n.lead; have := sumC_nonneg n.tail; unfold nr; omega
theorem nc_nonneg (n : Nod) : 0 ≤ nc n := by unfold nc; omega

/-- The model's node. -/
def NodeOK (n : Nod) : Prop :=
  (0 ≤ n.k ∧ n.k ≤ 6) ∧ n.lead.all cOk = true ∧ n.tail.all cOk = true ∧ n.key.all isUn = true ∧ n.units.all isUn = true ∧ (n.mem = true ∨ n.key = []) ∧ (n.k = 3 → nOk n.text = true) ∧ (n.k ≠ 3 → n.text = []) ∧ (n.k ≠ 4 → n.units = []) ∧ (n.k < 5 → n.cnt = 0 ∧ n.tail = []) ∧ 0 ≤ n.cnt
/-- What the program asks of a node's fields. -/
def Fits (n : Nod) : Prop :=
  (0 ≤ n.k ∧ n.k ≤ 6) ∧ (n.mem = true ∨ n.key = []) ∧ (n.k ≠ 3 → n.text = []) ∧ (n.k ≠ 4 → n.units = []) ∧ (5 ≤ n.k → 0 ≤ n.cnt) ∧ (n.k < 5 → n.cnt = 0 ∧ n.tail = [])

def comR : List Cm → Int → Option Int
  | [], r => some r
  | c :: cs, r => if r - c.t.length < 0 ∨ cOk c = false then none else comR cs (r - c.t.length)
theorem comR_is : ∀ (cs : List Cm) (r : Int), 0 ≤ r → comR cOk cs r = if cs.all cOk = true ∧ sumC cs ≤ r then some (r - sumC cs) else none
  | [], r, h => by simp [comR, sumC, h]
  | c :: cs, r, h => by
    have hn := sumC_nonneg cs
    simp only [comR, sumC, List.all_cons]
    by_cases h1 : r - c.t.length < 0
    · rw [if_pos (.inl h1)]
      exact (if_neg (fun h : (cOk c && cs.all cOk) = true ∧ (c.t.length : Int) + sumC cs ≤ r => by have := h.2; omega)).symm
    · by_cases h2 : cOk c = true
      · have e1 : (if r - c.t.length < 0 ∨ cOk c = false then none else comR cOk cs (r - c.t.length)) = comR cOk cs (r - c.t.length) := if_neg (fun h => h.elim h1 (fun e => by rw [h2] at e; cases e))
        rw [e1, comR_is cs _ (by omega)]
        by_cases h3 : cs.all cOk = true ∧ sumC cs ≤ r - c.t.length
        · rw [if_pos h3]
          refine Eq.trans ?_ (if_pos (show (cOk c && cs.all cOk) = true ∧ (c.t.length : Int) + sumC cs ≤ r from ⟨by rw [h2, h3.1]; rfl, by have := h3.2; omega⟩)).symm
          congr 1; omega
        · rw [if_neg h3]
          refine (if_neg (fun h : (cOk c && cs.all cOk) = true ∧ (c.t.length : Int) + sumC cs ≤ r => h3 ⟨?_, by have := h.2; omega⟩)).symm
          have := h.1
          rw [h2] at this
          simpa only [Bool.true_and] using this
      · have h2' : cOk c = false := by simpa using h2
        rw [if_pos (.inr h2')]
        exact (if_neg (fun h : (cOk c && cs.all cOk) = true ∧ (c.t.length : Int) + sumC cs ≤ r => by have := h.1; rw [h2'] at this; simp at this)).symm
def comP (cs : List Cm) (s : Int × Int) : Option (Int × Int) := if s.1 - cs.length < 0 then none else (comR cOk cs s.2).map fun r => (s.1 - cs.length, r)
theorem comP_is (cs : List Cm) (c r : Int) (hr : 0 ≤ r) : comP cOk cs (c, r) = if (cs.length : Int) ≤ c ∧ cs.all cOk = true ∧ sumC cs ≤ r then some (c - cs.length, r - sumC cs) else none := by
  unfold comP
  by_cases h : c - (cs.length : Int) < 0
  · rw [if_pos h, if_neg (fun h' => by have := h'.1; omega)]
  · rw [if_neg h, comR_is cOk cs r hr]
    by_cases h2 : cs.all cOk = true ∧ sumC cs ≤ r
    · rw [if_pos h2, if_pos ⟨by omega, h2⟩]; rfl
    · rw [if_neg h2, if_neg (fun h => h2 h.2)]; rfl

open Classical in
/-- What the program does at a node. -/
noncomputable def chkP (n : Nod) (s : Int × Int) : Option (Int × Int) :=
  if ¬ Fits n then none
  else if s.2 - n.key.length < 0 ∨ n.key.all isUn = false then none
  else if s.2 - n.key.length - n.units.length < 0 ∨ n.units.all isUn = false then none
  else if s.2 - n.key.length - n.units.length - n.text.length < 0 then none
  else if n.k = 3 ∧ nOk n.text = false then none
  else (comP cOk n.lead (s.1, s.2 - n.key.length - n.units.length - n.text.length)).bind fun s' => comP cOk n.tail s'

theorem fits_node (n : Nod) : NodeOK cOk nOk n ↔ Fits n ∧ n.key.all isUn = true ∧ n.units.all isUn = true ∧ (n.k = 3 → nOk n.text = true) ∧ n.lead.all cOk = true ∧ n.tail.all cOk = true := by
  unfold NodeOK Fits
  constructor
  · rintro ⟨h1, h2, h3, h4, h5, h6, h7, h8, h9, h10, h11⟩
    exact ⟨⟨h1, h6, h8, h9, fun _ => h11, h10⟩, h4, h5, h7, h2, h3⟩
  · rintro ⟨⟨h1, h6, h8, h9, h11, h10⟩, h4, h5, h7, h2, h3⟩
    refine ⟨h1, h2, h3, h4, h5, h6, h7, h8, h9, h10, ?_⟩
    by_cases h : 5 ≤ n.k
    · exact h11 h
    · have := (h10 (by omega)).1; omega

open Classical in
theorem chkP_is (n : Nod) (c r : Int) : chkP cOk nOk n (c, r) = if NodeOK cOk nOk n ∧ nc n ≤ c ∧ nr n ≤ r then some (c - nc n, r - nr n) else none := by
  have s1 := sumC_nonneg n.lead
  have s2 := sumC_nonneg n.tail
  rw [fits_node]
  unfold chkP nc nr
  by_cases h1 : Fits n
  · rw [if_neg (by simpa using h1)]
    by_cases h2 : r - n.key.length < 0 ∨ n.key.all isUn = false
    · rw [if_pos h2, if_neg]
      rintro ⟨⟨_, k1, _⟩, _, b⟩
      rcases h2 with h | h
      · omega
      · rw [k1] at h; cases h
    · rw [if_neg h2]
      by_cases h3 : r - n.key.length - n.units.length < 0 ∨ n.units.all isUn = false
      · rw [if_pos h3, if_neg]
        rintro ⟨⟨_, _, k2, _⟩, _, b⟩
        rcases h3 with h | h
        · omega
        · rw [k2] at h; cases h
      · rw [if_neg h3]
        by_cases h4 : r - n.key.length - n.units.length - n.text.length < 0
        · rw [if_pos h4, if_neg (by rintro ⟨_, _, b⟩; omega)]
        · rw [if_neg h4]
          by_cases h5 : n.k = 3 ∧ nOk n.text = false
          · rw [if_pos h5, if_neg]
            rintro ⟨⟨_, _, _, k3, _⟩, _⟩
            have := k3 h5.1
            rw [h5.2] at this; cases this
          · rw [if_neg h5]
            have k1 : n.key.all isUn = true := eq_true_of_ne_false (fun h => h2 (.inr h))
            have k2 : n.units.all isUn = true := eq_true_of_ne_false (fun h => h3 (.inr h))
            have k3 : n.k = 3 → nOk n.text = true := fun hk => eq_true_of_ne_false (fun h => h5 ⟨hk, h⟩)
            rw [comP_is cOk n.lead c _ (by omega)]
            by_cases h6 : (n.lead.length : Int) ≤ c ∧ n.lead.all cOk = true ∧ sumC n.lead ≤ r - n.key.length - n.units.length - n.text.length
            · rw [if_pos h6, Option.bind_some, comP_is cOk n.tail _ _ (by omega)]
              by_cases h7 : (n.tail.length : Int) ≤ c - n.lead.length ∧ n.tail.all cOk = true ∧ sumC n.tail ≤ r - n.key.length - n.units.length - n.text.length - sumC n.lead
              · rw [if_pos h7, if_pos ⟨⟨h1, k1, k2, k3, h6.2.1, h7.2.1⟩, by omega, by omega⟩]
                congr 1
                rw [Prod.mk.injEq]
                constructor <;> omega
              · rw [if_neg h7, if_neg]
                rintro ⟨⟨_, _, _, _, _, a⟩, b, b'⟩
                exact h7 ⟨by omega, a, by omega⟩
            · rw [if_neg h6, Option.bind_none, if_neg]
              rintro ⟨⟨_, _, _, _, a, _⟩, b, b'⟩
              exact h6 ⟨by omega, a, by omega⟩
  · rw [if_pos (by simpa using h1), if_neg (fun h => h1 h.1.1)]

def sumR : List Nod → Int
  | [] => 0
  | n :: ns => nr n + sumR ns
def sumK : List Nod → Int
  | [] => 0
  | n :: ns => nc n + sumK ns
theorem sumR_nonneg : ∀ ns, 0 ≤ sumR ns
  | [] => by simp [sumR]
  | n :: ns => by have := sumR_nonneg ns; have := nr_nonneg n; simp only [sumR]; omega
theorem sumK_nonneg : ∀ ns, 0 ≤ sumK ns
  | [] => by simp [sumK]
  | n :: ns => by have := sumK_nonneg ns; have := nc_nonneg n; simp only [sumK]; omega

theorem fold_is : ∀ (ns : List Nod) (c r : Int) (x : Int × Int), 0 ≤ c → 0 ≤ r → (foldC (chkP cOk nOk) ns (c, r) = some x ↔ (∀ n ∈ ns, NodeOK cOk nOk n) ∧ sumK ns ≤ c ∧ sumR ns ≤ r ∧ x = (c - sumK ns, r - sumR ns))
  | [], c, r, x, hc, hr => by
    simp only [foldC, Option.some.injEq, sumK, sumR, Int.sub_zero]
    constructor
    · intro h; exact ⟨by simp, hc, hr, h.symm⟩
    · rintro ⟨_, _, _, h⟩; exact h.symm
  | n :: ns, c, r, x, hc, hr => by
    have a1 := sumR_nonneg ns
    have a2 := sumK_nonneg ns
    have b1 := nr_nonneg n
    have b2 := nc_nonneg n
    simp only [foldC, chkP_is cOk nOk n c r, sumK, sumR]
    by_cases h : NodeOK cOk nOk n ∧ nc n ≤ c ∧ nr n ≤ r
    · rw [if_pos h, Option.bind_some, fold_is ns _ _ x (by omega) (by omega)]
      constructor
      · rintro ⟨p1, p2, p3, p4⟩
        refine ⟨fun q hq => ?_, by omega, by omega, by rw [p4, Prod.mk.injEq]; constructor <;> omega⟩
        simp only [List.mem_cons] at hq
        rcases hq with rfl | hq
        · exact h.1
        · exact p1 q hq
      · rintro ⟨p1, p2, p3, p4⟩
        exact ⟨fun q hq => p1 q (by simp [hq]), by omega, by omega, by rw [p4, Prod.mk.injEq]; constructor <;> omega⟩
    · rw [if_neg h, Option.bind_none]
      constructor
      · intro hh; cases hh
      · rintro ⟨p1, p2, p3, _⟩
        exact absurd ⟨p1 n (by simp), by omega, by omega⟩ h

/-- THE TWO ARE THE SAME. -/
theorem valid_tree (ns : List Nod) (tail : List Cm) :
    (∃ s x, walkL (chkP cOk nOk) 201 false (ns, (4000, 100000)) = some ([], s) ∧ comP cOk tail s = some x) ↔
    (sumR ns + sumC tail ≤ 100000 ∧ sumK ns + tail.length ≤ 4000 ∧ tail.all cOk = true ∧ (∀ n ∈ ns, NodeOK cOk nOk n) ∧ endL ns.length 201 false ns = some []) := by
  have a1 := sumR_nonneg ns
  have a2 := sumK_nonneg ns
  have a3 := sumC_nonneg tail
  have he : (walkL triv 201 false (ns, ()) = some ([], ())) ↔ endL ns.length 201 false ns = some [] := by
    rw [← end_walk ns.length 201 false ns (Nat.le_refl _)]
    cases endL ns.length 201 false ns with
    | none => simp
    | some R => simp
  constructor
  · rintro ⟨s, x, hw, hc⟩
    obtain ⟨g, f⟩ := (walk_all _ 201 false ns (4000, 100000) s).1 hw
    obtain ⟨p1, p2, p3, p4⟩ := (fold_is cOk nOk ns 4000 100000 s (by omega) (by omega)).1 f
    subst p4
    rw [comP_is cOk tail _ _ (by omega)] at hc
    by_cases h : (tail.length : Int) ≤ 4000 - sumK ns ∧ tail.all cOk = true ∧ sumC tail ≤ 100000 - sumR ns
    · exact ⟨by omega, by omega, h.2.1, p1, he.1 g⟩
    · rw [if_neg h] at hc; cases hc
  · rintro ⟨h1, h2, h3, h4, h5⟩
    refine ⟨(4000 - sumK ns, 100000 - sumR ns), (4000 - sumK ns - tail.length, 100000 - sumR ns - sumC tail), ?_, ?_⟩
    · exact (walk_all _ 201 false ns (4000, 100000) _).2 ⟨he.2 h5, (fold_is cOk nOk ns 4000 100000 _ (by omega) (by omega)).2 ⟨h4, by omega, by omega, rfl⟩⟩
    · rw [comP_is cOk tail _ _ (by omega), if_pos ⟨by omega, h3, by omega⟩]
end
end Go.Proofs.YtakkdniikhgpdaaGreatDoor

namespace Go.Proofs.YtakkdniikhgpdaaGreatDoor
open Go.RowKit

theorem loopN_add {σ : Type} (f : σ → Option σ) : ∀ (a b : Nat) (s : σ), loopN f (a + b) s = (loopN f a s).bind (loopN f b)
  | 0, b, s => by simp [loopN]
  | a + 1, b, s => by
    rw [show a + 1 + b = (a + b) + 1 by omega]
    simp only [loopN]
    cases f s with
    | none => rfl
    | some s' => exact loopN_add f a b s'
theorem loopN_succ {σ : Type} (f : σ → Option σ) (k : Nat) (s : σ) : loopN f (k + 1) s = (loopN f k s).bind f := by
  rw [loopN_add f k 1 s]
  cases loopN f k s with
  | none => rfl
  | some s' => simp only [Option.bind_some, loopN]; cases f s' <;> rfl

theorem end_suffix (len d : Nat) (m : Bool) (ns : List Nod) (hl : ns.length ≤ len) (j : Nat) (R : List Nod) (h : endL len d m (ns.drop j) = some R) : ∃ i, i ≤ ns.length ∧ R = ns.drop i := by
  have hw := end_walk len d m (ns.drop j) (by simp; omega)
  rw [h] at hw
  obtain ⟨P, r⟩ := (walk_splits triv d m).2 (ns.drop j) R hw.symm
  have h1 : ns = (ns.take j ++ P) ++ R := by rw [List.append_assoc, ← r, List.take_append_drop]
  generalize ns.take j ++ P = A at h1
  refine ⟨A.length, by rw [h1]; simp, by rw [h1]; simp⟩

/-- The place behind, or -1. -/
def placeOf (len : Nat) : Option (List Nod) → Int
  | none => -1
  | some R => len - R.length

set_option maxHeartbeats 8000000 in
set_option maxRecDepth 100000 in
theorem l5end_any (t : Tre) (hn : t.nodes.length ≤ 1048576) (hc : ∀ p ∈ t.nodes, p.k < 5 → p.cnt = 0) (hb : ∀ p ∈ t.nodes, -9223372036854775808 ≤ p.cnt ∧ p.cnt ≤ 9223372036854775807) : ∀ (d : Nat), d ≤ 201 → ∀ (i : Nat) (m : Bool) (nv tv : Value) (w : World), i ≤ t.nodes.length → RdT' w.heap.size w nv tv t →
    Calls Tryz.prog 91 #[.agg #[nv, tv], .int .i64 i, .bool m, .int .i64 d] w fun e w' => e = .returned (.int .i64 (placeOf t.nodes.length (endL t.nodes.length (d + 1) m (t.nodes.drop i)))) ∧ w.grownBy w' none := by
  intro d
  induction d using Nat.strongRecOn with
  | ind d ih =>
    intro hd i m nv tv w hi hv
    obtain ⟨hvn, hvt⟩ := id hv
    obtain ⟨na, ncap, hn0, _⟩ := id hvn
    obtain ⟨ta, tcap, ht0, _⟩ := id hvt
    have HV := hide hv
    have IH := hide ih
    subst hn0 ht0
    clear hvn hvt hv ih
    by_cases hlt : i < t.nodes.length
    · obtain ⟨b, off, cap', lv, kv, xv, uv, tlv, hva, hb0, hp⟩ := HV.out.1.at i hlt
      cases hva
      have z0 := hp.k; have z1 := hp.lead; have z2 := hp.mem; have z3 := hp.key; have z4 := hp.text; have z5 := hp.units; have z6 := hp.cnt; have z7 := hp.tail
      obtain ⟨la, lcap, hlv, _, _⟩ := hp.rl.sl
      obtain ⟨qa, qcap, hqv, _, _⟩ := hp.rt.sl
      obtain ⟨ka, kcap, hkv, _, _⟩ := hp.sk
      obtain ⟨xa, xcap, hxv, _, _⟩ := hp.sx
      obtain ⟨ua, ucap, huv, _, _⟩ := hp.su
      have hcc := hc _ (List.getElem_mem hlt)
      have hbb := hb _ (List.getElem_mem hlt)
      have hdr : t.nodes.drop i = t.nodes[i] :: t.nodes.drop (i + 1) := List.drop_eq_getElem_cons hlt
      have aw : ∀ (n : Nat), w.grownBy ((w.alloc (Obj.cells #[.slice (some ⟨b, off, none⟩) t.nodes.length ncap, .slice ta t.tail.length tcap] 100)).drewN n) none := fun n => grown_drewN (World.grownBy_alloc _ _ _) n
      have z2' := (World.grownBy_alloc w (Obj.cells #[.slice (some ⟨b, off, none⟩) t.nodes.length ncap, .slice ta t.tail.length tcap] 100) none).cell z2 (by simp)
      by_cases hm : t.nodes[i].mem = m
      · subst hm
        have hres : endL t.nodes.length (d + 1) t.nodes[i].mem (t.nodes.drop i) = if ((t.nodes.length : Int) < t.nodes[i].cnt ∨ (5 ≤ t.nodes[i].k ∧ d = 0)) then none else loopN (endL t.nodes.length d (decide (t.nodes[i].k = 6))) t.nodes[i].cnt.toNat (t.nodes.drop (i + 1)) := by
          rw [hdr]; simp only [endL, ne_eq, not_true_eq_false, if_false]
        subst hlv hqv hkv hxv huv
        clear hp
        by_cases hst : (t.nodes.length : Int) < t.nodes[i].cnt ∨ (5 ≤ t.nodes[i].k ∧ d = 0)
        · rw [if_pos hst] at hres
          have HE : Hid (placeOf t.nodes.length (endL t.nodes.length (d + 1) t.nodes[i].mem (t.nodes.drop i)) = -1) := by unfold Hid; rw [hres]; rfl
          clear hres hdr
          generalize t.nodes[i] = p at *
          by_cases hgt : (t.nodes.length : Int) < p.cnt
          · go_enter Tryz.func91, Tryz.ntmps91
            go_wp2
            go_ret
            exact ⟨by rw [HE.out]; rfl, grown_trans (World.grownBy_alloc _ _ _) (World.grownBy_alloc _ _ _)⟩
          · obtain ⟨hk5, hd0⟩ := hst.resolve_left hgt
            subst hd0
            go_enter Tryz.func91, Tryz.ntmps91
            go_wp2
            go_ret
            exact ⟨by rw [HE.out]; rfl, grown_trans (World.grownBy_alloc _ _ _) (World.grownBy_alloc _ _ _)⟩
        · rw [if_neg hst] at hres
          obtain ⟨hst1, hst2⟩ := not_or.1 hst
          have hst1' : t.nodes[i].cnt ≤ t.nodes.length := by omega
          have hd1 : 5 ≤ t.nodes[i].k → d ≠ 0 := fun h e => hst2 ⟨h, e⟩
          have HRes := hide hres
          have HCC := hide hcc
          clear hres hdr hst hst1 hst2 hcc
          have hps := hbb.1
          have hpl := hbb.2
          generalize t.nodes[i] = p at *
          by_cases hk5 : 5 ≤ p.k
          · have hdn := hd1 hk5
            have hdp : (0 : Int) < d := by omega
            have hdd : ((d : Int) == 0) = false := by simp; omega
            go_enter Tryz.func91, Tryz.ntmps91
            go_wp2
            have HC : Hid (∀ wr : World, ((w.alloc (Obj.cells #[.slice (some ⟨b, off, none⟩) t.nodes.length ncap, .slice ta t.tail.length tcap] 100)).alloc (Obj.cells #[.int .i64 p.k, .slice la p.lead.length lcap, .bool p.mem, .slice ka p.key.length kcap, .slice xa p.text.length xcap, .slice ua p.units.length ucap, .int .i64 p.cnt, .slice qa p.tail.length qcap] 119)).grownBy wr none → (wr.cell? ⟨w.heap.size, 0, none⟩ = some (.slice (some ⟨b, off, none⟩) t.nodes.length ncap) ∧ wr.cell? ⟨w.heap.size, 1, none⟩ = some (.slice ta t.tail.length tcap)) ∧ wr.cell? ⟨w.heap.size + 1, 0, none⟩ = some (.int .i64 p.k) ∧ wr.cell? ⟨w.heap.size + 1, 6, none⟩ = some (.int .i64 p.cnt)) := fun wr g =>
              ⟨⟨g.cell (by simp [go_sem]) (by simp), g.cell (by simp [go_sem]) (by simp)⟩, g.cell (by simp [go_sem]) (by simp), g.cell (by simp [go_sem]) (by simp)⟩
            go_loopw [10, 11] (fun at' kk wr => ∃ k j : Nat, kk = .int .i64 k ∧ at' = .int .i64 j ∧ (k : Int) ≤ p.cnt.toNat ∧ j ≤ t.nodes.length ∧ Hid (loopN (endL t.nodes.length d (decide (p.k = 6))) k (t.nodes.drop (i + 1)) = some (t.nodes.drop j)) ∧ ((w.alloc (Obj.cells #[.slice (some ⟨b, off, none⟩) t.nodes.length ncap, .slice ta t.tail.length tcap] 100)).alloc (Obj.cells #[.int .i64 p.k, .slice la p.lead.length lcap, .bool p.mem, .slice ka p.key.length kcap, .slice xa p.text.length xcap, .slice ua p.units.length ucap, .int .i64 p.cnt, .slice qa p.tail.length qcap] 119)).grownBy wr none) (fun _ kk _ => p.cnt.toNat - (intOf kk).toNat)
            case atStart => exact ⟨0, i + 1, rfl, by go_num, by omega, by omega, rfl, World.grownBy.refl _ _⟩
            case round =>
              obtain ⟨k, j, rfl, rfl, hk, hj, HL, hgr⟩ := hrel
              obtain ⟨⟨y0, y1⟩, y2, y3⟩ := HC.out wr hgr
              have hgw := grown_trans (grown_trans (World.grownBy_alloc w _ none) (World.grownBy_alloc _ _ none)) hgr
              by_cases hkc : (k : Int) < p.cnt
              · have CI := hide (IH.out (d - 1) (by omega) (by omega) j (decide (p.k = 6)) (.slice (some ⟨b, off, none⟩) t.nodes.length ncap) (.slice ta t.tail.length tcap) wr hj ⟨(HV.out.1.keep hgw).wide hgw.size, (HV.out.2.keep hgw).wide hgw.size⟩)
                rw [show d - 1 + 1 = d by omega, show ((d - 1 : Nat) : Int) = (d : Int) - 1 by omega] at CI
                have HG := hide hgw
                have HGr := hide hgr
                clear hgr hgw
                cases hend : endL t.nodes.length d (decide (p.k = 6)) (t.nodes.drop j) with
                | none =>
                  rw [hend] at CI
                  have HE : Hid (placeOf t.nodes.length (endL t.nodes.length (d + 1) p.mem (t.nodes.drop i)) = -1) := by
                    unfold Hid
                    rw [HRes.out, show p.cnt.toNat = k + ((p.cnt.toNat - k - 1) + 1) by omega, loopN_add, HL.out, Option.bind_some]
                    simp only [loopN, hend, Option.bind_none, placeOf]
                  clear hend
                  go_wp2_with fail
                  refine CI.out.mono ?_
                  rintro e w2 ⟨rfl, g2⟩
                  simp only [placeOf]
                  go_wp2
                  go_ret
                  exact ⟨by rw [HE.out]; rfl, grown_trans HG.out g2⟩
                | some R =>
                  rw [hend] at CI
                  obtain ⟨j', hj', hR⟩ := end_suffix t.nodes.length d _ t.nodes (Nat.le_refl _) j R hend
                  subst hR
                  have hpl2 : placeOf t.nodes.length (some (t.nodes.drop j')) = (j' : Int) := by simp only [placeOf, List.length_drop]; omega
                  rw [hpl2] at CI
                  have HL2 : Hid (loopN (endL t.nodes.length d (decide (p.k = 6))) (k + 1) (t.nodes.drop (i + 1)) = some (t.nodes.drop j')) := by
                    unfold Hid; rw [loopN_succ, HL.out, Option.bind_some]; exact hend
                  clear hend hpl2
                  go_wp2_with fail
                  refine CI.out.mono ?_
                  rintro e w2 ⟨rfl, g2⟩
                  go_wp2
                  go_roundw
                  case rel => exact ⟨k + 1, j', by go_num, rfl, by omega, hj', HL2, grown_trans HGr.out g2⟩
                  case measure => simp [intOf]; omega
              · have hkn : p.cnt.toNat = k := by omega
                have HE : Hid (placeOf t.nodes.length (endL t.nodes.length (d + 1) p.mem (t.nodes.drop i)) = j) := by
                  unfold Hid; rw [HRes.out, hkn, HL.out]; simp only [placeOf, List.length_drop]; omega
                have HG := hide hgw
                clear hgr hgw hkn
                go_wp2
                go_ret
                exact ⟨by rw [HE.out]; rfl, HG.out⟩
          · have hc0 := HCC.out (by omega)
            have HE : Hid (placeOf t.nodes.length (endL t.nodes.length (d + 1) p.mem (t.nodes.drop i)) = (i : Int) + 1) := by
              unfold Hid; rw [HRes.out, hc0]; simp only [Int.toNat_zero, loopN, placeOf, List.length_drop]; omega
            rw [hc0] at z6
            go_enter Tryz.func91, Tryz.ntmps91
            go_wp2
            refine wp_loop_rounds 1 ?_
            rw [rounds_succ]
            go_wp2
            go_ret
            exact ⟨by rw [HE.out]; rfl, grown_trans (World.grownBy_alloc _ _ _) (World.grownBy_alloc _ _ _)⟩
      · have HE : Hid (placeOf t.nodes.length (endL t.nodes.length (d + 1) m (t.nodes.drop i)) = -1) := by
          unfold Hid; rw [hdr]; simp [endL, hm, placeOf]
        have hmm : t.nodes[i].mem = !m := by cases hq : t.nodes[i].mem <;> cases m <;> simp_all
        rw [hmm] at z2
        clear z2'
        subst hlv hqv hkv hxv huv
        clear hp hm hmm hcc hbb hdr
        generalize t.nodes[i] = p at *
        cases m <;>
        · simp only [Bool.not_true, Bool.not_false] at z2
          go_enter Tryz.func91, Tryz.ntmps91
          go_wp2
          go_ret
          exact ⟨by rw [HE.out]; rfl, World.grownBy_alloc _ _ _⟩
    · have HE : Hid (placeOf t.nodes.length (endL t.nodes.length (d + 1) m (t.nodes.drop i)) = -1) := by
        unfold Hid; rw [List.drop_eq_nil_of_le (by omega)]; rfl
      have hi2 : (t.nodes.length : Int) ≤ i := by omega
      go_enter Tryz.func91, Tryz.ntmps91
      go_wp2
      go_ret
      exact ⟨by rw [HE.out]; rfl, World.grownBy_alloc _ _ _⟩

end Go.Proofs.YtakkdniikhgpdaaGreatDoor

namespace Go.Proofs.YtakkdniikhgpdaaGreatDoor
open Go.RowKit

set_option maxHeartbeats 400000 in
theorem l2arity_any (k : Int) (w : World) : Calls Tryz.prog 102 #[.int .i64 k] w fun e w' => e = .returned (.int .i64 (ar k)) ∧ w = w' := by
  by_cases h6 : k = 6
  · subst h6
    go_enter Tryz.func102, Tryz.ntmps102
    go_wp2
    go_ret
    exact ⟨rfl, rfl⟩
  by_cases h9 : k = 9
  · subst h9
    go_enter Tryz.func102, Tryz.ntmps102
    go_wp2
    go_ret
    exact ⟨rfl, rfl⟩
  by_cases h7 : k = 7
  · subst h7
    go_enter Tryz.func102, Tryz.ntmps102
    go_wp2
    go_ret
    exact ⟨rfl, rfl⟩
  by_cases h8 : k = 8
  · subst h8
    go_enter Tryz.func102, Tryz.ntmps102
    go_wp2
    go_ret
    exact ⟨rfl, rfl⟩
  have ha : Hid (ar k = 0) := by unfold Hid ar; rw [if_neg (by omega), if_neg (by omega)]
  have e6 : (k == 6) = false := by simpa using h6
  have e7 : (k == 7) = false := by simpa using h7
  have e8 : (k == 8) = false := by simpa using h8
  have e9 : (k == 9) = false := by simpa using h9
  go_enter Tryz.func102, Tryz.ntmps102
  go_wp2
  go_ret
  exact ⟨by rw [ha.out]; rfl, rfl⟩

end Go.Proofs.YtakkdniikhgpdaaGreatDoor

