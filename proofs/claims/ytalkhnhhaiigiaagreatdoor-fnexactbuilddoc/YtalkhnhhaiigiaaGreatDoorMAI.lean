import Derived.Test.YtalkhnhhaiigiaaGreatDoorMAA
import Derived.Test.YtalkhnhhaiigiaaGreatDoorMAB
import Derived.Test.YtalkhnhhaiigiaaGreatDoorMAH
namespace Go.Proofs.YtalkhnhhaiigiaaGreatDoor
open Go.RowKit

set_option maxHeartbeats 2000000 in
set_option maxRecDepth 100000 in
theorem specFromUnits_any (v : Value) (zs : List Int) (w : World) (hv : RdI w.heap.size w v zs) (hn : zs.length ≤ 2097152) :
    Calls Tryz.prog 92 #[v] w fun e w' => ∃ v', e = .returned (.tuple #[v', .int .i64 (fuR zs).2]) ∧ OwI w.heap.size w' v' (fuR zs).1 ∧ w.grownBy w' none := by
  obtain ⟨i0, hi, hz0, hz1, hz2⟩ := info_parts info3
  obtain ⟨a, cap, rfl, hr⟩ := hv
  go_enter Tryz.func92, Tryz.ntmps92
  go_wp2
  go_loop [4] (fun i => ∃ k : Nat, k ≤ zs.length ∧ i = .int .i64 k ∧ (zs.take k).all isUn = true) (fun i => zs.length - (intOf i).toNat)
  case atStart => exact ⟨0, Nat.zero_le _, rfl, rfl⟩
  case round =>
    obtain ⟨k, hk, rfl, hall⟩ := hrel
    by_cases hlt : k < zs.length
    · obtain ⟨b, off, rfl, hb, hc⟩ := hr (fun h => by simp [h] at hlt)
      have hcx := hc k hlt
      have hal := all_snoc zs isUn k hlt hall
      have han := all_not zs isUn k hlt
      generalize zs[k]?.getD 0 = p at hcx hal han
      by_cases hp0 : p < 0
      · have HF : Hid (zs.all isUn = false) := han (by simp [isUn]; omega)
        clear hal han hc hr
        go_wp2
        go_ret2
        exact ⟨_, by rw [fuR_bad _ HF.out]; rfl, by rw [fuR_bad _ HF.out]; exact World.ownsRow_nil _ _ _ _, World.grownBy.refl _ _⟩
      · by_cases hp1 : 65535 < p
        · have HF : Hid (zs.all isUn = false) := han (by simp [isUn]; omega)
          clear hal han hc hr
          go_wp2
          go_ret2
          exact ⟨_, by rw [fuR_bad _ HF.out]; rfl, by rw [fuR_bad _ HF.out]; exact World.ownsRow_nil _ _ _ _, World.grownBy.refl _ _⟩
        · have hal' := hal (by simp [isUn]; omega)
          clear hal han hc hr
          go_wp2
          go_round
          case rel => exact ⟨k + 1, by omega, by go_num, hal'⟩
          case measure => simp [intOf]; omega
    · have HF : Hid (zs.all isUn = true) := by
        unfold Hid
        rw [List.take_of_length_le (by omega)] at hall
        exact hall
      clear hall
      go_wp2
      go_loopw [5, 6] (fun v i wr => ∃ (k : Nat) (acc : List Int), k ≤ zs.length ∧ i = .int .i64 k ∧ OwI w.heap.size wr v acc ∧ acc.length ≤ k ∧ acc ++ fu (zs.drop k) = fu zs ∧ Below w.heap.size w wr)
        (fun _ i _ => zs.length - (intOf i).toNat)
      case atStart => exact ⟨0, [], Nat.zero_le _, rfl, World.ownsRow_nil _ _ _ _, Nat.le_refl _, by simp, Below.refl _ _⟩
      case round =>
        rename_i hk0 hlt0
        obtain ⟨k, acc, hk, rfl, hown, hacc, hx, hnx⟩ := hrel
        by_cases hlt : k < zs.length
        · obtain ⟨b, off, rfl, hb, hc⟩ := hr (fun h => by simp [h] at hlt)
          have hcx : wr.cell? ⟨b, off + k, none⟩ = some (.int .i64 (zs[k]?.getD 0)) := (hnx.cell (by exact hb)).trans (hc k hlt)
          have hcy : k + 1 < zs.length → wr.cell? ⟨b, off + (k + 1), none⟩ = some (.int .i64 (zs[k + 1]?.getD 0)) := fun h => (hnx.cell (by exact hb)).trans (hc (k + 1) h)
          have h1 := fu_one zs k hlt
          have h2 := fu_two zs k
          generalize zs[k]?.getD 0 = p at hcx h1 h2
          generalize zs[k + 1]?.getD 0 = x at hcy h1 h2
          clear hc hr
          by_cases hpair : isHi p = true ∧ k + 1 < zs.length ∧ isLo x = true
          · obtain ⟨hp, hlt1, hx2⟩ := hpair
            have HE := fu_step2 hx (h2 hlt1 hp hx2)
            have HE' : Hid (acc ++ [pairOf p x] ++ fu (zs.drop (k + 2)) = fu zs) := HE
            have hcy' := hcy hlt1
            simp [isHi] at hp
            simp [isLo] at hx2
            obtain ⟨hp1, hp2⟩ := hp
            obtain ⟨hx3, hx4⟩ := hx2
            clear h1 h2 HE hcy hx
            have hpv : pairOf p x = 65536 + (p - 55296) * 1024 + x - 56320 := by unfold pairOf; omega
            have HP : Hid (pairOf p x = 65536 + (p - 55296) * 1024 + x - 56320) := hpv
            clear hpv
            go_wp2_with (at_builtin; refine wpList_append_own _ rfl _ _ 66 rfl w.heap.size 3 i0 (.int .i64 0) 1 8 Tryz.underlying66 hi hz0 hz1 hz2 rfl (by decide) _ _ _ rfl (World.ownsRow.alloc hown _) ⟨wr.heap.size, 0, none⟩ 1 1 [.int .i64 (65536 + (p - 55296) * 1024 + x - 56320)] rfl rfl (cell_one_new _ _ _) (by intro u hu; simp at hu; subst hu; rfl) (by unfold maxLen; omega) (by omega) (by have := hnx.size; simp; omega) ?_; intro v' w1 hown' hgrow _)
            have R := own_app (xs := [65536 + (p - 55296) * 1024 + x - 56320]) _ hnx.size hown hown' (by simp) hgrow
            clear hown' hgrow hown
            go_wp2
            go_roundw
            case rel => exact ⟨k + 2, acc ++ [65536 + (p - 55296) * 1024 + x - 56320], by omega, by go_num, R.1, by simp; omega, by rw [← HP.out]; exact HE'.out, hnx.trans R.2⟩
            case measure => simp [intOf]; omega
          · have HE : Hid (acc ++ [p] ++ fu (zs.drop (k + 1)) = fu zs) := fu_step1 hx (h1 hpair)
            have hway : p < 55296 ∨ 56319 < p ∨ (55296 ≤ p ∧ p ≤ 56319 ∧ zs.length ≤ k + 1) ∨ (55296 ≤ p ∧ p ≤ 56319 ∧ k + 1 < zs.length ∧ x < 56320) ∨ (55296 ≤ p ∧ p ≤ 56319 ∧ k + 1 < zs.length ∧ 56320 ≤ x ∧ 57343 < x) := by
              simp only [isHi, isLo, decide_eq_true_eq] at hpair; omega
            clear h1 h2 hpair hx
            rcases hway with hw | hw | ⟨hw1, hw2, hw3⟩ | ⟨hw1, hw2, hw3, hw4⟩ | ⟨hw1, hw2, hw3, hw4, hw5⟩
            all_goals
              first
                | (have hcy' := hcy hw3; clear hcy)
                | clear hcy
              go_wp2_with (at_builtin; refine wpList_append_own _ rfl _ _ 66 rfl w.heap.size 3 i0 (.int .i64 0) 1 8 Tryz.underlying66 hi hz0 hz1 hz2 rfl (by decide) _ _ _ rfl (World.ownsRow.alloc hown _) ⟨wr.heap.size, 0, none⟩ 1 1 [.int .i64 p] rfl rfl (cell_one_new _ _ _) (by intro u hu; simp at hu; subst hu; rfl) (by unfold maxLen; omega) (by omega) (by have := hnx.size; simp; omega) ?_; intro v' w1 hown' hgrow _)
              have R := own_app (xs := [p]) _ hnx.size hown hown' (by simp) hgrow
              clear hown' hgrow hown
              go_wp2
              go_roundw
              case rel => exact ⟨k + 1, acc ++ [p], by omega, by go_num, R.1, by simp; omega, HE.out, hnx.trans R.2⟩
              case measure => simp [intOf]; omega
        · have hE := fu_end (by omega) hx
          rw [hE] at hown
          clear hx hr hE
          go_wp2
          go_ret2
          exact ⟨_, by rw [fuR_ok _ HF.out]; rfl, by rw [fuR_ok _ HF.out]; exact hown, grown_of_below hnx⟩

end Go.Proofs.YtalkhnhhaiigiaaGreatDoor

namespace Go.Proofs.YtalkhnhhaiigiaaGreatDoor
open Go.RowKit

set_option maxHeartbeats 800000 in
theorem l1need_any (p : Int) (w : World) : Calls Tryz.prog 95 #[.int .i64 p] w fun e w' => e = .returned (.int .i64 (need p)) ∧ w = w' := by
  by_cases h0 : p < 0
  · have HE : Hid (need p = 0) := by simp [Hid, need, okPt]; omega
    go_enter Tryz.func95, Tryz.ntmps95
    go_wp2
    go_ret
    exact ⟨by rw [HE.out]; rfl, rfl⟩
  · by_cases h1 : 1114111 < p
    · have HE : Hid (need p = 0) := by simp [Hid, need, okPt]; omega
      go_enter Tryz.func95, Tryz.ntmps95
      go_wp2
      go_ret
      exact ⟨by rw [HE.out]; rfl, rfl⟩
    · by_cases h2 : p < 55296
      · have ho : okPt p = true := by simp [okPt]; omega
        by_cases h3 : p < 128
        · have HE : Hid (need p = 1) := by simp [Hid, need, ho, h3]
          clear ho
          go_enter Tryz.func95, Tryz.ntmps95
          go_wp2
          go_ret
          exact ⟨by rw [HE.out]; rfl, rfl⟩
        · by_cases h4 : p < 2048
          · have HE : Hid (need p = 2) := by simp [Hid, need, ho, h3, h4]
            clear ho
            go_enter Tryz.func95, Tryz.ntmps95
            go_wp2
            go_ret
            exact ⟨by rw [HE.out]; rfl, rfl⟩
          · have HE : Hid (need p = 3) := by simp [Hid, need, ho, h3, h4]; omega
            clear ho
            go_enter Tryz.func95, Tryz.ntmps95
            go_wp2
            go_ret
            exact ⟨by rw [HE.out]; rfl, rfl⟩
      · by_cases h3 : p ≤ 57343
        · have HE : Hid (need p = 0) := by simp [Hid, need, okPt]; omega
          go_enter Tryz.func95, Tryz.ntmps95
          go_wp2
          go_ret
          exact ⟨by rw [HE.out]; rfl, rfl⟩
        · have ho : okPt p = true := by simp [okPt]; omega
          by_cases h4 : p < 65536
          · have HE : Hid (need p = 3) := by simp [Hid, need, ho, h4]; omega
            clear ho
            go_enter Tryz.func95, Tryz.ntmps95
            go_wp2
            go_ret
            exact ⟨by rw [HE.out]; rfl, rfl⟩
          · have HE : Hid (need p = 4) := by simp [Hid, need, ho, h4]; omega
            clear ho
            go_enter Tryz.func95, Tryz.ntmps95
            go_wp2
            go_ret
            exact ⟨by rw [HE.out]; rfl, rfl⟩

end Go.Proofs.YtalkhnhhaiigiaaGreatDoor

namespace Go.Proofs.YtalkhnhhaiigiaaGreatDoor
open Go.RowKit

/-! The model's valid trees and the program's are the same: cOk says which comments, nOk which numbers are in order. -/
section
variable (cOk : Cm → Bool) (nOk : List Int → Bool)

def sumC : List Cm → Int
  | [] => 0
  | c :: cs => c.t.length + sumC cs
theorem sumC_nonneg : ∀ cs, 0 ≤ sumC cs
  | [] => by simp [sumC]
  | c :: cs => by have := sumC_nonneg cs; simp only [sumC]; omega

/-- What a node takes of the elements, and of the comments. -/
def nr (n : Nod) : Int := n.key.length + n.units.length + n.text.length + (sumC n.lead + sumC n.tail)
def nc (n : Nod) : Int := n.lead.length + n.tail.length
theorem nr_nonneg (n : Nod) : 0 ≤ nr n := by have := sumC_nonneg n.lead; have := sumC_nonneg n.tail; unfold nr; omega
theorem nc_nonneg (n : Nod) : 0 ≤ nc n := by unfold nc; omega

/-- The model's node. -/
def NodeOK (n : Nod) : Prop :=
  (0 ≤ n.k ∧ n.k ≤ 6) ∧ n.lead.all cOk = true ∧ n.tail.all cOk = true ∧ n.key.all isUn = true ∧ n.units.all isUn = true ∧ (n.mem = true ∨ n.key = []) ∧ (n.k = 3 → nOk n.text = true) ∧ (n.k ≠ 3 → n.text = []) ∧ (n.k ≠ 4 → n.units = []) ∧ (n.k < 5 → n.cnt = 0 ∧ n.tail = []) ∧ 0 ≤ n.cnt
/-- What the program asks of a node's fields. -/
def Fits (n : Nod) : Prop :=
  (0 ≤ n.k ∧ n.k ≤ 6) ∧ (n.mem = true ∨ n.key = []) ∧ (n.k ≠ 3 → n.text = []) ∧ (n.k ≠ 4 → n.units = []) ∧ (5 ≤ n.k → 0 ≤ n.cnt) ∧ (n.k < 5 → n.cnt = 0 ∧ n.tail = [])

def comR : List Cm → Int → Option Int
  | [], r => some r
  | c :: cs, r => if r - c.t.length < 0 ∨ cOk c = false then none else comR cs (r - c.t.length)
theorem comR_is : ∀ (cs : List Cm) (r : Int), 0 ≤ r → comR cOk cs r = if cs.all cOk = true ∧ sumC cs ≤ r then some (r - sumC cs) else none
  | [], r, h => by simp [comR, sumC, h]
  | c :: cs, r, h => by
    have hn := sumC_nonneg cs
    simp only [comR, sumC, List.all_cons]
    by_cases h1 : r - c.t.length < 0
    · rw [if_pos (.inl h1)]
      exact (if_neg (fun h : (cOk c && cs.all cOk) = true ∧ (c.t.length : Int) + sumC cs ≤ r => by have := h.2; omega)).symm
    · by_cases h2 : cOk c = true
      · have e1 : (if r - c.t.length < 0 ∨ cOk c = false then none else comR cOk cs (r - c.t.length)) = comR cOk cs (r - c.t.length) := if_neg (fun h => h.elim h1 (fun e => by rw [h2] at e; cases e))
        rw [e1, comR_is cs _ (by omega)]
        by_cases h3 : cs.all cOk = true ∧ sumC cs ≤ r - c.t.length
        · rw [if_pos h3]
          refine Eq.trans ?_ (if_pos (show (cOk c && cs.all cOk) = true ∧ (c.t.length : Int) + sumC cs ≤ r from ⟨by rw [h2, h3.1]; rfl, by have := h3.2; omega⟩)).symm
          congr 1; omega
        · rw [if_neg h3]
          refine (if_neg (fun h : (cOk c && cs.all cOk) = true ∧ (c.t.length : Int) + sumC cs ≤ r => h3 ⟨?_, by have := h.2; omega⟩)).symm
          have := h.1
          rw [h2] at this
          simpa only [Bool.true_and] using this
      · have h2' : cOk c = false := by simpa using h2
        rw [if_pos (.inr h2')]
        exact (if_neg (fun h : (cOk c && cs.all cOk) = true ∧ (c.t.length : Int) + sumC cs ≤ r => by have := h.1; rw [h2'] at this; simp at this)).symm
def comP (cs : List Cm) (s : Int × Int) : Option (Int × Int) := if s.1 - cs.length < 0 then none else (comR cOk cs s.2).map fun r => (s.1 - cs.length, r)
theorem comP_is (cs : List Cm) (c r : Int) (hr : 0 ≤ r) : comP cOk cs (c, r) = if (cs.length : Int) ≤ c ∧ cs.all cOk = true ∧ sumC cs ≤ r then some (c - cs.length, r - sumC cs) else none := by
  unfold comP
  by_cases h : c - (cs.length : Int) < 0
  · rw [if_pos h, if_neg (fun h' => by have := h'.1; omega)]
  · rw [if_neg h, comR_is cOk cs r hr]
    by_cases h2 : cs.all cOk = true ∧ sumC cs ≤ r
    · rw [if_pos h2, if_pos ⟨by omega, h2⟩]; rfl
    · rw [if_neg h2, if_neg (fun h => h2 h.2)]; rfl

open Classical in
/-- What the program does at a node. -/
noncomputable def chkP (n : Nod) (s : Int × Int) : Option (Int × Int) :=
  if ¬ Fits n then none
  else if s.2 - n.key.length < 0 ∨ n.key.all isUn = false then none
  else if s.2 - n.key.length - n.units.length < 0 ∨ n.units.all isUn = false then none
  else if s.2 - n.key.length - n.units.length - n.text.length < 0 then none
  else if n.k = 3 ∧ nOk n.text = false then none
  else (comP cOk n.lead (s.1, s.2 - n.key.length - n.units.length - n.text.length)).bind fun s' => comP cOk n.tail s'

theorem fits_node (n : Nod) : NodeOK cOk nOk n ↔ Fits n ∧ n.key.all isUn = true ∧ n.units.all isUn = true ∧ (n.k = 3 → nOk n.text = true) ∧ n.lead.all cOk = true ∧ n.tail.all cOk = true := by
  unfold NodeOK Fits
  constructor
  · rintro ⟨h1, h2, h3, h4, h5, h6, h7, h8, h9, h10, h11⟩
    exact ⟨⟨h1, h6, h8, h9, fun _ => h11, h10⟩, h4, h5, h7, h2, h3⟩
  · rintro ⟨⟨h1, h6, h8, h9, h11, h10⟩, h4, h5, h7, h2, h3⟩
    refine ⟨h1, h2, h3, h4, h5, h6, h7, h8, h9, h10, ?_⟩
    by_cases h : 5 ≤ n.k
    · exact h11 h
    · have := (h10 (by omega)).1; omega

open Classical in
theorem chkP_is (n : Nod) (c r : Int) : chkP cOk nOk n (c, r) = if NodeOK cOk nOk n ∧ nc n ≤ c ∧ nr n ≤ r then some (c - nc n, r - nr n) else none := by
  have s1 := sumC_nonneg n.lead
  have s2 := sumC_nonneg n.tail
  rw [fits_node]
  unfold chkP nc nr
  by_cases h1 : Fits n
  · rw [if_neg (by simpa using h1)]
    by_cases h2 : r - n.key.length < 0 ∨ n.key.all isUn = false
    · rw [if_pos h2, if_neg]
      rintro ⟨⟨_, k1, _⟩, _, b⟩
      rcases h2 with h | h
      · omega
      · rw [k1] at h; cases h
    · rw [if_neg h2]
      by_cases h3 : r - n.key.length - n.units.length < 0 ∨ n.units.all isUn = false
      · rw [if_pos h3, if_neg]
        rintro ⟨⟨_, _, k2, _⟩, _, b⟩
        rcases h3 with h | h
        · omega
        · rw [k2] at h; cases h
      · rw [if_neg h3]
        by_cases h4 : r - n.key.length - n.units.length - n.text.length < 0
        · rw [if_pos h4, if_neg (by rintro ⟨_, _, b⟩; omega)]
        · rw [if_neg h4]
          by_cases h5 : n.k = 3 ∧ nOk n.text = false
          · rw [if_pos h5, if_neg]
            rintro ⟨⟨_, _, _, k3, _⟩, _⟩
            have := k3 h5.1
            rw [h5.2] at this; cases this
          · rw [if_neg h5]
            have k1 : n.key.all isUn = true := eq_true_of_ne_false (fun h => h2 (.inr h))
            have k2 : n.units.all isUn = true := eq_true_of_ne_false (fun h => h3 (.inr h))
            have k3 : n.k = 3 → nOk n.text = true := fun hk => eq_true_of_ne_false (fun h => h5 ⟨hk, h⟩)
            rw [comP_is cOk n.lead c _ (by omega)]
            by_cases h6 : (n.lead.length : Int) ≤ c ∧ n.lead.all cOk = true ∧ sumC n.lead ≤ r - n.key.length - n.units.length - n.text.length
            · rw [if_pos h6, Option.bind_some, comP_is cOk n.tail _ _ (by omega)]
              by_cases h7 : (n.tail.length : Int) ≤ c - n.lead.length ∧ n.tail.all cOk = true ∧ sumC n.tail ≤ r - n.key.length - n.units.length - n.text.length - sumC n.lead
              · rw [if_pos h7, if_pos ⟨⟨h1, k1, k2, k3, h6.2.1, h7.2.1⟩, by omega, by omega⟩]
                congr 1
                rw [Prod.mk.injEq]
                constructor <;> omega
              · rw [if_neg h7, if_neg]
                rintro ⟨⟨_, _, _, _, _, a⟩, b, b'⟩
                exact h7 ⟨by omega, a, by omega⟩
            · rw [if_neg h6, Option.bind_none, if_neg]
              rintro ⟨⟨_, _, _, _, a, _⟩, b, b'⟩
              exact h6 ⟨by omega, a, by omega⟩
  · rw [if_pos (by simpa using h1), if_neg (fun h => h1 h.1.1)]

def sumR : List Nod → Int
  | [] => 0
  | n :: ns => nr n + sumR ns
def sumK : List Nod → Int
  | [] => 0
  | n :: ns => nc n + sumK ns
theorem sumR_nonneg : ∀ ns, 0 ≤ sumR ns
  | [] => by simp [sumR]
  | n :: ns => by have := sumR_nonneg ns; have := nr_nonneg n; simp only [sumR]; omega
theorem sumK_nonneg : ∀ ns, 0 ≤ sumK ns
  | [] => by simp [sumK]
  | n :: ns => by have := sumK_nonneg ns; have := nc_nonneg n; simp only [sumK]; omega

theorem fold_is : ∀ (ns : List Nod) (c r : Int) (x : Int × Int), 0 ≤ c → 0 ≤ r → (foldC (chkP cOk nOk) ns (c, r) = some x ↔ (∀ n ∈ ns, NodeOK cOk nOk n) ∧ sumK ns ≤ c ∧ sumR ns ≤ r ∧ x = (c - sumK ns, r - sumR ns))
  | [], c, r, x, hc, hr => by
    simp only [foldC, Option.some.injEq, sumK, sumR, Int.sub_zero]
    constructor
    · intro h; exact ⟨by simp, hc, hr, h.symm⟩
    · rintro ⟨_, _, _, h⟩; exact h.symm
  | n :: ns, c, r, x, hc, hr => by
    have a1 := sumR_nonneg ns
    have a2 := sumK_nonneg ns
    have b1 := nr_nonneg n
    have b2 := nc_nonneg n
    simp only [foldC, chkP_is cOk nOk n c r, sumK, sumR]
    by_cases h : NodeOK cOk nOk n ∧ nc n ≤ c ∧ nr n ≤ r
    · rw [if_pos h, Option.bind_some, fold_is ns _ _ x (by omega) (by omega)]
      constructor
      · rintro ⟨p1, p2, p3, p4⟩
        refine ⟨fun q hq => ?_, by omega, by omega, by rw [p4, Prod.mk.injEq]; constructor <;> omega⟩
        simp only [List.mem_cons] at hq
        rcases hq with rfl | hq
        · exact h.1
        · exact p1 q hq
      · rintro ⟨p1, p2, p3, p4⟩
        exact ⟨fun q hq => p1 q (by simp [hq]), by omega, by omega, by rw [p4, Prod.mk.injEq]; constructor <;> omega⟩
    · rw [if_neg h, Option.bind_none]
      constructor
      · intro hh; cases hh
      · rintro ⟨p1, p2, p3, _⟩
        exact absurd ⟨p1 n (by simp), by omega, by omega⟩ h

/-- THE TWO ARE THE SAME. -/
theorem valid_tree (ns : List Nod) (tail : List Cm) :
    (∃ s x, walkL (chkP cOk nOk) 201 false (ns, (4000, 100000)) = some ([], s) ∧ comP cOk tail s = some x) ↔
    (sumR ns + sumC tail ≤ 100000 ∧ sumK ns + tail.length ≤ 4000 ∧ tail.all cOk = true ∧ (∀ n ∈ ns, NodeOK cOk nOk n) ∧ endL ns.length 201 false ns = some []) := by
  have a1 := sumR_nonneg ns
  have a2 := sumK_nonneg ns
  have a3 := sumC_nonneg tail
  have he : (walkL triv 201 false (ns, ()) = some ([], ())) ↔ endL ns.length 201 false ns = some [] := by
    rw [← end_walk ns.length 201 false ns (Nat.le_refl _)]
    cases endL ns.length 201 false ns with
    | none => simp
    | some R => simp
  constructor
  · rintro ⟨s, x, hw, hc⟩
    obtain ⟨g, f⟩ := (walk_all _ 201 false ns (4000, 100000) s).1 hw
    obtain ⟨p1, p2, p3, p4⟩ := (fold_is cOk nOk ns 4000 100000 s (by omega) (by omega)).1 f
    subst p4
    rw [comP_is cOk tail _ _ (by omega)] at hc
    by_cases h : (tail.length : Int) ≤ 4000 - sumK ns ∧ tail.all cOk = true ∧ sumC tail ≤ 100000 - sumR ns
    · exact ⟨by omega, by omega, h.2.1, p1, he.1 g⟩
    · rw [if_neg h] at hc; cases hc
  · rintro ⟨h1, h2, h3, h4, h5⟩
    refine ⟨(4000 - sumK ns, 100000 - sumR ns), (4000 - sumK ns - tail.length, 100000 - sumR ns - sumC tail), ?_, ?_⟩
    · exact (walk_all _ 201 false ns (4000, 100000) _).2 ⟨he.2 h5, (fold_is cOk nOk ns 4000 100000 _ (by omega) (by omega)).2 ⟨h4, by omega, by omega, rfl⟩⟩
    · rw [comP_is cOk tail _ _ (by omega), if_pos ⟨by omega, h3, by omega⟩]
end
end Go.Proofs.YtalkhnhhaiigiaaGreatDoor

namespace Go.Proofs.YtalkhnhhaiigiaaGreatDoor
open Go.RowKit

theorem fsize_of {s : List Int} {m : Nat} (h1 : 1 ≤ m) (h4 : m ≤ 4) (hlo : ∀ j, 1 ≤ j → j < m → hit s j = false) (h : hit s m = true) : fsize s = m := by
  unfold fsize
  by_cases e1 : m = 1
  · subst e1; simp [h]
  · have g1 := hlo 1 (by omega) (by omega)
    by_cases e2 : m = 2
    · subst e2; simp [h, g1]
    · have g2 := hlo 2 (by omega) (by omega)
      by_cases e3 : m = 3
      · subst e3; simp [h, g1, g2]
      · have g3 := hlo 3 (by omega) (by omega)
        have e4 : m = 4 := by omega
        subst e4; simp [h, g1, g2, g3]
theorem fsize_none {s : List Int} {m : Nat} (h4 : 4 < m) (hlo : ∀ j, 1 ≤ j → j < m → hit s j = false) : fsize s = 0 := by
  unfold fsize
  simp [hlo 1 (by omega) (by omega), hlo 2 (by omega) (by omega), hlo 3 (by omega) (by omega), hlo 4 (by omega) (by omega)]
theorem hlo_step {s : List Int} {m : Nat} (hlo : ∀ j, 1 ≤ j → j < m → hit s j = false) (h : hit s m = false) : ∀ j, 1 ≤ j → j < m + 1 → hit s j = false := by
  intro j h1 h2
  by_cases e : j = m
  · rw [e]; exact h
  · exact hlo j h1 (by omega)

set_option maxHeartbeats 2000000 in
set_option maxRecDepth 100000 in
theorem specDecodeText_any (v : Value) (zs : List Int) (w : World) (hv : RdB w.heap.size w v zs) (hby : Bys zs) (hn : zs.length ≤ 1048576) :
    Calls Tryz.prog 90 #[v] w fun e w' => ∃ v', e = .returned (.tuple #[v', .int .i64 (decR zs).2.1, .int .i64 (decR zs).2.2]) ∧ OwI w.heap.size w' v' (decR zs).1 ∧ w.grownBy w' none := by
  obtain ⟨i0, hi, hz0, hz1, hz2⟩ := info_parts info3
  obtain ⟨a, cap, rfl, hr⟩ := hv
  have HV : Hid (RdB w.heap.size w (.slice a zs.length cap) zs) := ⟨a, cap, rfl, hr⟩
  clear hr
  go_enter Tryz.func90, Tryz.ntmps90
  go_wp2
  go_loopw [5, 6] (fun v i wr => ∃ (k : Nat) (acc : List Int), i = .int .i64 k ∧ OwI w.heap.size wr v acc ∧ Mid zs acc k ∧ Below w.heap.size w wr)
    (fun _ i _ => zs.length - (intOf i).toNat)
  case atStart => exact ⟨0, [], rfl, World.ownsRow_nil _ _ _ _, Mid.start zs, Below.refl _ _⟩
  case round =>
    obtain ⟨k, acc, rfl, hown, hmid, hnx⟩ := hrel
    have hkl := hmid.1
    have hal := hmid.2.1
    have HM : Hid (Mid zs acc k) := hmid
    clear hmid
    by_cases hlt : k < zs.length
    · obtain ⟨s, hs⟩ : ∃ s, s = zs.drop k := ⟨_, rfl⟩
      have HS : Hid (s = zs.drop k) := hs
      clear hs
      have HR : Hid (RdB wr.heap.size wr (.slice a zs.length cap) zs) := HV.out.later (grown_of_below hnx)
      go_wp2
      go_loop [5, 7, 8] (fun o st i => o = u5 ∧ st = .int .i64 0 ∧ ∃ m : Nat, 1 ≤ m ∧ m ≤ 5 ∧ i = .int .i64 m ∧ Hid (∀ j, 1 ≤ j → j < m → hit s j = false))
        (fun _ _ i => 5 - (intOf i).toNat)
      case atStart => exact ⟨rfl, rfl, 1, by omega, by omega, rfl, fun j h1 h2 => by omega⟩
      case round =>
        obtain ⟨rfl, rfl, m, hm1, hm5, rfl, HLO⟩ := hrel
        by_cases hm4 : m ≤ 4
        · have hval := l1value_any _ zs k m wr HR.out hby (by omega) hlt hm1 hm4
          rw [← HS.out] at hval
          have HVAL := hval
          clear hval
          by_cases hx0 : 0 ≤ lv s m
          · cases hh : (need (lv s m) == (m : Int))
            · have HLO' : Hid (∀ j, 1 ≤ j → j < m + 1 → hit s j = false) := hlo_step HLO.out (by simp [hit, hh])
              generalize lv s m = x at HVAL hx0 hh
              go_wp2_with (first
                | (go_at_call 113; refine HVAL.mono ?_; rintro e w' ⟨rfl, rfl⟩)
                | (go_at_call 95; refine (l1need_any _ _).mono ?_; rintro e w' ⟨rfl, rfl⟩))
              go_round
              case rel => exact ⟨rfl, rfl, m + 1, by omega, by omega, by go_num, HLO'⟩
              case measure => simp [intOf]; omega
            · have HSZ : Hid (fsize s = m) := fsize_of hm1 hm4 HLO.out (by simp [hit, hh, hx0])
              have hne : ((m : Int) == 0) = false := by simp; omega
              have HMID : Hid (Mid zs (acc ++ [lv s m]) (k + m)) := by
                have h := HM.out.step hlt (by rw [← HS.out, HSZ.out]; omega)
                rw [← HS.out, HSZ.out] at h
                exact h
              have hkm : k + m ≤ zs.length := HMID.out.1
              generalize lv s m = x at HVAL hx0 hh HMID
              go_wp2_with (first
                | (go_at_call 113; refine HVAL.mono ?_; rintro e w' ⟨rfl, rfl⟩)
                | (go_at_call 95; refine (l1need_any _ _).mono ?_; rintro e w' ⟨rfl, rfl⟩)
                | (at_builtin; refine wpList_append_own _ rfl _ _ 66 rfl w.heap.size 3 i0 (.int .i64 0) 1 8 Tryz.underlying66 hi hz0 hz1 hz2 rfl (by decide) _ _ _ rfl (World.ownsRow.alloc hown _) ⟨wr.heap.size, 0, none⟩ 1 1 [.int .i64 x] rfl rfl (cell_one_new _ _ _) (by intro u hu; simp at hu; subst hu; rfl) (by unfold maxLen; omega) (by omega) (by have := hnx.size; simp; omega) ?_; intro v' w1 hown' hgrow _))
              have R := own_app (xs := [x]) _ hnx.size hown hown' (by simp) hgrow
              clear hown' hgrow hown HVAL
              go_wp2
              go_roundw
              case rel => exact ⟨k + m, acc ++ [x], by go_num, R.1, HMID.out, hnx.trans R.2⟩
              case measure => simp [intOf]; omega
          · have HLO' : Hid (∀ j, 1 ≤ j → j < m + 1 → hit s j = false) := hlo_step HLO.out (by simp [hit]; omega)
            generalize lv s m = x at HVAL hx0
            have hx1 : x < 0 := by omega
            go_wp2_with (go_at_call 113; refine HVAL.mono ?_; rintro e w' ⟨rfl, rfl⟩)
            go_round
            case rel => exact ⟨rfl, rfl, m + 1, by omega, by omega, by go_num, HLO'⟩
            case measure => simp [intOf]; omega
        · have HSZ : Hid (fsize s = 0) := fsize_none (by omega) HLO.out
          have HD : Hid (decR zs = ([], 2, (k : Int))) := by
            refine HM.out.bad hlt ?_
            rw [← HS.out]; exact HSZ.out
          go_wp2
          go_ret3
          exact ⟨_, by rw [HD.out]; rfl, by rw [HD.out]; exact World.ownsRow_nil _ _ _ _, grown_of_below hnx⟩
    · have HD : Hid (decR zs = (acc, 0, 0)) := HM.out.done hlt
      go_wp2
      go_ret3
      exact ⟨_, by rw [HD.out]; rfl, by rw [HD.out]; exact hown, grown_of_below hnx⟩

end Go.Proofs.YtalkhnhhaiigiaaGreatDoor

namespace Go.Proofs.YtalkhnhhaiigiaaGreatDoor

/-! The same for operations behind a guard that holds. -/

section
variable {P : Program} {ops : Array Oper} {Q : Exit → Act → World → Prop} {md : Region.Mode} {I : World → Prop} {ex : Nat → Bool}

theorem grown_drewG {a b : World} {r : Option Nat} (h : a.grownBy b r) : a.grownBy b.drew r := ⟨h.os, h.tape, h.output, h.size, h.block⟩
theorem wpOp_valG {i : Nat} {o : Oper} {K : Act → World → Prop} {a : Act} {w w' : World} {v : Value} (hi : ops[i]? = some o) (hw : Region.wanted o (yielded ops a.tmps) = true) (hrun : (execOp a.eval o).run P w = .ok (.value v) w') (h : K (a.put o.dst v) w') : wpOp P ops Q i K a w := by
  unfold wpOp
  simp only [hi, hw, if_true]
  refine .inl ?_
  unfold Oper.wp
  rw [hrun]; exact h
theorem wpOp_callG {i : Nat} {o : Oper} {K : Act → World → Prop} {a : Act} {w w1 : World} {f : FuncId} {args : Array Value} {R : Ending → World → Prop} (hi : ops[i]? = some o) (hw : Region.wanted o (yielded ops a.tmps) = true) (hrun : (execOp a.eval o).run P w = .ok (.enter f args) w1)
    (hc : Calls P f args w1 R) (h : ∀ e w', R e w' → ∃ v, e = .returned v ∧ K (a.put o.dst v) w') : wpOp P ops Q i K a w := by
  unfold wpOp
  simp only [hi, hw, if_true]
  refine .inl ?_
  unfold Oper.wp
  rw [hrun]
  refine Calls.mono hc fun e w' hr => ?_
  obtain ⟨v, rfl, hk⟩ := h e w' hr
  exact hk
theorem yldG {o : Oper} {v : Value} {a : Act} (hw : Region.wanted o (yielded ops a.tmps) = true) (h : ∀ w, I w → (execOp a.eval o).run P w = .ok (.value v) w) : YldI P ops I o v a := ⟨hw, h⟩
end
end Go.Proofs.YtalkhnhhaiigiaaGreatDoor

