import Derived.Test.YtakkdniikhgpdaaGreatDoorMAA
import Derived.Test.YtakkdniikhgpdaaGreatDoorMAB
import Derived.Test.YtakkdniikhgpdaaGreatDoorMAE
import Derived.Test.YtakkdniikhgpdaaGreatDoorMAM
namespace Go.Proofs.YtakkdniikhgpdaaGreatDoor
open Go.RowKit
attribute [-go_sem] Builtin.append_

theorem KD.app1B {F : Nat} {v : Value} {zs : List Int} {i : Nat} {Γ Γ1 : Gk} {w w1 : World} (h : KD F v zs Γ w i Γ1 w1) {k : KK} {a : Option Addr} {n c : Nat} {ys : List El} (hv : Ful Γ1 k (a, n, c) ys) (B : Nat) (hB : w.heap.size ≤ B) (hB1 : B ≤ w1.heap.size) (hlo : Lo B (a, n, c)) (e : El) (arr : Array Value) (ha : arr = e.en.toArray) (hk : e.kd = k) (hb : n ≤ 100000) :
    ∃ g m w', (Builtin.append_ #[k.sl, k.sl] k.sl #[.slice a n c, .slice (some ⟨w1.heap.size, 0, none⟩) 1 1]).run Tryz.prog (w1.alloc (.cells arr k.ty)) = .ok (.slice (some ⟨g, 0, none⟩) (n + 1) m) w' ∧ KD F v zs Γ w i (updK Γ1 g (k, m, ys ++ [e])) w' ∧ Ful (updK Γ1 g (k, m, ys ++ [e])) k (some ⟨g, 0, none⟩, n + 1, m) (ys ++ [e]) ∧ B ≤ g ∧ ∀ x, x < B → w'.heap[x]? = w1.heap[x]? := by
  have hn := hv.n
  subst hn ha
  have g0 := World.grownBy_alloc w1 (.cells e.en.toArray k.ty) none
  obtain ⟨g, m, w', h1, h2, h3, h4, h5, h6⟩ := (h.keep g0).apps hv (hlo.mono hB) w1.heap.size 0 1 [e] (by simp) (fun y hy => by simp at hy; rw [hy]; exact hk) (fun j u hj => by
    rw [Nat.zero_add, cell_of_row _ w1.heap.size j _ _ _ (heap_alloc_new w1 _)]
    simpa [ens] using hj) (by simp; omega)
  rw [List.length_append] at h1
  have hg : B ≤ g := by
    rcases h3 with h3 | ⟨_, h3⟩
    · rw [h3]; simp; omega
    · exact hlo ⟨g, 0, none⟩ (by rw [h3])
  exact ⟨g, m, w', h1, h2, .inr ⟨g, m, by simp, updK_at _ _ _, h5⟩, hg, fun x hx => by rw [h6.block x (by simp; omega) (by simp; omega)]; exact g0.block x (by omega) (by simp)⟩
def p1 : Nod := { nod0 with k := 5, cnt := 1 }
theorem deepN_eq (n : Nat) (hn : 1 ≤ n) : deepN n = (List.replicate n p1).set (n - 1) { nod0 with k := 5, cnt := 0 } := by
  apply List.ext_getElem
  · simp [deepN]
  · intro i h1 h2
    simp only [deepN, List.getElem_map, List.getElem_range, List.getElem_set, List.getElem_replicate]
    have hi : i < n := by simpa [deepN] using h1
    by_cases e : i + 1 = n
    · rw [if_pos e, if_pos (by omega)]
    · rw [if_neg e, if_neg (by omega)]; rfl
theorem js_rep {α : Type} {P : El → α → Prop} {e : El} {c : α} (h : P e c) : ∀ n, Js P (List.replicate n e) (List.replicate n c)
  | 0 => trivial
  | n + 1 => ⟨h, js_rep h n⟩

end Go.Proofs.YtakkdniikhgpdaaGreatDoor

namespace Go.Proofs.YtakkdniikhgpdaaGreatDoor
open Go.RowKit

/-! How great a drawn tree is. -/

def CmB (L : Nat) (c : Cm) : Prop := c.t.length ≤ L ∧ Bys c.t
def IsI (z : Int) : Prop := -9223372036854775808 ≤ z ∧ z ≤ 9223372036854775807
structure NdB (e0 : Nat) (p : Nod) : Prop where
  k : -10 ≤ p.k ∧ p.k ≤ 10
  lead : p.lead.length ≤ e0 ∧ ∀ c ∈ p.lead, CmB e0 c
  key : p.key.length ≤ e0 ∧ ∀ z ∈ p.key, IsI z
  text : p.text.length ≤ e0 ∧ Bys p.text
  units : p.units.length ≤ e0 ∧ ∀ z ∈ p.units, IsI z
  cnt : -10 ≤ p.cnt ∧ p.cnt ≤ 100001
  tail : p.tail.length ≤ e0 ∧ ∀ c ∈ p.tail, CmB e0 c
/-- A node that was drawn. -/
structure Gn (p : Nod) : Prop where
  k : 0 ≤ p.k ∧ p.k ≤ 6
  c : 0 ≤ p.cnt ∧ p.cnt ≤ 100
  b : NdB 64 p
section
variable {zs : List Int}
theorem com_b (k : Int) : CmB 64 (comV k) := by
  have hwd := WdK.at (L := comW) (by decide) (k / 2 % 14).toNat
  unfold comV
  split
  · exact hwd
  · refine ⟨by rw [noLf_len]; exact hwd.1, fun z hm => ?_⟩
    obtain ⟨c, hc, rfl⟩ := List.mem_map.1 hm
    split
    · omega
    · exact hwd.2 c hc
theorem comN_b : ∀ (m i : Nat), (dComN zs m i).1.length = m ∧ ∀ c ∈ (dComN zs m i).1, CmB 64 c
  | 0, i => ⟨rfl, fun c h => by simp [dComN] at h⟩
  | m + 1, i => by
    obtain ⟨h1, h2⟩ := comN_b m i
    refine ⟨by simp [dComN, h1], fun c hc => ?_⟩
    simp only [dComN, List.mem_append, List.mem_singleton] at hc
    rcases hc with hc | rfl
    · exact h2 c hc
    · exact com_b _
theorem coms_b (rare : Int) (i : Nat) : (dComs zs rare i).1.length ≤ 64 ∧ ∀ c ∈ (dComs zs rare i).1, CmB 64 c := by
  unfold dComs
  split
  · exact ⟨by simp, fun c h => by simp at h⟩
  · obtain ⟨h1, h2⟩ := comN_b (zs := zs) ((nx zs i).1 / rare % 3 + 1).toNat (nx zs i).2
    exact ⟨by rw [h1]; omega, h2⟩
theorem duOne_b (hz : Bys zs) (i : Nat) : IsI (duOne zs i).1 := by
  have h1 := nx_bd hz i
  have h2 := dp_bd true (nx zs (nx zs i).2).1 (nx_bd hz _).1
  unfold duOne IsI
  split
  · simp only; omega
  · split
    · simp only; omega
    · simp only; omega
theorem dusN_b (hz : Bys zs) (i : Nat) : ∀ m, ∀ z ∈ (dusN zs m i).1, IsI z
  | 0, z, h => by simp [dusN] at h
  | m + 1, z, h => by
    simp only [dusN, List.mem_append, List.mem_singleton] at h
    rcases h with h | rfl
    · exact dusN_b hz i m z h
    · exact duOne_b hz _
theorem dusN_l (i : Nat) : ∀ m, (dusN zs m i).1.length = m
  | 0 => rfl
  | m + 1 => by simp [dusN, dusN_l i m]
theorem dus_b (hz : Bys zs) (most : Int) (h1 : 1 ≤ most) (h12 : most ≤ 12) (i : Nat) : (dus zs most i).1.length ≤ 64 ∧ ∀ z ∈ (dus zs most i).1, IsI z := by
  refine ⟨?_, dusN_b hz _ _⟩
  unfold dus
  rw [dusN_l]
  have := Int.emod_lt_of_pos (nx zs i).1 (show 0 < most by omega)
  omega
theorem key_b (hz : Bys zs) (i : Nat) : (dKey zs i).1.length ≤ 64 ∧ ∀ z ∈ (dKey zs i).1, IsI z := by
  unfold dKey
  split
  · exact dus_b hz 5 (by omega) (by omega) _
  · have : keyW.all (fun t => decide (t.length ≤ 64) && t.all fun z => decide (0 ≤ z ∧ z ≤ 300)) = true := by decide
    by_cases hn : ((nx zs i).1 % 13).toNat < keyW.length
    · have h := List.all_eq_true.1 this _ (List.getElem_mem hn)
      simp only [Bool.and_eq_true, decide_eq_true_eq, List.all_eq_true] at h
      rw [List.getD_eq_getElem?_getD, List.getElem?_eq_getElem hn]
      exact ⟨h.1, fun z hm => by have := h.2 z hm; unfold IsI; omega⟩
    · rw [List.getD_eq_getElem?_getD, List.getElem?_eq_none (by omega)]
      exact ⟨by simp, fun z h => by simp at h⟩
theorem gn_of {k n : Int} {l t : List Cm} {mm : Bool} {y x u : List Int} (hk : 0 ≤ k ∧ k ≤ 6) (hn : 0 ≤ n ∧ n ≤ 100) (hl : l.length ≤ 64 ∧ ∀ c ∈ l, CmB 64 c) (hy : y.length ≤ 64 ∧ ∀ z ∈ y, IsI z) (hx : x.length ≤ 64 ∧ Bys x) (hu : u.length ≤ 64 ∧ ∀ z ∈ u, IsI z) (ht : t.length ≤ 64 ∧ ∀ c ∈ t, CmB 64 c) : Gn ⟨k, l, mm, y, x, u, n, t⟩ :=
  ⟨hk, hn, ⟨by simp only; omega, hl, hy, hx, hu, by simp only; omega, ht⟩⟩
theorem nilC : ([] : List Cm).length ≤ 64 ∧ ∀ c ∈ ([] : List Cm), CmB 64 c := ⟨by simp, fun c h => by simp at h⟩
theorem nilI : ([] : List Int).length ≤ 64 ∧ ∀ z ∈ ([] : List Int), IsI z := ⟨by simp, fun c h => by simp at h⟩
theorem nilB : ([] : List Int).length ≤ 64 ∧ Bys ([] : List Int) := ⟨by simp, fun c h => by simp at h⟩
theorem mem_gn {key : List Int} (hy : key.length ≤ 64 ∧ ∀ z ∈ key, IsI z) {ns : List Nod} (h : ∀ p ∈ ns, Gn p) : ∀ p ∈ memH key ns, Gn p := by
  cases ns with
  | nil => exact h
  | cons q ns =>
    intro p hp
    rcases List.mem_cons.1 hp with rfl | hp
    · have := h q (by simp)
      exact ⟨this.k, this.c, ⟨this.b.k, this.b.lead, hy, this.b.text, this.b.units, this.b.cnt, this.b.tail⟩⟩
    · exact h p (by simp [hp])
theorem items_gn (hz : Bys zs) {f : Nat → List Nod × Nat} {obj : Bool} (hf : ∀ p, ∀ q ∈ (f p).1, Gn q) : ∀ (m i : Nat), (∀ q ∈ (dItems zs f obj m i).1, Gn q) ∧ (dItems zs f obj m i).2.1 ≤ m
  | 0, i => ⟨fun q h => by simp [dItems] at h, Nat.le_refl _⟩
  | m + 1, i => by
    obtain ⟨h1, h2⟩ := items_gn hz hf m i
    rw [dItems]
    split
    · refine ⟨fun q hq => ?_, Nat.le_refl _⟩
      rcases List.mem_append.1 hq with hq | hq
      · exact h1 q hq
      · unfold dItem at hq
        split at hq
        · exact mem_gn (key_b hz _) (hf _) q hq
        · exact hf _ q hq
    · exact ⟨h1, by omega⟩
theorem nodes_gn (hz : Bys zs) (rare : Int) : ∀ (d i : Nat), ∀ q ∈ (dNodes zs rare d i).1, Gn q := by
  intro d
  induction d with
  | zero =>
    intro i q hq
    by_cases h : (nx zs i).1 % 16 < 3 ∨ (0 = 0 ∧ 9 < (nx zs i).1 % 16)
    · rw [dN_scal h] at hq; simp at hq; subst hq
      exact gn_of (by omega) (by simp [nod0]) (coms_b _ _) nilI nilB nilI nilC
    · by_cases h2 : (nx zs i).1 % 16 < 6
      · rw [dN_num h h2] at hq; simp at hq; subst hq
        exact gn_of (by omega) (by simp [nod0]) (coms_b _ _) nilI (WdK.at (L := numW) (by decide) _) nilI nilC
      · rw [dN_str h h2 (.inr rfl)] at hq; simp at hq; subst hq
        exact gn_of (by omega) (by simp [nod0]) (coms_b _ _) nilI nilB (dus_b hz 7 (by omega) (by omega) _) nilC
  | succ d ih =>
    intro i q hq
    by_cases h : (nx zs i).1 % 16 < 3 ∨ (d + 1 = 0 ∧ 9 < (nx zs i).1 % 16)
    · rw [dN_scal h] at hq; simp at hq; subst hq
      exact gn_of (by omega) (by simp [nod0]) (coms_b _ _) nilI nilB nilI nilC
    · by_cases h2 : (nx zs i).1 % 16 < 6
      · rw [dN_num h h2] at hq; simp at hq; subst hq
        exact gn_of (by omega) (by simp [nod0]) (coms_b _ _) nilI (WdK.at (L := numW) (by decide) _) nilI nilC
      · by_cases h3 : (nx zs i).1 % 16 < 9
        · rw [dN_str h h2 (.inl h3)] at hq; simp at hq; subst hq
          exact gn_of (by omega) (by simp [nod0]) (coms_b _ _) nilI nilB (dus_b hz 7 (by omega) (by omega) _) nilC
        · rw [dN_cont h2 h3] at hq
          obtain ⟨g1, g2⟩ := items_gn hz (f := dNodes zs rare d) (obj := decide ((nx zs i).1 % 16 % 2 = 1)) ih ((nx zs (dComs zs rare (nx zs i).2).2).1 % 5).toNat (nx zs (dComs zs rare (nx zs i).2).2).2
          rcases List.mem_cons.1 hq with rfl | hq
          · refine gn_of (by omega) ?_ (coms_b _ _) nilI nilB nilI (coms_b _ _)
            unfold dBel
            omega
          · exact g1 q hq
theorem more_gn (hz : Bys zs) (rare : Int) : ∀ (m : Nat) (s : List Nod × Nat), (∀ q ∈ s.1, Gn q) → (1 ≤ s.1.length ∧ s.1.length ≤ 341) → (∀ q ∈ (dMore zs rare m s).1, Gn q) ∧ 1 ≤ (dMore zs rare m s).1.length ∧ (dMore zs rare m s).1.length ≤ 341
  | 0, s, h, hl => ⟨h, hl⟩
  | m + 1, s, h, hl => by
    rw [dMore]
    split
    · rename_i hc
      have h3 := dNodes_len (zs := zs) (rare := rare) 3 s.2
      have h5 : nBk 3 = 85 := by decide
      refine more_gn hz rare m _ (fun q hq => ?_) ⟨by simp, by simp; omega⟩
      simp only [List.mem_cons, List.mem_append] at hq
      rcases hq with rfl | hq | hq
      · exact gn_of (by omega) (by omega) nilC nilI nilB nilI nilC
      · exact h q hq
      · exact nodes_gn hz rare 3 _ q hq
    · exact ⟨h, hl⟩
theorem good_gn (hz : Bys zs) (i : Nat) : (∀ q ∈ (dGood zs i).1.1, Gn q) ∧ (1 ≤ (dGood zs i).1.1.length ∧ (dGood zs i).1.1.length ≤ 341) ∧ (dGood zs i).1.2.length ≤ 64 ∧ ∀ c ∈ (dGood zs i).1.2, CmB 64 c := by
  unfold dGood
  simp only
  have h4 := dNodes_len (zs := zs) (rare := rareV (nx zs i).1 (nx zs (nx zs i).2).1) 4 (nx zs (nx zs i).2).2
  have h5 : nBk 4 = 341 := by decide
  obtain ⟨h1, h2⟩ := more_gn hz (rareV (nx zs i).1 (nx zs (nx zs i).2).1) 4 _ (nodes_gn hz _ 4 _) ⟨h4.1, by omega⟩
  exact ⟨h1, h2, coms_b _ _⟩
end
end Go.Proofs.YtakkdniikhgpdaaGreatDoor

namespace Go.Proofs.YtakkdniikhgpdaaGreatDoor
open Go.RowKit

def isLet (c : Int) : Bool := decide ((97 ≤ c ∧ c ≤ 122) ∨ (65 ≤ c ∧ c ≤ 90) ∨ c = 95 ∨ c = 36)
def isDig (c : Int) : Bool := decide (48 ≤ c ∧ c ≤ 57)
/-- Which number may stand at place k of a name. -/
def nmAt (k : Nat) (c : Int) : Bool := isLet c || (k != 0 && isDig c)
def nmUp (zs : List Int) (k : Nat) : Bool := (List.range k).all fun j => nmAt j (zs[j]?.getD 0)
/-- What IsName answers. -/
def nmR (zs : List Int) : Bool := nmUp zs zs.length && decide (0 < zs.length)

theorem nmUp_zero (zs : List Int) : nmUp zs 0 = true := rfl
theorem nmUp_snoc (zs : List Int) (k : Nat) (h : nmUp zs k = true) (h1 : nmAt k (zs[k]?.getD 0) = true) : nmUp zs (k + 1) = true := by
  simp only [nmUp, List.range_succ, List.all_append, List.all_cons, List.all_nil] at h ⊢
  simp [h, h1]
theorem nmR_not (zs : List Int) (k : Nat) (hk : k < zs.length) (h1 : nmAt k (zs[k]?.getD 0) = false) : nmR zs = false := by
  have : nmUp zs zs.length = false := by
    rw [nmUp, List.all_eq_false]
    exact ⟨k, List.mem_range.2 hk, by simpa using h1⟩
  simp [nmR, this]
theorem nmR_yes (zs : List Int) (h : nmUp zs zs.length = true) : nmR zs = decide (0 < zs.length) := by simp [nmR, h]

end Go.Proofs.YtakkdniikhgpdaaGreatDoor

namespace Go.Proofs.YtakkdniikhgpdaaGreatDoor
open Go.RowKit

def pairOf (u x : Int) : Int := 65536 + (u - 55296) * 1024 + (x - 56320)
/-- The points of units. -/
def fu : List Int → List Int
  | [] => []
  | [u] => [u]
  | u :: x :: r => if isHi u && isLo x then pairOf u x :: fu r else u :: fu (x :: r)
def fuR (zs : List Int) : List Int × Int := if zs.all isUn then (fu zs, 0) else ([], 1)

theorem drop_cons (zs : List Int) (k : Nat) (hk : k < zs.length) : zs.drop k = zs[k]?.getD 0 :: zs.drop (k + 1) := by
  rw [List.drop_eq_getElem_cons hk]; simp [hk]

theorem fu_one (zs : List Int) (k : Nat) (hk : k < zs.length) (h : ¬ (isHi (zs[k]?.getD 0) = true ∧ k + 1 < zs.length ∧ isLo (zs[k + 1]?.getD 0) = true)) :
    fu (zs.drop k) = zs[k]?.getD 0 :: fu (zs.drop (k + 1)) := by
  rw [drop_cons zs k hk]
  by_cases h1 : k + 1 < zs.length
  · rw [drop_cons zs (k + 1) h1, fu, if_neg]
    simp only [Bool.and_eq_true]
    exact fun hh => h ⟨hh.1, h1, hh.2⟩
  · rw [List.drop_eq_nil_of_le (by omega)]
    rfl
theorem fu_two (zs : List Int) (k : Nat) (h1 : k + 1 < zs.length) (h : isHi (zs[k]?.getD 0) = true) (h2 : isLo (zs[k + 1]?.getD 0) = true) :
    fu (zs.drop k) = pairOf (zs[k]?.getD 0) (zs[k + 1]?.getD 0) :: fu (zs.drop (k + 2)) := by
  rw [drop_cons zs k (by omega), drop_cons zs (k + 1) h1, fu, if_pos (by simp [h, h2])]
theorem fu_len : ∀ (n : Nat) (zs : List Int), zs.length ≤ n → (fu zs).length ≤ zs.length
  | 0, zs, h => by
    have : zs = [] := List.eq_nil_of_length_eq_zero (by omega)
    subst this; simp [fu]
  | n + 1, [], _ => by simp [fu]
  | n + 1, [u], _ => by simp [fu]
  | n + 1, u :: x :: r, h => by
    simp only [List.length_cons] at h
    rw [fu]
    split
    · have := fu_len n r (by omega)
      simp only [List.length_cons]; omega
    · have := fu_len n (x :: r) (by simp only [List.length_cons]; omega)
      simp only [List.length_cons] at this ⊢; omega
theorem fuR_len (zs : List Int) : (fuR zs).1.length ≤ zs.length := by
  unfold fuR; split
  · exact fu_len _ zs (Nat.le_refl _)
  · simp
theorem fuR_bad (zs : List Int) (h : zs.all isUn = false) : fuR zs = ([], 1) := by simp [fuR, h]
theorem fuR_ok (zs : List Int) (h : zs.all isUn = true) : fuR zs = (fu zs, 0) := by simp [fuR, h]
theorem lo_un {p : Int} (h : isLo p = true) : isUn p = true := by
  simp [isLo, isUn] at h ⊢; omega
theorem hi_un {p : Int} (h : isHi p = true) : isUn p = true := by
  simp [isHi, isUn] at h ⊢; omega

/-- What lies between the rounds: acc is told, the rest is to come. -/
theorem fu_step1 {zs acc : List Int} {k : Nat} {p : Int} (hx : acc ++ fu (zs.drop k) = fu zs) (h : fu (zs.drop k) = p :: fu (zs.drop (k + 1))) : acc ++ [p] ++ fu (zs.drop (k + 1)) = fu zs := by
  rw [← hx, h]; simp
theorem fu_step2 {zs acc : List Int} {k : Nat} {p : Int} (hx : acc ++ fu (zs.drop k) = fu zs) (h : fu (zs.drop k) = p :: fu (zs.drop (k + 2))) : acc ++ [p] ++ fu (zs.drop (k + 2)) = fu zs := by
  rw [← hx, h]; simp
theorem fu_end {zs acc : List Int} {k : Nat} (hk : zs.length ≤ k) (hx : acc ++ fu (zs.drop k) = fu zs) : acc = fu zs := by
  rw [List.drop_eq_nil_of_le hk] at hx; simpa [fu] using hx

end Go.Proofs.YtakkdniikhgpdaaGreatDoor

namespace Go.Proofs.YtakkdniikhgpdaaGreatDoor
open Go.RowKit

theorem or_u8 (c : Nat) (n : Nat) (hc : c < 256) (hn : n < 256) (h : c ||| n = c + n) : bits .or .u8 (c : Int) (n : Int) = (c : Int) + n := by
  rw [u8_or_nat c n hc hn, h]; omega
theorem or128 (x : Int) (h0 : 0 ≤ x) (h1 : x < 64) : bits .or .u8 128 x = 128 + x := by
  obtain ⟨n, rfl⟩ := Int.eq_ofNat_of_zero_le h0
  have hd : ∀ m : Nat, m < 64 → 128 ||| m = 128 + m := by decide
  exact or_u8 128 n (by omega) (by omega) (hd n (by omega))
theorem or192 (x : Int) (h0 : 0 ≤ x) (h1 : x < 32) : bits .or .u8 192 x = 192 + x := by
  obtain ⟨n, rfl⟩ := Int.eq_ofNat_of_zero_le h0
  have hd : ∀ m : Nat, m < 32 → 192 ||| m = 192 + m := by decide
  exact or_u8 192 n (by omega) (by omega) (hd n (by omega))
theorem or224 (x : Int) (h0 : 0 ≤ x) (h1 : x < 16) : bits .or .u8 224 x = 224 + x := by
  obtain ⟨n, rfl⟩ := Int.eq_ofNat_of_zero_le h0
  have hd : ∀ m : Nat, m < 16 → 224 ||| m = 224 + m := by decide
  exact or_u8 224 n (by omega) (by omega) (hd n (by omega))
theorem or240 (x : Int) (h0 : 0 ≤ x) (h1 : x < 8) : bits .or .u8 240 x = 240 + x := by
  obtain ⟨n, rfl⟩ := Int.eq_ofNat_of_zero_le h0
  have hd : ∀ m : Nat, m < 8 → 240 ||| m = 240 + m := by decide
  exact or_u8 240 n (by omega) (by omega) (hd n (by omega))

theorem ofInt_i32 (a : Nat) (ha : a < 4294967296) : (BitVec.ofInt 32 (a : Int)).toNat = a := by
  rw [BitVec.ofInt_natCast, BitVec.toNat_ofNat]; exact Nat.mod_eq_of_lt (by omega)
theorem wrap_i32_small (n : Int) (h0 : 0 ≤ n) (h1 : n < 2147483648) : IntKind.i32.wrap n = n := by
  simp [IntKind.wrap, IntKind.bits, IntKind.signed]; omega
theorem i32_and_nat (a b : Nat) (ha : a < 2147483648) (hb : b < 2147483648) : bits .and .i32 (a : Int) (b : Int) = ((a &&& b : Nat) : Int) := by
  have hx : a &&& b < 2 ^ 31 := Nat.and_lt_two_pow _ (by omega)
  show IntKind.i32.wrap ((BitVec.ofInt 32 (a : Int) &&& BitVec.ofInt 32 (b : Int)).toNat : Int) = _
  rw [BitVec.toNat_and, ofInt_i32 a (by omega), ofInt_i32 b (by omega), wrap_i32_small _ (by omega) (by omega)]
theorem i32_or_nat (a b : Nat) (ha : a < 2147483648) (hb : b < 2147483648) : bits .or .i32 (a : Int) (b : Int) = ((a ||| b : Nat) : Int) := by
  have hx : a ||| b < 2 ^ 31 := Nat.or_lt_two_pow (by omega) (by omega)
  show IntKind.i32.wrap ((BitVec.ofInt 32 (a : Int) ||| BitVec.ofInt 32 (b : Int)).toNat : Int) = _
  rw [BitVec.toNat_or, ofInt_i32 a (by omega), ofInt_i32 b (by omega), wrap_i32_small _ (by omega) (by omega)]
theorem mask_i32 (k : Nat) (hk : k < 31) (p : Int) (h0 : 0 ≤ p) (h1 : p < 2147483648) : bits .and .i32 p (((2 ^ k - 1 : Nat) : Int)) = p % ((2 ^ k : Nat) : Int) := by
  obtain ⟨n, rfl⟩ := Int.eq_ofNat_of_zero_le h0
  have hp : 2 ^ k ≤ 2 ^ 30 := Nat.pow_le_pow_right (by omega) (by omega)
  rw [i32_and_nat n _ (by omega) (by omega), Nat.and_two_pow_sub_one_eq_mod]
  omega
theorem and63 (p : Int) (h0 : 0 ≤ p) (h1 : p < 2147483648) : bits .and .i32 p 63 = p % 64 := by
  simpa using mask_i32 6 (by omega) p h0 h1

end Go.Proofs.YtakkdniikhgpdaaGreatDoor

namespace Go.Proofs.YtakkdniikhgpdaaGreatDoor
open Go.RowKit

def hd16 (n : Int) : Int := if n < 10 then 48 + n else 87 + n
def hex4 (p : Int) : List Int := [92, 117, hd16 (p / 4096 % 16), hd16 (p / 256 % 16), hd16 (p / 16 % 16), hd16 (p % 16)]
/-- Which points are written as numbers. -/
def byHex (p : Int) : Bool := decide (p < 32) || decide (p = 127) || decide (p = 8232) || decide (p = 8233) || !okPt p
def short (p : Int) : List Int :=
  if p = 8 then [92, 98] else if p = 12 then [92, 102] else if p = 10 then [92, 110] else if p = 13 then [92, 114] else if p = 9 then [92, 116]
  else if p = 34 then [92, 34] else if p = 92 then [92, 92] else []
/-- A point between quotes. -/
def qOne (p : Int) : List Int := if short p ≠ [] then short p else if byHex p then hex4 p else enc p
def qAll (ps : List Int) : List Int := ps.flatMap qOne
def quR (us : List Int) : List Int × Int := if (fuR us).2 = 0 then (34 :: qAll (fuR us).1 ++ [34], 0) else ([], (fuR us).2)

theorem short_len (p : Int) : (short p).length ≤ 2 := by
  unfold short
  repeat' split
  all_goals simp
theorem qOne_len (p : Int) : (qOne p).length ≤ 6 := by
  unfold qOne
  have h1 := short_len p
  have h2 := enc_len p
  split
  · omega
  · split
    · simp [hex4]
    · omega
theorem qAll_len (ps : List Int) : (qAll ps).length ≤ 6 * ps.length := by
  induction ps with
  | nil => simp [qAll]
  | cons p ps ih =>
    have := qOne_len p
    simp only [qAll, List.flatMap_cons, List.length_append, List.length_cons] at ih ⊢
    omega
theorem qAll_step (zs : List Int) (k : Nat) (hk : k < zs.length) : qAll (zs.take (k + 1)) = qAll (zs.take k) ++ qOne (zs[k]?.getD 0) := by
  rw [take_snoc zs k hk]; simp [qAll]

def hexS : ByteArray := { data := #[48, 49, 50, 51, 52, 53, 54, 55, 56, 57, 97, 98, 99, 100, 101, 102] }
theorem hex_at (n : Nat) (h : n < 16) (W : World) : (Instr.index 9 (.string hexS) (.int .i32 (n : Int))).run Tryz.prog W = .ok (.int .u8 (hd16 n)) W := by
  rw [run_index_string W 9 hexS .i32 (n : Int) Tryz.underlying9]
  have hs : hexS.size = 16 := rfl
  rw [dif_pos ⟨by omega, by rw [hs]; omega⟩]
  congr 2
  match n, h with
  | 0, _ => rfl
  | 1, _ => rfl
  | 2, _ => rfl
  | 3, _ => rfl
  | 4, _ => rfl
  | 5, _ => rfl
  | 6, _ => rfl
  | 7, _ => rfl
  | 8, _ => rfl
  | 9, _ => rfl
  | 10, _ => rfl
  | 11, _ => rfl
  | 12, _ => rfl
  | 13, _ => rfl
  | 14, _ => rfl
  | 15, _ => rfl
  | n + 16, h => omega
theorem hex_at64 (n : Nat) (h : n < 16) (W : World) : (Instr.index 9 (.string hexS) (.int .i64 (n : Int))).run Tryz.prog W = .ok (.int .u8 (hd16 n)) W := by
  have := hex_at n h W
  rw [run_index_string W 9 hexS _ (n : Int) Tryz.underlying9] at this ⊢
  have hs : hexS.size = 16 := rfl
  rw [dif_pos ⟨by omega, by rw [hs]; omega⟩] at this ⊢
  exact this
theorem and15 (p : Int) (h0 : 0 ≤ p) (h1 : p < 2147483648) : bits .and .i32 p 15 = p % 16 := mask_i32 4 (by omega) p h0 h1
theorem hex_i (p : Int) (W : World) : (Instr.index 9 (.string hexS) (.int .i32 (p % 16))).run Tryz.prog W = .ok (.int .u8 (hd16 (p % 16))) W := by
  obtain ⟨n, hn⟩ := Int.eq_ofNat_of_zero_le (show 0 ≤ p % 16 by omega)
  rw [hn]
  exact hex_at n (by omega) W
theorem hex_i64 (p : Int) (W : World) : (Instr.index 9 (.string hexS) (.int .i64 (p % 16))).run Tryz.prog W = .ok (.int .u8 (hd16 (p % 16))) W := by
  obtain ⟨n, hn⟩ := Int.eq_ofNat_of_zero_le (show 0 ≤ p % 16 by omega)
  rw [hn]
  exact hex_at64 n (by omega) W

end Go.Proofs.YtakkdniikhgpdaaGreatDoor

namespace Go.Proofs.YtakkdniikhgpdaaGreatDoor
open Go.RowKit

set_option maxRecDepth 10000 in
theorem byte_on (z : Int) (h0 : 0 ≤ z) (h1 : z ≤ 255) : (bits .and .u8 z 192 != 128) = !decide (z / 64 = 2) := by
  obtain ⟨n, rfl⟩ := Int.eq_ofNat_of_zero_le h0
  have hd : ∀ m : Nat, m < 256 → (m &&& 192 = 128 ↔ m / 64 = 2) := by decide
  have h := hd n (by omega)
  have e : bits .and .u8 (n : Int) 192 = ((n &&& 192 : Nat) : Int) := u8_and_nat n 192 (by omega) (by omega)
  rw [e]
  by_cases hh : n / 64 = 2
  · rw [h.2 hh]; simp; omega
  · have : ¬ n &&& 192 = 128 := fun x => hh (h.1 x)
    have h2 : ¬ (n : Int) / 64 = 2 := by omega
    have h3 : ¬ ((n &&& 192 : Nat) : Int) = 128 := by omega
    simp [h2, h3]
theorem byte_low (z : Int) (h0 : 0 ≤ z) (h1 : z ≤ 255) : bits .and .u8 z 63 = z % 64 := by
  obtain ⟨n, rfl⟩ := Int.eq_ofNat_of_zero_le h0
  have e : bits .and .u8 (n : Int) 63 = ((n &&& 63 : Nat) : Int) := u8_and_nat n 63 (by omega) (by omega)
  have e2 : n &&& 63 = n % 64 := by simpa using Nat.and_two_pow_sub_one_eq_mod n 6
  rw [e, e2]; omega
theorem or_low (p z : Int) (h0 : 0 ≤ p) (h1 : p < 16777216) (hz0 : 0 ≤ z) (hz1 : z < 64) : bits .or .i32 (p * 64) z = p * 64 + z := by
  obtain ⟨n, rfl⟩ := Int.eq_ofNat_of_zero_le h0
  obtain ⟨m, rfl⟩ := Int.eq_ofNat_of_zero_le hz0
  have e : bits .or .i32 ((n * 64 : Nat) : Int) (m : Int) = ((n * 64 ||| m : Nat) : Int) := i32_or_nat (n * 64) m (by omega) (by omega)
  have e2 : n * 64 ||| m = n * 64 + m := by
    have := Nat.shiftLeft_add_eq_or_of_lt (i := 6) (b := m) (by omega) n
    rw [Nat.shiftLeft_eq] at this
    exact this.symm
  rw [e2] at e
  rw [show ((n : Int) * 64) = ((n * 64 : Nat) : Int) by omega, e]
  omega

end Go.Proofs.YtakkdniikhgpdaaGreatDoor

namespace Go.Proofs.YtakkdniikhgpdaaGreatDoor
open Go.RowKit

theorem hit_lead {s : List Int} {m : Nat} (h : lead m (s[0]?.getD 0) < 0) : hit s m = false := by
  have : lv s m = -1 := by
    by_cases hl : s.length < m
    · exact lv_short hl
    · exact lv_lead (by omega) h
  simp [hit, this]
theorem hit_neg {s : List Int} {m : Nat} (h : lv s m = -1) : hit s m = false := by simp [hit, h]
theorem fsize_only {s : List Int} {n : Nat} (h1 : 1 ≤ n) (h4 : n ≤ 4) (h : ∀ m, 1 ≤ m → m ≤ 4 → m ≠ n → hit s m = false) : fsize s = if hit s n then n else 0 := by
  unfold fsize
  by_cases e1 : n = 1
  · subst e1
    rw [h 2 (by omega) (by omega) (by omega), h 3 (by omega) (by omega) (by omega), h 4 (by omega) (by omega) (by omega)]; simp
  · rw [h 1 (by omega) (by omega) (by omega)]
    by_cases e2 : n = 2
    · subst e2
      rw [h 3 (by omega) (by omega) (by omega), h 4 (by omega) (by omega) (by omega)]; simp
    · rw [h 2 (by omega) (by omega) (by omega)]
      by_cases e3 : n = 3
      · subst e3
        rw [h 4 (by omega) (by omega) (by omega)]; simp
      · rw [h 3 (by omega) (by omega) (by omega)]
        have e4 : n = 4 := by omega
        subst e4; simp
theorem fsize_zero {s : List Int} (h : ∀ m, 1 ≤ m → m ≤ 4 → hit s m = false) : fsize s = 0 := by
  unfold fsize
  rw [h 1 (by omega) (by omega), h 2 (by omega) (by omega), h 3 (by omega) (by omega), h 4 (by omega) (by omega)]; simp

/-- The classes of a first byte. -/
theorem lead_cls1 {c : Int} (h0 : 0 ≤ c) (h : c < 128) : ∀ m, 1 ≤ m → m ≤ 4 → m ≠ 1 → lead m c < 0 := by
  intro m h1 h4 hne
  rw [lead_no m c (by omega) (by omega) (by omega) (by omega)]; omega
theorem lead_cls2 {c : Int} (h : c / 32 = 6) : ∀ m, 1 ≤ m → m ≤ 4 → m ≠ 2 → lead m c < 0 := by
  intro m h1 h4 hne
  rw [lead_no m c (by omega) (by omega) (by omega) (by omega)]; omega
theorem lead_cls3 {c : Int} (h : c / 16 = 14) : ∀ m, 1 ≤ m → m ≤ 4 → m ≠ 3 → lead m c < 0 := by
  intro m h1 h4 hne
  rw [lead_no m c (by omega) (by omega) (by omega) (by omega)]; omega
theorem lead_cls4 {c : Int} (h : c / 8 = 30) : ∀ m, 1 ≤ m → m ≤ 4 → m ≠ 4 → lead m c < 0 := by
  intro m h1 h4 hne
  rw [lead_no m c (by omega) (by omega) (by omega) (by omega)]; omega
theorem lead_cls0 {c : Int} (h : 128 ≤ c) (h2 : ¬ c / 32 = 6) (h3 : ¬ c / 16 = 14) (h4' : ¬ c / 8 = 30) : ∀ m, 1 ≤ m → m ≤ 4 → lead m c < 0 := by
  intro m h1 h4
  rw [lead_no m c (by omega) (by omega) (by omega) (by omega)]; omega

def goesOn (s : List Int) (k : Nat) : Prop := k < s.length ∧ s[k]?.getD 0 / 64 = 2
theorem fold_none (x : Int) (s : List Int) (n : Nat) : foldc x ((s.drop n).take (n - n)) = x := by simp [foldc]
theorem lv2 {s : List Int} (hc : s[0]?.getD 0 / 32 = 6) (g1 : goesOn s 1) : lv s 2 = s[0]?.getD 0 % 32 * 64 + s[1]?.getD 0 % 64 := by
  obtain ⟨l1, d1⟩ := g1
  have hl : lead 2 (s[0]?.getD 0) = s[0]?.getD 0 % 32 := lead_two _ hc
  rw [lv_fold (by omega) (by rw [hl]; omega), hl, foldc_step (by omega) (by omega), if_pos d1, fold_none]
theorem lv3 {s : List Int} (hc : s[0]?.getD 0 / 16 = 14) (g1 : goesOn s 1) (g2 : goesOn s 2) : lv s 3 = (s[0]?.getD 0 % 16 * 64 + s[1]?.getD 0 % 64) * 64 + s[2]?.getD 0 % 64 := by
  obtain ⟨l1, d1⟩ := g1
  obtain ⟨l2, d2⟩ := g2
  have hl : lead 3 (s[0]?.getD 0) = s[0]?.getD 0 % 16 := lead_three _ hc
  rw [lv_fold (by omega) (by rw [hl]; omega), hl, foldc_step (by omega) (by omega), if_pos d1, foldc_step (by omega) (by omega), if_pos d2, fold_none]
theorem lv4 {s : List Int} (hc : s[0]?.getD 0 / 8 = 30) (g1 : goesOn s 1) (g2 : goesOn s 2) (g3 : goesOn s 3) :
    lv s 4 = ((s[0]?.getD 0 % 8 * 64 + s[1]?.getD 0 % 64) * 64 + s[2]?.getD 0 % 64) * 64 + s[3]?.getD 0 % 64 := by
  obtain ⟨l1, d1⟩ := g1
  obtain ⟨l2, d2⟩ := g2
  obtain ⟨l3, d3⟩ := g3
  have hl : lead 4 (s[0]?.getD 0) = s[0]?.getD 0 % 8 := lead_four _ hc
  rw [lv_fold (by omega) (by rw [hl]; omega), hl, foldc_step (by omega) (by omega), if_pos d1, foldc_step (by omega) (by omega), if_pos d2, foldc_step (by omega) (by omega), if_pos d3, fold_none]

/-- A form that is cut: no value. -/
theorem cut_at {s : List Int} {n : Nat} (x : Int) (k : Nat) (hk : k < n) (hn : n ≤ s.length) (h : ¬ s[k]?.getD 0 / 64 = 2) : foldc x ((s.drop k).take (n - k)) = -1 := by
  rw [foldc_step hk hn, if_neg h]
theorem lv_cut {s : List Int} {n : Nat} (k : Nat) (hk1 : 1 ≤ k) (hk : k < n) (hlo : ∀ j, 1 ≤ j → j < k → goesOn s j) (h : ¬ goesOn s k) : lv s n = -1 := by
  by_cases hl : s.length < n
  · exact lv_short hl
  · have hd : ¬ s[k]?.getD 0 / 64 = 2 := fun e => h ⟨by omega, e⟩
    by_cases hle : lead n (s[0]?.getD 0) < 0
    · exact lv_lead (by omega) hle
    · rw [lv_fold (by omega) (by omega)]
      generalize lead n (s[0]?.getD 0) = x
      have all : ∀ j, 1 ≤ j → j ≤ k → ∀ x, foldc x ((s.drop j).take (n - j)) = -1 := by
        intro j
        induction hj : k - j generalizing j with
        | zero =>
          intro h1 h2 x
          have : j = k := by omega
          subst this
          exact cut_at x j hk (by omega) hd
        | succ d ih =>
          intro h1 h2 x
          have hg := hlo j h1 (by omega)
          rw [foldc_step (by omega) (by omega), if_pos hg.2]
          exact ih (j + 1) (by omega) (by omega) (by omega) _
      exact all 1 (Nat.le_refl _) hk1 x

/-- Which numbers want n bytes. -/
theorem need_iff2 {y : Int} (h1 : y < 2048) : need y = 2 ↔ (¬ y < 128 ∧ okPt y = true) := by
  unfold need
  cases ho : okPt y <;> simp <;> split <;> (try split) <;> (try split) <;> omega
theorem need_iff3 {y : Int} (h1 : y < 65536) : need y = 3 ↔ (¬ y < 2048 ∧ okPt y = true) := by
  unfold need
  cases ho : okPt y <;> simp <;> split <;> (try split) <;> (try split) <;> omega
theorem need_iff4 {y : Int} : need y = 4 ↔ (¬ y < 65536 ∧ okPt y = true) := by
  unfold need
  cases ho : okPt y <;> simp <;> split <;> (try split) <;> (try split) <;> omega
theorem hit_val {s : List Int} {n : Nat} {y : Int} (hv : lv s n = y) (h0 : 0 ≤ y) : hit s n = true ↔ need y = n := by
  simp [hit, hv, h0]

/-- What firstPoint answers at s. -/
def fpP (s : List Int) : Int := if fsize s = 0 then -1 else lv s (fsize s)
theorem fp_none {s : List Int} (h : fsize s = 0) : fpP s = -1 := by simp [fpP, h]
theorem fp_some {s : List Int} {n : Nat} {y : Int} (hn : n ≠ 0) (h : fsize s = n) (hv : lv s n = y) : fpP s = y := by simp [fpP, h, hn, hv]

end Go.Proofs.YtakkdniikhgpdaaGreatDoor

namespace Go.Proofs.YtakkdniikhgpdaaGreatDoor
open Go.RowKit

end Go.Proofs.YtakkdniikhgpdaaGreatDoor

namespace Go.Proofs.YtakkdniikhgpdaaGreatDoor
open Go.RowKit

end Go.Proofs.YtakkdniikhgpdaaGreatDoor

namespace Go.Proofs.YtakkdniikhgpdaaGreatDoor
open Go.RowKit

end Go.Proofs.YtakkdniikhgpdaaGreatDoor

namespace Go.Proofs.YtakkdniikhgpdaaGreatDoor
open Go.RowKit

end Go.Proofs.YtakkdniikhgpdaaGreatDoor

namespace Go.Proofs.YtakkdniikhgpdaaGreatDoor
open Go.RowKit

/-- The table of the forms' ends, as it lies in block 0. -/
structure Tab (w : World) : Prop where
  c0 : w.cell? ⟨0, 0, none⟩ = some (.int .i32 0)
  c1 : w.cell? ⟨0, 1, none⟩ = some (.int .i32 128)
  c2 : w.cell? ⟨0, 2, none⟩ = some (.int .i32 2048)
  c3 : w.cell? ⟨0, 3, none⟩ = some (.int .i32 65536)
  c4 : w.cell? ⟨0, 4, none⟩ = some (.int .i32 2097152)
theorem Tab.keep {w w' : World} (h : Tab w) (hg : w.grownBy w' none) : Tab w' :=
  ⟨hg.cell h.c0 (by simp), hg.cell h.c1 (by simp), hg.cell h.c2 (by simp), hg.cell h.c3 (by simp), hg.cell h.c4 (by simp)⟩
theorem Tab.pos {w : World} (h : Tab w) : 0 < w.heap.size := World.block_lt_of_cell? w _ h.c0
theorem Tab.below {B : Nat} {w w' : World} (h : Tab w) (hg : Below B w w') (hB : 0 < B) : Tab w' :=
  ⟨(hg.cell hB).trans h.c0, (hg.cell hB).trans h.c1, (hg.cell hB).trans h.c2, (hg.cell hB).trans h.c3, (hg.cell hB).trans h.c4⟩

end Go.Proofs.YtakkdniikhgpdaaGreatDoor

namespace Go.Proofs.YtakkdniikhgpdaaGreatDoor
open Go.RowKit

theorem byte_cls (k d q : Nat) (hd : ∀ m : Nat, m < 256 → (m &&& k = q ↔ m / d = q / d)) (hk : k < 256) (z : Int) (h0 : 0 ≤ z) (h1 : z ≤ 255) :
    (bits .and .u8 z (k : Int) == (q : Int)) = decide (z / (d : Int) = ((q / d : Nat) : Int)) := by
  obtain ⟨n, rfl⟩ := Int.eq_ofNat_of_zero_le h0
  have h := hd n (by omega)
  rw [u8_and_nat n k (by omega) hk, Bool.eq_iff_iff]
  simp only [beq_iff_eq, decide_eq_true_eq]
  rw [← Int.natCast_ediv]
  omega
set_option maxRecDepth 10000 in
theorem cls4 (z : Int) (h0 : 0 ≤ z) (h1 : z ≤ 255) : (bits .and .u8 z 248 == 240) = decide (z / 8 = 30) := byte_cls 248 8 240 (by decide) (by omega) z h0 h1
set_option maxRecDepth 10000 in
theorem cls3 (z : Int) (h0 : 0 ≤ z) (h1 : z ≤ 255) : (bits .and .u8 z 240 == 224) = decide (z / 16 = 14) := byte_cls 240 16 224 (by decide) (by omega) z h0 h1
set_option maxRecDepth 10000 in
theorem cls2 (z : Int) (h0 : 0 ≤ z) (h1 : z ≤ 255) : (bits .and .u8 z 224 == 192) = decide (z / 32 = 6) := byte_cls 224 32 192 (by decide) (by omega) z h0 h1

theorem below_box (w : World) (o : Obj) : Below w.heap.size w (w.alloc o) := (Below.refl _ _).alloc (Nat.le_refl _) _
theorem Rd.below {q : IntKind} {B : Nat} {w w' : World} {v : Value} {zs : List Int} (h : Rd q B w v zs) (hb : Below B w w') : Rd q B w' v zs := by
  obtain ⟨a, cap, hv, hr⟩ := h
  refine ⟨a, cap, hv, fun h0 => ?_⟩
  obtain ⟨b, off, ha, hlt, hc⟩ := hr h0
  exact ⟨b, off, ha, hlt, fun j hj => (hb.cell (p := ⟨b, off + j, none⟩) hlt).trans (hc j hj)⟩

end Go.Proofs.YtakkdniikhgpdaaGreatDoor

