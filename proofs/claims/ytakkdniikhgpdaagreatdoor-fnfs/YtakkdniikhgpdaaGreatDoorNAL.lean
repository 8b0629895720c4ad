import Derived.Test.YtakkdniikhgpdaaGreatDoorMAM
namespace Go.Proofs.YtakkdniikhgpdaaGreatDoor
open Go.RowKit
attribute [-go_sem] Builtin.append_

theorem KD.app1B {F : Nat} {v : Value} {zs : List Int} {i : Nat} {Γ Γ1 : Gk} {w w1 : World} (h : KD F v zs Γ w i Γ1 w1) {k : KK} {a : Option Addr} {n c : Nat} {ys : List El} (hv : Ful Γ1 k (a, n, c) ys) (B : Nat) (hB : w.heap.size ≤ B) (hB1 : B ≤ w1.heap.size) (hlo : Lo B (a, n, c)) (e : El) (arr : Array Value) (ha : arr = e.en.toArray) (hk : e.kd = k) (hb : n ≤ 100000) :
    ∃ g m w', (Builtin.append_ #[k.sl, k.sl] k.sl #[.slice a n c, .slice (some ⟨w1.heap.size, 0, none⟩) 1 1]).run Tryz.prog (w1.alloc (.cells arr k.ty)) = .ok (.slice (some ⟨g, 0, none⟩) (n + 1) m) w' ∧ KD F v zs Γ w i (updK Γ1 g (k, m, ys ++ [e])) w' ∧ Ful (updK Γ1 g (k, m, ys ++ [e])) k (some ⟨g, 0, none⟩, n + 1, m) (ys ++ [e]) ∧ B ≤ g ∧ ∀ x, x < B → w'.heap[x]? = w1.heap[x]? := by
  have hn := hv.n
  subst hn ha
  have g0 := World.grownBy_alloc w1 (.cells e.en.toArray k.ty) none
  obtain ⟨g, m, w', h1, h2, h3, h4, h5, h6⟩ := (h.keep g0).apps hv (hlo.mono hB) w1.heap.size 0 1 [e] (by simp) (fun y hy => by simp at hy; rw [hy]; exact hk) (fun j u hj => by
    rw [Nat.zero_add, cell_of_row _ w1.heap.size j _ _ _ (heap_alloc_new w1 _)]
    simpa [ens] using hj) (by simp; omega)
  rw [List.length_append] at h1
  have hg : B ≤ g := by
    rcases h3 with h3 | ⟨_, h3⟩
    · rw [h3]; simp; omega
    · exact hlo ⟨g, 0, none⟩ (by rw [h3])
  exact ⟨g, m, w', h1, h2, .inr ⟨g, m, by simp, updK_at _ _ _, h5⟩, hg, fun x hx => by rw [h6.block x (by simp; omega) (by simp; omega)]; exact g0.block x (by omega) (by simp)⟩
def p1 : Nod := { nod0 with k := 5, cnt := 1 }
theorem deepN_eq (n : Nat) (hn : 1 ≤ n) : deepN n = (List.replicate n p1).set (n - 1) { nod0 with k := 5, cnt := 0 } := by
  apply List.ext_getElem
  · simp [deepN]
  · intro i h1 h2
    simp only [deepN, List.getElem_map, List.getElem_range, List.getElem_set, List.getElem_replicate]
    have hi : i < n := by simpa [deepN] using h1
    by_cases e : i + 1 = n
    · rw [if_pos e, if_pos (by omega)]
    · rw [if_neg e, if_neg (by omega)]; rfl
theorem js_rep {α : Type} {P : El → α → Prop} {e : El} {c : α} (h : P e c) : ∀ n, Js P (List.replicate n e) (List.replicate n c)
  | 0 => trivial
  | n + 1 => ⟨h, js_rep h n⟩

end Go.Proofs.YtakkdniikhgpdaaGreatDoor

namespace Go.Proofs.YtakkdniikhgpdaaGreatDoor
open Go.RowKit

/-! How great a drawn tree is. -/

def CmB (L : Nat) (c : Cm) : Prop := c.t.length ≤ L ∧ Bys c.t
def IsI (z : Int) : Prop := -9223372036854775808 ≤ z ∧ z ≤ 9223372036854775807
structure NdB (e0 : Nat) (p : Nod) : Prop where
  k : -10 ≤ p.k ∧ p.k ≤ 10
  lead : p.lead.length ≤ e0 ∧ ∀ c ∈ p.lead, CmB e0 c
  key : p.key.length ≤ e0 ∧ ∀ z ∈ p.key, IsI z
  text : p.text.length ≤ e0 ∧ Bys p.text
  units : p.units.length ≤ e0 ∧ ∀ z ∈ p.units, IsI z
  cnt : -10 ≤ p.cnt ∧ p.cnt ≤ 100001
  tail : p.tail.length ≤ e0 ∧ ∀ c ∈ p.tail, CmB e0 c
/-- A node that was drawn. -/
structure Gn (p : Nod) : Prop where
  k : 0 ≤ p.k ∧ p.k ≤ 6
  c : 0 ≤ p.cnt ∧ p.cnt ≤ 100
  b : NdB 64 p
section
variable {zs : List Int}
theorem com_b (k : Int) : CmB 64 (comV k) := by
  have hwd := WdK.at (L := comW) (by decide) (k / 2 % 14).toNat
  unfold comV
  split
  · exact hwd
  · refine ⟨by rw [noLf_len]; exact hwd.1, fun z hm => ?_⟩
    obtain ⟨c, hc, rfl⟩ := List.mem_map.1 hm
    split
    · omega
    · exact hwd.2 c hc
theorem comN_b : ∀ (m i : Nat), (dComN zs m i).1.length = m ∧ ∀ c ∈ (dComN zs m i).1, CmB 64 c
  | 0, i => ⟨rfl, fun c h => by simp [dComN] at h⟩
  | m + 1, i => by
    obtain ⟨h1, h2⟩ := comN_b m i
    refine ⟨by simp [dComN, h1], fun c hc => ?_⟩
    simp only [dComN, List.mem_append, List.mem_singleton] at hc
    rcases hc with hc | rfl
    · exact h2 c hc
    · exact com_b _
theorem coms_b (rare : Int) (i : Nat) : (dComs zs rare i).1.length ≤ 64 ∧ ∀ c ∈ (dComs zs rare i).1, CmB 64 c := by
  unfold dComs
  split
  · exact ⟨by simp, fun c h => by simp at h⟩
  · obtain ⟨h1, h2⟩ := comN_b (zs := zs) ((nx zs i).1 / rare % 3 + 1).toNat (nx zs i).2
    exact ⟨by rw [h1]; omega, h2⟩
theorem duOne_b (hz : Bys zs) (i : Nat) : IsI (duOne zs i).1 := by
  have h1 := nx_bd hz i
  have h2 := dp_bd true (nx zs (nx zs i).2).1 (nx_bd hz _).1
  unfold duOne IsI
  split
  · simp only; omega
  · split
    · simp only; omega
    · simp only; omega
theorem dusN_b (hz : Bys zs) (i : Nat) : ∀ m, ∀ z ∈ (dusN zs m i).1, IsI z
  | 0, z, h => by simp [dusN] at h
  | m + 1, z, h => by
    simp only [dusN, List.mem_append, List.mem_singleton] at h
    rcases h with h | rfl
    · exact dusN_b hz i m z h
    · exact duOne_b hz _
theorem dusN_l (i : Nat) : ∀ m, (dusN zs m i).1.length = m
  | 0 => rfl
  | m + 1 => by simp [dusN, dusN_l i m]
theorem dus_b (hz : Bys zs) (most : Int) (h1 : 1 ≤ most) (h12 : most ≤ 12) (i : Nat) : (dus zs most i).1.length ≤ 64 ∧ ∀ z ∈ (dus zs most i).1, IsI z := by
  refine ⟨?_, dusN_b hz _ _⟩
  unfold dus
  rw [dusN_l]
  have := Int.emod_lt_of_pos (nx zs i).1 (show 0 < most by omega)
  omega
theorem key_b (hz : Bys zs) (i : Nat) : (dKey zs i).1.length ≤ 64 ∧ ∀ z ∈ (dKey zs i).1, IsI z := by
  unfold dKey
  split
  · exact dus_b hz 5 (by omega) (by omega) _
  · have : keyW.all (fun t => decide (t.length ≤ 64) && t.all fun z => decide (0 ≤ z ∧ z ≤ 300)) = true := by decide
    by_cases hn : ((nx zs i).1 % 13).toNat < keyW.length
    · have h := List.all_eq_true.1 this _ (List.getElem_mem hn)
      simp only [Bool.and_eq_true, decide_eq_true_eq, List.all_eq_true] at h
      rw [List.getD_eq_getElem?_getD, List.getElem?_eq_getElem hn]
      exact ⟨h.1, fun z hm => by have := h.2 z hm; unfold IsI; omega⟩
    · rw [List.getD_eq_getElem?_getD, List.getElem?_eq_none (by omega)]
      exact ⟨by simp, fun z h => by simp at h⟩
theorem gn_of {k n : Int} {l t : List Cm} {mm : Bool} {y x u : List Int} (hk : 0 ≤ k ∧ k ≤ 6) (hn : 0 ≤ n ∧ n ≤ 100) (hl : l.length ≤ 64 ∧ ∀ c ∈ l, CmB 64 c) (hy : y.length ≤ 64 ∧ ∀ z ∈ y, IsI z) (hx : x.length ≤ 64 ∧ Bys x) (hu : u.length ≤ 64 ∧ ∀ z ∈ u, IsI z) (ht : t.length ≤ 64 ∧ ∀ c ∈ t, CmB 64 c) : Gn ⟨k, l, mm, y, x, u, n, t⟩ :=
  ⟨hk, hn, ⟨by simp only; omega, hl, hy, hx, hu, by simp only; omega, ht⟩⟩
theorem nilC : ([] : List Cm).length ≤ 64 ∧ ∀ c ∈ ([] : List Cm), CmB 64 c := ⟨by simp, fun c h => by simp at h⟩
theorem nilI : ([] : List Int).length ≤ 64 ∧ ∀ z ∈ ([] : List Int), IsI z := ⟨by simp, fun c h => by simp at h⟩
theorem nilB : ([] : List Int).length ≤ 64 ∧ Bys ([] : List Int) := ⟨by simp, fun c h => by simp at h⟩
theorem mem_gn {key : List Int} (hy : key.length ≤ 64 ∧ ∀ z ∈ key, IsI z) {ns : List Nod} (h : ∀ p ∈ ns, Gn p) : ∀ p ∈ memH key ns, Gn p := by
  cases ns with
  | nil => exact h
  | cons q ns =>
    intro p hp
    rcases List.mem_cons.1 hp with rfl | hp
    · have := h q (by simp)
      exact ⟨this.k, this.c, ⟨this.b.k, this.b.lead, hy, this.b.text, this.b.units, this.b.cnt, this.b.tail⟩⟩
    · exact h p (by simp [hp])
theorem items_gn (hz : Bys zs) {f : Nat → List Nod × Nat} {obj : Bool} (hf : ∀ p, ∀ q ∈ (f p).1, Gn q) : ∀ (m i : Nat), (∀ q ∈ (dItems zs f obj m i).1, Gn q) ∧ (dItems zs f obj m i).2.1 ≤ m
  | 0, i => ⟨fun q h => by simp [dItems] at h, Nat.le_refl _⟩
  | m + 1, i => by
    obtain ⟨h1, h2⟩ := items_gn hz hf m i
    rw [dItems]
    split
    · refine ⟨fun q hq => ?_, Nat.le_refl _⟩
      rcases List.mem_append.1 hq with hq | hq
      · exact h1 q hq
      · unfold dItem at hq
        split at hq
        · exact mem_gn (key_b hz _) (hf _) q hq
        · exact hf _ q hq
    · exact ⟨h1, by omega⟩
theorem nodes_gn (hz : Bys zs) (rare : Int) : ∀ (d i : Nat), ∀ q ∈ (dNodes zs rare d i).1, Gn q := by
  intro d
  induction d with
  | zero =>
    intro i q hq
    by_cases h : (nx zs i).1 % 16 < 3 ∨ (0 = 0 ∧ 9 < (nx zs i).1 % 16)
    · rw [dN_scal h] at hq; simp at hq; subst hq
      exact gn_of (by omega) (by simp [nod0]) (coms_b _ _) nilI nilB nilI nilC
    · by_cases h2 : (nx zs i).1 % 16 < 6
      · rw [dN_num h h2] at hq; simp at hq; subst hq
        exact gn_of (by omega) (by simp [nod0]) (coms_b _ _) nilI (WdK.at (L := numW) (by decide) _) nilI nilC
      · rw [dN_str h h2 (.inr rfl)] at hq; simp at hq; subst hq
        exact gn_of (by omega) (by simp [nod0]) (coms_b _ _) nilI nilB (dus_b hz 7 (by omega) (by omega) _) nilC
  | succ d ih =>
    intro i q hq
    by_cases h : (nx zs i).1 % 16 < 3 ∨ (d + 1 = 0 ∧ 9 < (nx zs i).1 % 16)
    · rw [dN_scal h] at hq; simp at hq; subst hq
      exact gn_of (by omega) (by simp [nod0]) (coms_b _ _) nilI nilB nilI nilC
    · by_cases h2 : (nx zs i).1 % 16 < 6
      · rw [dN_num h h2] at hq; simp at hq; subst hq
        exact gn_of (by omega) (by simp [nod0]) (coms_b _ _) nilI (WdK.at (L := numW) (by decide) _) nilI nilC
      · by_cases h3 : (nx zs i).1 % 16 < 9
        · rw [dN_str h h2 (.inl h3)] at hq; simp at hq; subst hq
          exact gn_of (by omega) (by simp [nod0]) (coms_b _ _) nilI nilB (dus_b hz 7 (by omega) (by omega) _) nilC
        · rw [dN_cont h2 h3] at hq
          obtain ⟨g1, g2⟩ := items_gn hz (f := dNodes zs rare d) (obj := decide ((nx zs i).1 % 16 % 2 = 1)) ih ((nx zs (dComs zs rare (nx zs i).2).2).1 % 5).toNat (nx zs (dComs zs rare (nx zs i).2).2).2
          rcases List.mem_cons.1 hq with rfl | hq
          · refine gn_of (by omega) ?_ (coms_b _ _) nilI nilB nilI (coms_b _ _)
            unfold dBel
            omega
          · exact g1 q hq
theorem more_gn (hz : Bys zs) (rare : Int) : ∀ (m : Nat) (s : List Nod × Nat), (∀ q ∈ s.1, Gn q) → (1 ≤ s.1.length ∧ s.1.length ≤ 341) → (∀ q ∈ (dMore zs rare m s).1, Gn q) ∧ 1 ≤ (dMore zs rare m s).1.length ∧ (dMore zs rare m s).1.length ≤ 341
  | 0, s, h, hl => ⟨h, hl⟩
  | m + 1, s, h, hl => by
    rw [dMore]
    split
    · rename_i hc
      have h3 := dNodes_len (zs := zs) (rare := rare) 3 s.2
      have h5 : nBk 3 = 85 := by decide
      refine more_gn hz rare m _ (fun q hq => ?_) ⟨by simp, by simp; omega⟩
      simp only [List.mem_cons, List.mem_append] at hq
      rcases hq with rfl | hq | hq
      · exact gn_of (by omega) (by omega) nilC nilI nilB nilI nilC
      · exact h q hq
      · exact nodes_gn hz rare 3 _ q hq
    · exact ⟨h, hl⟩
theorem good_gn (hz : Bys zs) (i : Nat) : (∀ q ∈ (dGood zs i).1.1, Gn q) ∧ (1 ≤ (dGood zs i).1.1.length ∧ (dGood zs i).1.1.length ≤ 341) ∧ (dGood zs i).1.2.length ≤ 64 ∧ ∀ c ∈ (dGood zs i).1.2, CmB 64 c := by
  unfold dGood
  simp only
  have h4 := dNodes_len (zs := zs) (rare := rareV (nx zs i).1 (nx zs (nx zs i).2).1) 4 (nx zs (nx zs i).2).2
  have h5 : nBk 4 = 341 := by decide
  obtain ⟨h1, h2⟩ := more_gn hz (rareV (nx zs i).1 (nx zs (nx zs i).2).1) 4 _ (nodes_gn hz _ 4 _) ⟨h4.1, by omega⟩
  exact ⟨h1, h2, coms_b _ _⟩
end
end Go.Proofs.YtakkdniikhgpdaaGreatDoor

