import Derived.Deep.RegionLaw
import Derived.Lib.SliceRun
import Derived.Deep.LoopGhost
import Derived.Lib.SlicesDelete
import Derived.Test.YtakkdniikhgpdaaGreatDoorMAM
import Derived.Test.YtakkdniikhgpdaaGreatDoorMAS
import Derived.Test.YtakkdniikhgpdaaGreatDoorMBF
import Derived.Test.YtakkdniikhgpdaaGreatDoorMBN
namespace Go.Proofs.YtakkdniikhgpdaaGreatDoor
open Go.RowKit

theorem ltB_irr : ∀ x : List Int, ltB x x = false
  | [] => rfl
  | a :: x => by simp [ltB, ltB_irr x]
theorem ltB_trans : ∀ x y z : List Int, ltB x y = true → ltB y z = true → ltB x z = true
  | _, [], _, h, _ => by simp [ltB] at h
  | _, _ :: _, [], _, h => by simp [ltB] at h
  | [], _ :: _, _ :: _, _, _ => rfl
  | a :: x, b :: y, c :: z, h1, h2 => by
    simp only [ltB, Bool.or_eq_true, Bool.and_eq_true, decide_eq_true_eq] at h1 h2 ⊢
    rcases h1 with h1 | ⟨h1, h1'⟩ <;> rcases h2 with h2 | ⟨h2, h2'⟩
    · left; omega
    · left; omega
    · left; omega
    · right; exact ⟨by omega, ltB_trans x y z h1' h2'⟩
theorem ltB_tri : ∀ x y : List Int, ltB x y = false → ltB y x = false → x = y
  | [], [], _, _ => rfl
  | [], _ :: _, h, _ => by simp [ltB] at h
  | _ :: _, [], _, h => by simp [ltB] at h
  | a :: x, b :: y, h1, h2 => by
    simp only [ltB, Bool.or_eq_false_iff, Bool.and_eq_false_iff, decide_eq_false_iff_not] at h1 h2
    have hab : a = b := by omega
    subst hab
    have h1' : ltB x y = false := by rcases h1.2 with h | h; exact absurd rfl h; exact h
    have h2' : ltB y x = false := by rcases h2.2 with h | h; exact absurd rfl h; exact h
    rw [ltB_tri x y h1' h2']

/-- A valid list ascends. -/
theorem valid_asc {fs : List Fl} (h : validF fs = true) : ∀ (i j : Nat) (hij : i < j) (hj : j < fs.length), ltB (fs[i]'(by omega)).n fs[j].n = true := by
  unfold validF at h
  rw [Bool.and_eq_true, List.all_eq_true] at h
  have one : ∀ (i : Nat) (hi : i + 1 < fs.length), ltB (fs[i]'(by omega)).n fs[i + 1].n = true := fun i hi => by
    have := h.2 (i + 1) (by simpa using hi)
    rw [okAt_succ hi, Bool.and_eq_true] at this
    exact this.2
  intro i j
  induction j with
  | zero => intro hij; omega
  | succ j ih =>
    intro hij hj
    by_cases e : i = j
    · subst e; exact one i hj
    · exact ltB_trans _ _ _ (ih (by omega) (by omega)) (one j hj)

/-- The place of a name: what stands before it is less, what stands from it on is not. -/
structure Pos (fs : List Fl) (n : List Int) (i : Nat) : Prop where
  le : i ≤ fs.length
  low : ∀ k (hk : k < fs.length), k < i → ltB fs[k].n n = true
  high : ∀ k (hk : k < fs.length), i ≤ k → ltB fs[k].n n = false

theorem pos_find {fs : List Fl} {n : List Int} {i : Nat} (hp : Pos fs n i) (hi : i < fs.length) (he : fs[i].n = n) : findF fs n = some fs[i] := by
  refine find_yes i hi (fun j hj e => ?_) he
  have := hp.low j (by omega) hj
  rw [e, ltB_irr] at this
  cases this
theorem pos_none {fs : List Fl} {n : List Int} {i : Nat} (hv : validF fs = true) (hp : Pos fs n i) (hn : ∀ hi : i < fs.length, fs[i].n ≠ n) : findF fs n = none := by
  refine find_no (fun j hj e => ?_)
  by_cases h1 : j < i
  · have := hp.low j hj h1
    rw [e, ltB_irr] at this
    cases this
  · by_cases h2 : j = i
    · subst h2; exact hn hj e
    · have h3 := valid_asc hv i j (by omega) hj
      have h4 := hp.high i (by omega) (Nat.le_refl _)
      rw [e] at h3
      rw [h3] at h4
      cases h4

end Go.Proofs.YtakkdniikhgpdaaGreatDoor

namespace Go.Proofs.YtakkdniikhgpdaaGreatDoor

/-! Valid lists of files, put into and taken out of. -/
abbrev AscF (fs : List Fl) : Prop := fs.Pairwise fun a b => ltB a.n b.n = true
theorem valid_ok {fs : List Fl} (h : validF fs = true) : ∀ p ∈ fs, okF p = true := by
  intro p hp
  obtain ⟨i, hi, rfl⟩ := List.getElem_of_mem hp
  unfold validF at h
  simp only [Bool.and_eq_true, List.all_eq_true, List.mem_range] at h
  have := h.2 i hi
  cases i with
  | zero => rwa [okAt_zero hi] at this
  | succ j => rw [okAt_succ hi, Bool.and_eq_true] at this; exact this.1
theorem valid_len50 {fs : List Fl} (h : validF fs = true) : fs.length ≤ 50 := by
  by_cases hh : 50 < fs.length
  · rw [valid_long hh] at h; cases h
  · omega
theorem valid_ascF {fs : List Fl} (h : validF fs = true) : AscF fs := by
  rw [AscF, List.pairwise_iff_getElem]
  intro i j hi hj hij
  exact valid_asc h i j hij hj
theorem valid_mk {fs : List Fl} (h1 : fs.length ≤ 50) (h2 : ∀ p ∈ fs, okF p = true) (h3 : AscF fs) : validF fs = true := by
  rw [AscF, List.pairwise_iff_getElem] at h3
  refine valid_all h1 ?_
  simp only [List.all_eq_true, List.mem_range]
  intro i hi
  cases i with
  | zero => rw [okAt_zero hi]; exact h2 _ (List.getElem_mem hi)
  | succ j => rw [okAt_succ hi, Bool.and_eq_true]; exact ⟨h2 _ (List.getElem_mem hi), h3 j (j + 1) (by omega) hi (by omega)⟩
theorem valid_del {fs : List Fl} (h : validF fs = true) (i : Nat) : validF (fs.take i ++ fs.drop (i + 1)) = true := by
  have hs : (fs.take i ++ fs.drop (i + 1)).Sublist fs := by
    have e : (fs.take i ++ fs.drop i).Sublist fs := by rw [List.take_append_drop]; exact List.Sublist.refl _
    refine List.Sublist.trans (List.Sublist.append (List.Sublist.refl _) ?_) e
    rw [show fs.drop (i + 1) = (fs.drop i).drop 1 by rw [List.drop_drop]]
    exact List.drop_sublist _ _
  exact valid_mk (Nat.le_trans hs.length_le (valid_len50 h)) (fun p hp => valid_ok h p (hs.subset hp)) ((valid_ascF h).sublist hs)
theorem find_noneF {fs : List Fl} {n : List Int} (h : findF fs n = none) : ∀ p ∈ fs, p.n ≠ n := by
  intro p hp e
  have := List.find?_eq_none.1 h p hp
  simp [e] at this
theorem find_of_none {fs : List Fl} {n : List Int} (h : ∀ p ∈ fs, p.n ≠ n) : findF fs n = none := by
  unfold findF
  rw [List.find?_eq_none]
  intro p hp
  simpa using h p hp
theorem valid_ins {fs : List Fl} (h : validF fs = true) {p : Fl} {i : Nat} (hp : Pos fs p.n i) (hno : findF fs p.n = none) (ho : okF p = true) (hl : fs.length < 50) : validF (fs.take i ++ p :: fs.drop i) = true := by
  have hA := valid_ascF h
  have hnn := find_noneF hno
  have hle := hp.le
  refine valid_mk (by simp; omega) (fun q hq => ?_) ?_
  · rcases List.mem_append.1 hq with h1 | h1
    · exact valid_ok h q (List.mem_of_mem_take h1)
    · rcases List.mem_cons.1 h1 with rfl | h1
      · exact ho
      · exact valid_ok h q (List.mem_of_mem_drop h1)
  · have e : fs = fs.take i ++ fs.drop i := (List.take_append_drop i fs).symm
    rw [AscF, e, List.pairwise_append] at hA
    rw [AscF, List.pairwise_append]
    have lo : ∀ a ∈ fs.take i, ltB a.n p.n = true := fun a ha => by
      obtain ⟨k, hk, rfl⟩ := List.getElem_of_mem ha
      simp only [List.length_take] at hk
      rw [List.getElem_take]
      exact hp.low k (by omega) (by omega)
    have hi : ∀ b ∈ fs.drop i, ltB p.n b.n = true := fun b hb => by
      obtain ⟨k, hk, rfl⟩ := List.getElem_of_mem hb
      simp only [List.length_drop] at hk
      rw [List.getElem_drop]
      have h1 := hp.high (i + k) (by omega) (by omega)
      by_cases h2 : ltB p.n (fs[i + k]'(by omega)).n = true
      · exact h2
      · exact absurd (ltB_tri _ _ h1 (by simpa using h2)) (hnn _ (List.getElem_mem _))
    refine ⟨hA.1, List.pairwise_cons.2 ⟨hi, hA.2.1⟩, fun a ha b hb => ?_⟩
    rcases List.mem_cons.1 hb with rfl | hb
    · exact lo a ha
    · exact hA.2.2 a ha b hb
/-- In a valid list a name stands once. -/
theorem name_once {fs : List Fl} (h : validF fs = true) {i j : Nat} (hi : i < fs.length) (hj : j < fs.length) (he : fs[i].n = fs[j].n) : i = j := by
  by_cases h1 : i < j
  · have := valid_asc h i j h1 hj
    rw [he, ltB_irr] at this; cases this
  · by_cases h2 : j < i
    · have := valid_asc h j i h2 hi
      rw [he, ltB_irr] at this; cases this
    · omega
theorem ins_at {fs : List Fl} {p : Fl} {i : Nat} (hi : i ≤ fs.length) (h : i < (fs.take i ++ p :: fs.drop i).length) : (fs.take i ++ p :: fs.drop i)[i] = p := by
  rw [List.getElem_append_right (by simp; omega)]
  simp [Nat.min_eq_left hi]
theorem ins_del {fs : List Fl} {p : Fl} {i : Nat} (hi : i ≤ fs.length) : (fs.take i ++ p :: fs.drop i).take i ++ (fs.take i ++ p :: fs.drop i).drop (i + 1) = fs := by
  have l : (fs.take i).length = i := by simp; omega
  rw [List.take_append_of_le_length (by omega), List.take_of_length_le (by omega), List.drop_append, List.drop_eq_nil_of_le (by omega), l, show i + 1 - i = 1 by omega]
  simp
theorem ins_set {fs : List Fl} {p q : Fl} {i : Nat} (hi : i ≤ fs.length) : (fs.take i ++ p :: fs.drop i).set i q = fs.take i ++ q :: fs.drop i := by
  rw [List.set_append_right _ _ (by simp; omega)]
  simp [Nat.min_eq_left hi]
theorem ins_find {fs : List Fl} {p : Fl} {i : Nat} (hno : findF fs p.n = none) : findF (fs.take i ++ p :: fs.drop i) p.n = some p := by
  have hnn := find_noneF hno
  unfold findF
  rw [List.find?_append, List.find?_eq_none.2 (fun x hx => by simpa using hnn x (List.mem_of_mem_take hx))]
  simp
theorem ins_find_no {fs : List Fl} {p : Fl} {i : Nat} {n : List Int} (hno : findF fs n = none) (hn : p.n ≠ n) : findF (fs.take i ++ p :: fs.drop i) n = none := by
  have hnn := find_noneF hno
  refine find_of_none fun q hq => ?_
  rcases List.mem_append.1 hq with h1 | h1
  · exact hnn q (List.mem_of_mem_take h1)
  · rcases List.mem_cons.1 h1 with rfl | h1
    · exact hn
    · exact hnn q (List.mem_of_mem_drop h1)
theorem crash_ins (keep : Int) (fs : List Fl) (p : Fl) (i : Nat) : crashF keep (fs.take i ++ p :: fs.drop i) = (crashF keep fs).take i ++ crashed keep p :: (crashF keep fs).drop i := by
  simp [crashF, List.map_take, List.map_drop]
end Go.Proofs.YtakkdniikhgpdaaGreatDoor

namespace Go.Proofs.YtakkdniikhgpdaaGreatDoor
open Go.RowKit
attribute [-go_sem] Builtin.append_

theorem run_clear3 (w : World) (ty g o c : Nat) (hc : ∀ j, j < 3 → (w.cell? ⟨g, o + j, none⟩).isSome = true) (hf : ∀ j, j < 3 → w.frozen? ⟨g, o + j, none⟩ = false) :
    (Builtin.clear_ #[23] ty #[.slice (some ⟨g, o, none⟩) 1 c]).run Tryz.prog w = .ok (.tuple #[]) (w.setCells g o [.slice none 0 0, .slice none 0 0, .int .i64 0]) := by
  have hst := run_storeCells_cells (P := Tryz.prog) g o [.slice none 0 0, .slice none 0 0, .int .i64 0] 0 w (by simpa using hc) (by simpa using hf) (by intro v hv; simp at hv; rcases hv with rfl | rfl <;> rfl)
  simp only [Nat.add_zero] at hst
  obtain ⟨i0, hi0, hz0, hzs, hzb⟩ := info_parts infoFl
  have hz : (Builtin.zeroCells (Value.agg #[.slice none 0 0, .slice none 0 0, .int .i64 0]).cells 1).toList = [.slice none 0 0, .slice none 0 0, .int .i64 0] := by kernel_rfl
  simp [Builtin.clear_, run_underlying Tryz.underlying23, zeroValue, typeInfo, hi0, hz0, hz, hst]

theorem set_del {xs : List Value} {n i : Nat} (hl : xs.length = n * 3) (hi : i < n) (z : List Value) (hz : z.length = 3) :
    (setL (setL xs (i * 3) (xs.drop ((i + 1) * 3))) ((n - 1) * 3) z).take ((n - 1) * 3) = xs.take (i * 3) ++ xs.drop ((i + 1) * 3) := by
  have l1 : (xs.take (i * 3)).length = i * 3 := by rw [List.length_take, hl]; omega
  have l2 : (xs.drop ((i + 1) * 3)).length = (n - 1 - i) * 3 := by rw [List.length_drop, hl]; omega
  have l3 : (xs.drop (i * 3)).length = (n - i) * 3 := by rw [List.length_drop, hl]; omega
  have h1 := setL_mid (a := xs.take (i * 3)) (b := (xs.drop (i * 3)).take ((n - 1 - i) * 3)) (c := xs.drop ((i + 1) * 3)) (d := (xs.drop (i * 3)).drop ((n - 1 - i) * 3)) (by rw [List.length_take, l3, l2]; omega)
  rw [l1, List.take_append_drop, List.take_append_drop] at h1
  rw [h1]
  have l4 : (xs.take (i * 3) ++ xs.drop ((i + 1) * 3)).length = (n - 1) * 3 := by rw [List.length_append, l1, l2]; omega
  have h2 := setL_mid (a := xs.take (i * 3) ++ xs.drop ((i + 1) * 3)) (b := (xs.drop (i * 3)).drop ((n - 1 - i) * 3)) (c := z) (d := []) (by rw [List.length_drop, l3, hz]; omega)
  rw [l4, List.append_nil, List.append_nil, List.append_assoc] at h2
  rw [h2, ← l4, List.take_left]

set_option maxHeartbeats 4000000 in
set_option maxRecDepth 100000 in
theorem delete_any (g n cap i : Nat) (xs : List Value) (B : Nat) (w : World) (ho : w.ownsRow B 45 3 (.slice (some ⟨g, 0, none⟩) n cap) n xs) (hi : i < n) (hn : n ≤ 100) (h1 : ∀ u ∈ xs, u.oneCell' = true) :
    Calls Tryz.prog 125 #[.slice (some ⟨g, 0, none⟩) n cap, .int .i64 i, .int .i64 ((i : Int) + 1)] w fun e w' => e = .returned (.slice (some ⟨g, 0, none⟩) (n - 1) cap) ∧ w'.ownsRow B 45 3 (.slice (some ⟨g, 0, none⟩) (n - 1) cap) (n - 1) (xs.take (i * 3) ++ xs.drop ((i + 1) * 3)) ∧ w.grownBy w' (some g) := by
  obtain ⟨hnc, hcm, hBg, hgl⟩ := own_cap ho
  unfold maxLen at hcm
  have hxl := ho.1
  have mixed : Tryz.prog.follows .mixedOrders = true := by kernel_rfl
  obtain ⟨i0, hi0, hz0, hz1, hz2⟩ := info_parts infoFl
  obtain ⟨news, hnews⟩ : ∃ news, news = xs.drop ((i + 1) * 3) := ⟨_, rfl⟩
  have hlen : news.length = (n - (i + 1)) * 3 := by rw [hnews, List.length_drop, hxl]; omega
  obtain ⟨A, hA, hsrc⟩ : ∃ A : Addr, (if cap = i + 1 then some (⟨g, 0, none⟩ : Addr) else some ⟨g, (i + 1) * 3, none⟩) = some A ∧ Hid (∀ t u, news[t]? = some u → w.drew.cell? (A.add t) = some u) := by
    by_cases h : cap = i + 1
    · refine ⟨⟨g, 0, none⟩, by simp [h], fun t u hu => ?_⟩
      have h0 : news.length = 0 := by rw [hlen]; omega
      rw [List.length_eq_zero_iff.1 h0] at hu
      simp at hu
    · refine ⟨⟨g, (i + 1) * 3, none⟩, by simp [h], fun t u hu => ?_⟩
      have ht := (List.getElem?_eq_some_iff.1 hu).1
      rw [hlen] at ht
      rw [Addr.add_lit]
      show w.cell? _ = _
      rw [World.ownsRow.cellAt ho _ (by omega), ← hu, hnews, List.getElem?_drop]
  have s2 : Hid (∀ u ∈ news, u.oneCell' = true) := fun u hu => h1 u (by rw [hnews] at hu; exact List.mem_of_mem_drop hu)
  have s3 : Hid (∀ t, t < news.length → (w.drew.cell? ⟨g, 0 + i * 3 + t, none⟩).isSome = true ∧ w.drew.frozen? ⟨g, 0 + i * 3 + t, none⟩ = false) := fun t ht => ⟨own_some (w := w) ho _ (by omega), World.ownsRow.frozenAt (w := w) ho _⟩
  obtain ⟨W1, hW1⟩ : ∃ W1, W1 = w.drew.setCells g (0 + i * 3) news := ⟨_, rfl⟩
  have o1 := own_sets news (0 + i * 3) (w := w.drew) (show w.drew.ownsRow B 45 3 _ n xs from ho)
  rw [← hW1] at o1
  have hcl : ∀ ty c, (Builtin.clear_ #[23] ty #[.slice (some ⟨g, (i + (n - (i + 1))) * 3, none⟩) (n - (i + (n - (i + 1)))) c]).run Tryz.prog W1 = .ok (.tuple #[]) (W1.setCells g ((n - 1) * 3) [.slice none 0 0, .slice none 0 0, .int .i64 0]) := fun ty c => by
    have e1 : i + (n - (i + 1)) = n - 1 := by omega
    rw [e1, show n - (n - 1) = 1 by omega]
    exact run_clear3 W1 ty g ((n - 1) * 3) c (fun j hj => own_some o1.1 _ (by omega)) (fun j hj => World.ownsRow.frozenAt o1.1 _)
  have HE : Hid ((W1.setCells g ((n - 1) * 3) [.slice none 0 0, .slice none 0 0, .int .i64 0]).ownsRow B 45 3 (.slice (some ⟨g, 0, none⟩) (n - 1) cap) (n - 1) (xs.take (i * 3) ++ xs.drop ((i + 1) * 3)) ∧ w.grownBy (W1.setCells g ((n - 1) * 3) [.slice none 0 0, .slice none 0 0, .int .i64 0]) (some g)) := by
    have o2 := own_sets [.slice none 0 0, .slice none 0 0, .int .i64 0] ((n - 1) * 3) o1.1
    have o3 := own_less o2.1 (m := n - 1) (by omega)
    rw [Nat.zero_add, hnews, set_del hxl hi _ rfl] at o3
    exact ⟨o3, grown_trans (show w.grownBy W1 (some g) from ⟨o1.2.os, o1.2.tape, o1.2.output, o1.2.size, o1.2.block⟩) o2.2⟩
  have hW : Hid (W1 = w.drew.setCells g (0 + i * 3) news) := hW1
  have hic : i ≤ cap := by omega
  have hjc : i + 1 ≤ cap := by omega
  have hjn : (i : Int) + 1 ≤ (n : Int) := by omega
  have hij : (i : Int) ≤ (i : Int) + 1 := by omega
  have hne : ¬ ((i : Int) = (i : Int) + 1) := by omega
  have htn : ((i : Int) + 1).toNat = i + 1 := by omega
  have h0i : (0 : Int) ≤ (i : Int) + 1 := by omega
  have HL := hide hlen
  clear hW1 o1 ho hnews hlen
  go_enter Tryz.func125, Tryz.ntmps125
  go_wp2_with fail
  go_region_law_o (refine step_append_room rfl _ _ 23 rfl 45 i0 3 Tryz.underlying23 hi0 hz1 g 0 i cap (by simp [Act.eval, Act.put]) A (n - (i + 1)) (cap - (i + 1)) news (by simp [Act.eval, Act.put]) HL.out hsrc.out s2.out (by omega) s3.out ?_; rw [← hW.out])
  go_wp2
  go_ret
  exact ⟨by rw [show n - 1 = i + (n - (i + 1)) by omega]; rfl, HE.out⟩
end Go.Proofs.YtakkdniikhgpdaaGreatDoor

namespace Go.Proofs.YtakkdniikhgpdaaGreatDoor
open Go.RowKit
attribute [-go_sem] Builtin.append_

/-! A row of files of one's own whose texts may be shared. -/
structure LoX (B : Nat) (w : World) (g : Option Nat) (fs : List Fl) (xs : List (Value × Value)) : Prop where
  len : xs.length = fs.length
  own : ∀ (j : Nat) (p : Fl) (x : Value × Value), fs[j]? = some p → xs[j]? = some x → OwB B w x.1 p.n ∧ OwB B w x.2 p.d ∧ (∀ k, g = some k → x.1.ownBlock ≠ some k ∧ x.2.ownBlock ≠ some k)
def LoF (B : Nat) (w : World) (v : Value) (fs : List Fl) : Prop :=
  ∃ xs : List (Value × Value), w.ownsRow B 45 3 v fs.length (cellsF fs xs) ∧ LoX B w v.ownBlock fs xs
theorem OwF.lo {B : Nat} {w : World} {v : Value} {fs : List Fl} (h : OwF B w v fs) : LoF B w v fs := by
  obtain ⟨xs, ho, ht⟩ := h
  exact ⟨xs, ho, ht.len, ht.own⟩
theorem LoF.rd {B : Nat} {w : World} {v : Value} {fs : List Fl} (h : LoF B w v fs) : RdF w.heap.size w v fs := by
  obtain ⟨xs, ho, ht⟩ := h
  refine row_rd ht.len ho (Nat.le_refl _) (fun j p x hp hxj => ?_)
  obtain ⟨o1, o2, _⟩ := ht.own j p x hp hxj
  exact ⟨o1.rd, o1.sl, o2.rd, o2.sl⟩
/-- The texts stay where the row turns or moves. -/
theorem LoX.row {B : Nat} {w w' : World} {g g' : Option Nat} {fs : List Fl} {xs : List (Value × Value)} (h : LoX B w g fs xs) (hg : w.grownBy w' g) (hg' : ∀ k, g' = some k → g = some k ∨ w.heap.size ≤ k) : LoX B w' g' fs xs :=
  ⟨h.len, fun j p x h1 h2 => by
    obtain ⟨o1, o2, o3⟩ := h.own j p x h1 h2
    refine ⟨o1.beside hg (fun k hk i hi e => ?_), o2.beside hg (fun k hk i hi e => ?_), fun k hk => ?_⟩
    · subst e; exact (o3 k hi).1 hk
    · subst e; exact (o3 k hi).2 hk
    · rcases hg' k hk with e | e
      · exact o3 k e
      · exact ⟨fun e2 => by have := World.ownsRow.lt o1 _ e2; omega, fun e2 => by have := World.ownsRow.lt o2 _ e2; omega⟩⟩
theorem LoF.later {B : Nat} {w w' : World} {v : Value} {fs : List Fl} (h : LoF B w v fs) (hg : w.grownBy w' none) : LoF B w' v fs := by
  obtain ⟨xs, ho, ht⟩ := h
  refine ⟨xs, World.ownsRow.kept ho hg (by cases v.ownBlock <;> simp), ht.len, fun j p x h1 h2 => ?_⟩
  obtain ⟨o1, o2, o3⟩ := ht.own j p x h1 h2
  exact ⟨o1.later hg, o2.later hg, o3⟩
theorem LoF.base {B B' : Nat} {w : World} {v : Value} {fs : List Fl} (h : LoF B w v fs) (hB : B' ≤ B) : LoF B' w v fs := by
  obtain ⟨xs, ho, ht⟩ := h
  exact ⟨xs, row_base hB ho, ht.len, fun j p x h1 h2 => by obtain ⟨o1, o2, o3⟩ := ht.own j p x h1 h2; exact ⟨row_base hB o1, row_base hB o2, o3⟩⟩
/-- .. over a write into a block that is none of theirs. -/
theorem LoF.set {B : Nat} {w : World} {v : Value} {fs : List Fl} (h : LoF B w v fs) (a : Addr) (u : Value) (hb : ∀ t ty n zs, w.ownsRow B ty 1 t n zs → t.ownBlock ≠ some a.block) (hv : v.ownBlock ≠ some a.block) : LoF B (w.setCell a u) v fs := by
  have hg : w.grownBy (w.setCell a u) (some a.block) := ⟨rfl, rfl, rfl, by simp, fun i _ hn => Below.heap_setCell _ _ _ _ (fun e => hn (by rw [e]))⟩
  obtain ⟨xs, ho, ht⟩ := h
  refine ⟨xs, World.ownsRow.kept ho hg (.inr hv), ht.len, fun j p x h1 h2 => ?_⟩
  obtain ⟨o1, o2, o3⟩ := ht.own j p x h1 h2
  exact ⟨o1.beside hg (fun k hk i hi e => by cases hi; subst e; exact hb _ _ _ _ o1 hk), o2.beside hg (fun k hk i hi e => by cases hi; subst e; exact hb _ _ _ _ o2 hk), o3⟩
theorem LoF.setLow {B : Nat} {w : World} {v : Value} {fs : List Fl} (h : LoF B w v fs) (a : Addr) (u : Value) (hb : a.block < B) : LoF B (w.setCell a u) v fs :=
  h.set a u (fun t ty n zs o e => by have := World.ownsRow.lt o _ e; omega) (by obtain ⟨xs, ho, _⟩ := h; exact fun e => by have := World.ownsRow.lt ho _ e; omega)

theorem cellsF_app : ∀ (a b : List Fl) (x y : List (Value × Value)), x.length = a.length → cellsF (a ++ b) (x ++ y) = cellsF a x ++ cellsF b y
  | [], _, [], _, _ => rfl
  | p :: a, b, q :: x, y, h => by simp only [List.cons_append, cellsF, cellsF_app a b x y (by simpa using h)]
  | [], _, _ :: _, _, h => by simp at h
  | _ :: _, _, [], _, h => by simp at h
theorem cellsF_cut (fs : List Fl) (xs : List (Value × Value)) (h : xs.length = fs.length) (i : Nat) (hi : i ≤ fs.length) : (cellsF fs xs).take (i * 3) = cellsF (fs.take i) (xs.take i) ∧ (cellsF fs xs).drop (i * 3) = cellsF (fs.drop i) (xs.drop i) := by
  have hl : (cellsF (fs.take i) (xs.take i)).length = i * 3 := by rw [cellsF_len _ _ (by simp [h]), List.length_take, Nat.min_eq_left hi]
  have e := cellsF_app (fs.take i) (fs.drop i) (xs.take i) (xs.drop i) (by simp [h])
  rw [List.take_append_drop, List.take_append_drop] at e
  rw [e]
  exact ⟨by rw [← hl, List.take_left], by rw [← hl, List.drop_left]⟩
theorem cellsF_oneL {fs : List Fl} {xs : List (Value × Value)} {B : Nat} {w : World} {g : Option Nat} (h : LoX B w g fs xs) : ∀ u ∈ cellsF fs xs, u.oneCell' = true := by
  have key : ∀ (fs : List Fl) (xs : List (Value × Value)), xs.length = fs.length → (∀ (j : Nat) (p : Fl) (x : Value × Value), fs[j]? = some p → xs[j]? = some x → OwB B w x.1 p.n ∧ OwB B w x.2 p.d) → ∀ u ∈ cellsF fs xs, u.oneCell' = true := by
    intro fs
    induction fs with
    | nil => intro xs _ _ u hu; cases xs <;> simp [cellsF] at hu
    | cons p fs ih =>
      intro xs hl hx u hu
      cases xs with
      | nil => simp at hl
      | cons x xs =>
        obtain ⟨o1, o2⟩ := hx 0 p x rfl rfl
        simp only [cellsF, List.mem_cons] at hu
        rcases hu with rfl | rfl | rfl | hu
        · obtain ⟨a, c, e, _⟩ := o1.sl; rw [e]; rfl
        · obtain ⟨a, c, e, _⟩ := o2.sl; rw [e]; rfl
        · rfl
        · exact ih xs (by simpa using hl) (fun j p x h1 h2 => hx (j + 1) p x h1 h2) u hu
  exact key fs xs h.len (fun j p x h1 h2 => ⟨(h.own j p x h1 h2).1, (h.own j p x h1 h2).2.1⟩)

/-- A file put between. -/
theorem LoF.ins {B : Nat} {w w' : World} {v v' : Value} {fs : List Fl} {xs : List (Value × Value)} {i : Nat} {p : Fl} {x : Value × Value} (hX : LoX B w v.ownBlock fs xs) (hi : i ≤ fs.length) (ho : w'.ownsRow B 45 3 v' (fs.length + 1) ((cellsF fs xs).take (i * 3) ++ ([x.1, x.2, .int .i64 p.s] ++ (cellsF fs xs).drop (i * 3))))
    (hg : w.grownBy w' v.ownBlock) (hb : v'.ownBlock = v.ownBlock ∨ ∃ k, v'.ownBlock = some k ∧ w.heap.size ≤ k) (h1 : OwB B w x.1 p.n) (h2 : OwB B w x.2 p.d) (h3 : ∀ k, v.ownBlock = some k → x.1.ownBlock ≠ some k ∧ x.2.ownBlock ≠ some k) : LoF B w' v' (fs.take i ++ p :: fs.drop i) := by
  have hb' : ∀ k, v'.ownBlock = some k → v.ownBlock = some k ∨ w.heap.size ≤ k := fun k hk => by
    rcases hb with h | ⟨j, hj, hl⟩
    · rw [h] at hk; exact .inl hk
    · rw [hj] at hk; cases hk; exact .inr hl
  have hX' := hX.row hg hb'
  have h4 : OwB B w' x.1 p.n ∧ OwB B w' x.2 p.d ∧ (∀ k, v'.ownBlock = some k → x.1.ownBlock ≠ some k ∧ x.2.ownBlock ≠ some k) := by
    have hY : LoX B w v.ownBlock [p] [x] := ⟨rfl, fun j q y e1 e2 => by
      match j, e1, e2 with
      | 0, e1, e2 => simp at e1 e2; subst e1 e2; exact ⟨h1, h2, h3⟩
      | j + 1, e1, _ => simp at e1⟩
    exact (hY.row hg hb').own 0 p x rfl rfl
  obtain ⟨c1, c2⟩ := cellsF_cut fs xs hX.len i hi
  have hlt : (xs.take i).length = (fs.take i).length := by simp [hX.len]
  refine ⟨xs.take i ++ x :: xs.drop i, ?_, ?_, fun j q y e1 e2 => ?_⟩
  · rw [cellsF_app _ _ _ _ hlt]
    rw [c1, c2] at ho
    have hl : (fs.take i ++ p :: fs.drop i).length = fs.length + 1 := by simp; omega
    rw [hl]
    exact ho
  · simp [hX.len]
  · by_cases hj : j < i
    · rw [List.getElem?_append_left (by simp; omega), List.getElem?_take_of_lt hj] at e1
      rw [List.getElem?_append_left (by simp [hX.len]; omega), List.getElem?_take_of_lt hj] at e2
      exact hX'.own j q y e1 e2
    · have l1 : (fs.take i).length = i := by simp; omega
      have l2 : (xs.take i).length = i := by simp [hX.len]; omega
      rw [List.getElem?_append_right (by omega), l1] at e1
      rw [List.getElem?_append_right (by omega), l2] at e2
      cases hk : j - i with
      | zero =>
        rw [hk] at e1 e2
        simp at e1 e2
        subst e1 e2
        exact h4
      | succ m =>
        rw [hk] at e1 e2
        simp only [List.getElem?_cons_succ, List.getElem?_drop] at e1 e2
        exact hX'.own _ q y e1 e2
/-- A file taken out. -/
theorem LoF.del {B : Nat} {w w' : World} {g cap : Nat} {fs : List Fl} {xs : List (Value × Value)} {i : Nat} (hX : LoX B w (some g) fs xs) (hi : i < fs.length) (ho : w'.ownsRow B 45 3 (.slice (some ⟨g, 0, none⟩) (fs.length - 1) cap) (fs.length - 1) ((cellsF fs xs).take (i * 3) ++ (cellsF fs xs).drop ((i + 1) * 3)))
    (hg : w.grownBy w' (some g)) : LoF B w' (.slice (some ⟨g, 0, none⟩) (fs.length - 1) cap) (fs.take i ++ fs.drop (i + 1)) := by
  have hX' := hX.row (g' := some g) hg (fun k e => .inl e)
  obtain ⟨c1, _⟩ := cellsF_cut fs xs hX.len i (by omega)
  obtain ⟨_, c2⟩ := cellsF_cut fs xs hX.len (i + 1) (by omega)
  have hlt : (xs.take i).length = (fs.take i).length := by simp [hX.len]
  refine ⟨xs.take i ++ xs.drop (i + 1), ?_, ?_, fun j q y e1 e2 => ?_⟩
  · rw [cellsF_app _ _ _ _ hlt]
    rw [c1, c2] at ho
    have hl : (fs.take i ++ fs.drop (i + 1)).length = fs.length - 1 := by simp; omega
    rw [hl]
    exact ho
  · simp [hX.len]
  · by_cases hj : j < i
    · rw [List.getElem?_append_left (by simp; omega), List.getElem?_take_of_lt hj] at e1
      rw [List.getElem?_append_left (by simp [hX.len]; omega), List.getElem?_take_of_lt hj] at e2
      exact hX'.own j q y e1 e2
    · have l1 : (fs.take i).length = i := by simp; omega
      have l2 : (xs.take i).length = i := by simp [hX.len]; omega
      rw [List.getElem?_append_right (by omega), l1, List.getElem?_drop] at e1
      rw [List.getElem?_append_right (by omega), l2, List.getElem?_drop] at e2
      exact hX'.own _ q y e1 e2
end Go.Proofs.YtakkdniikhgpdaaGreatDoor

namespace Go.Proofs.YtakkdniikhgpdaaGreatDoor
open Go.RowKit

set_option maxHeartbeats 8000000 in
set_option maxRecDepth 100000 in
theorem binary_any (v nv : Value) (fs : List Fl) (n : List Int) (w : World) (hv : RdF w.heap.size w v fs) (hd : Fss fs) (hval : validF fs = true) (hn : RdB w.heap.size w nv n) (hs : Sl nv n.length) (hb : Byt n) :
    Calls Tryz.prog 58 #[v, nv, .func (.func 47) #[] #[]] w fun e w' => ∃ i : Nat, e = .returned (.tuple #[.int .i64 i, .bool (decide (∃ hi : i < fs.length, fs[i].n = n))]) ∧ Pos fs n i ∧ w.grownBy w' none := by
  obtain ⟨a, cap, hv0, hcap, hmax, _⟩ := id hv
  obtain ⟨na, ncap, hnv0, _, _⟩ := id hs
  have hlen := valid_len hval
  have HV := hide hv
  have HN := hide hn
  have HD := hide hd
  have HB := hide hb
  have HA := hide (valid_asc hval)
  subst hv0 hnv0
  clear hv hn hs hd hb hval
  go_enter Tryz.func58, Tryz.ntmps58
  go_wp2
  go_loopw [9, 10] (fun i j wr => ∃ (x y : Nat), x ≤ y ∧ y ≤ fs.length ∧ i = .int .i64 x ∧ j = .int .i64 y ∧ Hid (w.grownBy wr none) ∧ Hid (∀ k (hk : k < fs.length), k < x → ltB fs[k].n n = true) ∧ Hid (∀ k (hk : k < fs.length), y ≤ k → ltB fs[k].n n = false)) (fun i j _ => (intOf j).toNat - (intOf i).toNat)
  case atStart => exact ⟨0, fs.length, Nat.zero_le _, Nat.le_refl _, rfl, rfl, World.grownBy.refl _ _, fun k hk h0 => by omega, fun k hk h0 => by omega⟩
  case round =>
    obtain ⟨x, y, hxy, hyl, rfl, rfl, HG, HL, HH⟩ := hrel
    by_cases hlt : x < y
    · have hx2 : (x + y) / 2 < fs.length := by omega
      obtain ⟨b, off, cap', u, hva, hb, hp⟩ := (HV.out.now HG.out).at ((x + y) / 2) hx2
      cases hva
      obtain ⟨pv, pd⟩ := u
      have y0 := hp.n; have y1 := hp.d; have y2 := hp.s
      have HCm := hide (compareName_any pv pd (.slice na n.length ncap) fs[(x + y) / 2].s fs[(x + y) / 2].n n wr hp.rn hp.sn ((HN.out.keep HG.out).wideF HG.out.size) (HD.out.byt _ (List.getElem_mem hx2)).1 HB.out)
      obtain ⟨pa, pcap, hpv, hq1, hq2⟩ := hp.sn
      obtain ⟨qa, qcap, hqv, hr1, hr2⟩ := hp.sd
      simp only at hpv hqv
      subst hpv hqv
      clear hp
      have hxi : (x : Int) < y := by omega
      have hm : (((x + y) / 2 : Nat) : Int) = ((x : Int) + y) / 2 := by omega
      by_cases hc : cmpB fs[(x + y) / 2].n n < 0
      · have HL2 : Hid (∀ k (hk : k < fs.length), k < (x + y) / 2 + 1 → ltB fs[k].n n = true) := fun k hk hkx => by
          by_cases e : k = (x + y) / 2
          · subst e; exact (cmpB_lt _ _).1 hc
          · exact ltB_trans _ _ _ (HA.out k ((x + y) / 2) (by omega) hx2) ((cmpB_lt _ _).1 hc)
        generalize cmpB fs[(x + y) / 2].n n = c at *
        go_wp2_with fail
        refine HCm.out.mono ?_
        rintro e w1 ⟨rfl, g⟩
        have HG1 : Hid (w.grownBy w1 none) := grown_trans HG.out g
        clear g
        go_wp2
        go_roundw
        case rel => exact ⟨(x + y) / 2 + 1, y, by omega, hyl, by rw [← hm]; go_num, rfl, HG1, HL2, HH⟩
        case measure => simp only [intOf]; omega
      · have HH2 : Hid (∀ k (hk : k < fs.length), (x + y) / 2 ≤ k → ltB fs[k].n n = false) := fun k hk hkx => by
          have h1 : ltB fs[(x + y) / 2].n n = false := by
            rw [Bool.eq_false_iff]; exact fun e => hc ((cmpB_lt _ _).2 e)
          by_cases e : k = (x + y) / 2
          · subst e; exact h1
          · rw [Bool.eq_false_iff]
            intro e2
            have := ltB_trans _ _ _ (HA.out ((x + y) / 2) k (by omega) hk) e2
            rw [h1] at this; cases this
        generalize cmpB fs[(x + y) / 2].n n = c at *
        go_wp2_with fail
        refine HCm.out.mono ?_
        rintro e w1 ⟨rfl, g⟩
        have HG1 : Hid (w.grownBy w1 none) := grown_trans HG.out g
        clear g
        go_wp2
        go_roundw
        case rel => exact ⟨x, (x + y) / 2, by omega, by omega, rfl, by rw [← hm], HG1, HL, HH2⟩
        case measure => simp only [intOf]; omega
    · have hxy2 : x = y := by omega
      subst hxy2
      by_cases hxl : x < fs.length
      · obtain ⟨b, off, cap', u, hva, hb, hp⟩ := (HV.out.now HG.out).at x hxl
        cases hva
        obtain ⟨pv, pd⟩ := u
        have y0 := hp.n; have y1 := hp.d; have y2 := hp.s
        have HCm := hide (fun (w' : World) (g : wr.grownBy w' none) => compareName_any pv pd (.slice na n.length ncap) fs[x].s fs[x].n n w' ((hp.rn.keep g).wideF g.size) hp.sn (((HN.out.keep HG.out).keep g).wideF (Nat.le_trans HG.out.size g.size)) (HD.out.byt _ (List.getElem_mem hxl)).1 HB.out)
        obtain ⟨pa, pcap, hpv, hq1, hq2⟩ := hp.sn
        obtain ⟨qa, qcap, hqv, hr1, hr2⟩ := hp.sd
        simp only at hpv hqv
        subst hpv hqv
        clear hp
        have hxi : (x : Int) < fs.length := by omega
        have HP : Hid (Pos fs n x) := ⟨hyl, HL.out, HH.out⟩
        by_cases hc : cmpB fs[x].n n = 0
        · have HF : Hid (decide (∃ hi : x < fs.length, fs[x].n = n) = true) := by
            unfold Hid; rw [decide_eq_true_eq]; exact ⟨hxl, (cmpB_eq _ _).1 hc⟩
          rw [hc] at HCm
          clear hc
          go_wp2_with fail
          refine (HCm.out _ (World.grownBy.refl _ _)).mono ?_
          rintro e w1 ⟨rfl, g⟩
          go_wp2
          go_ret2
          exact ⟨x, by rw [HF.out]; rfl, HP.out, grown_trans HG.out g⟩
        · have HF : Hid (decide (∃ hi : x < fs.length, fs[x].n = n) = false) := by
            unfold Hid; rw [decide_eq_false_iff_not]; rintro ⟨_, e⟩; exact hc ((cmpB_eq _ _).2 e)
          generalize cmpB fs[x].n n = c at *
          go_wp2_with fail
          refine (HCm.out _ (World.grownBy.refl _ _)).mono ?_
          rintro e w1 ⟨rfl, g⟩
          go_wp2
          go_ret2
          exact ⟨x, by rw [HF.out, ← decide_eq_false hc]; rfl, HP.out, grown_trans HG.out g⟩
      · have HP : Hid (Pos fs n x) := ⟨hyl, HL.out, HH.out⟩
        have HF : Hid (decide (∃ hi : x < fs.length, fs[x].n = n) = false) := by
          unfold Hid; rw [decide_eq_false_iff_not]; rintro ⟨e, _⟩; omega
        go_wp2
        go_ret2
        exact ⟨x, by rw [HF.out]; rfl, HP.out, HG.out⟩

end Go.Proofs.YtakkdniikhgpdaaGreatDoor

namespace Go.Proofs.YtakkdniikhgpdaaGreatDoor
open Go.RowKit

/-- What find answers. -/
inductive Found (fs : List Fl) (n : List Int) (a0 a1 : Addr) : Value → Prop
  | bad : nameOK n = false → Found fs n a0 a1 (.tuple #[.int .i64 0, Er a0])
  | none (i : Nat) : nameOK n = true → Pos fs n i → findF fs n = none → Found fs n a0 a1 (.tuple #[.int .i64 i, Er a1])
  | yes (i : Nat) (hi : i < fs.length) : nameOK n = true → Pos fs n i → fs[i].n = n → findF fs n = some fs[i] → Found fs n a0 a1 (.tuple #[.int .i64 i, .nilIface])

set_option maxHeartbeats 4000000 in
set_option maxRecDepth 100000 in
theorem find_any (h : Nat) (v nv : Value) (fs : List Fl) (n : List Int) (a0 a1 a2 : Addr) (w : World) (hc : w.cell? ⟨h, 0, none⟩ = some v) (hv : RdF w.heap.size w v fs) (hd : Fss fs) (hval : validF fs = true) (hn : RdB w.heap.size w nv n) (hs : Sl nv n.length) (hb : Byt n) (he : Errs w a0 a1 a2) :
    Calls Tryz.prog 50 #[.pointer (some ⟨h, 0, none⟩), nv] w fun e w' => ∃ u, e = .returned u ∧ Found fs n a0 a1 u ∧ w.grownBy w' none := by
  obtain ⟨na, ncap, hnv0, hn1, hn2⟩ := id hs
  unfold maxLen at hn2
  have HNm := hide (fun w => canBeName_any na n ncap w (by omega))
  obtain ⟨a, cap, hv0, _⟩ := id hv
  by_cases hok : nameOK n = true
  · rw [hok] at HNm
    have HBn := hide (binary_any v nv fs n w hv hd hval hn hs hb)
    have HVl := hide hval
    have HE := hide he
    subst hnv0 hv0
    clear hv hn hs hval he hd hb
    go_enter Tryz.func50, Tryz.ntmps50
    go_wp2_with fail
    refine (HNm.out _).mono ?_; rintro e w1 ⟨rfl, rfl⟩
    go_wp2_with fail
    refine HBn.out.mono ?_
    rintro e w1 ⟨i, rfl, hp, g⟩
    have HG := hide g
    have HP := hide hp
    have he1 := (HE.out.keep g).g1
    by_cases hf : ∃ hi : i < fs.length, fs[i].n = n
    · have HF : Hid (Found fs n a0 a1 (.tuple #[.int .i64 i, .nilIface])) := by
        obtain ⟨hi, e⟩ := hf
        exact .yes i hi hok hp e (pos_find hp hi e)
      rw [decide_eq_true hf]
      clear hf hp g
      go_wp2
      go_ret2
      exact ⟨_, rfl, HF.out, HG.out⟩
    · have HF : Hid (Found fs n a0 a1 (.tuple #[.int .i64 i, Er a1])) := .none i hok hp (pos_none HVl.out hp (fun hi e => hf ⟨hi, e⟩))
      rw [decide_eq_false hf]
      clear hf hp g
      go_wp2
      go_quiet (fail)
      go_wp2
      go_ret2
      exact ⟨_, rfl, HF.out, grown_drewN HG.out _⟩
  · have HF : Hid (Found fs n a0 a1 (.tuple #[.int .i64 0, Er a0])) := .bad (by simpa using hok)
    rw [show nameOK n = false by simpa using hok] at HNm
    have he0 := he.g0
    subst hnv0 hv0
    clear hv hn hs hval he hd hb
    go_enter Tryz.func50, Tryz.ntmps50
    go_wp2_with fail
    refine (HNm.out _).mono ?_; rintro e w1 ⟨rfl, rfl⟩
    go_wp2
    go_quiet (fail)
    go_wp2
    go_ret2
    exact ⟨_, rfl, HF.out, grown_drewN (World.grownBy.refl _ _) _⟩

end Go.Proofs.YtakkdniikhgpdaaGreatDoor

