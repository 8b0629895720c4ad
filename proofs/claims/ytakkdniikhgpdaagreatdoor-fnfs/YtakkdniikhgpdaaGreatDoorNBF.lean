import Derived.Shelf.Spec.SlicesInsertGrow
import Derived.Deep.RegionLaw
import Derived.Lib.SliceRun
import Derived.Deep.LoopGhost
import Derived.Lib.SlicesDelete
import Derived.Test.YtakkdniikhgpdaaGreatDoorNBE
namespace Go.Proofs.YtakkdniikhgpdaaGreatDoor
open Go.RowKit
attribute [-go_sem] Builtin.append_

/-- What slices.Insert leaves: the row with one element more. -/
def Ins (B : Nat) (w : World) (v : Value) (n i : Nat) (xs : List Value) (e0 e1 e2 : Value) (e : Ending) (w' : World) : Prop :=
  ∃ v', e = .returned v' ∧ w'.ownsRow B 45 3 v' (n + 1) (xs.take (i * 3) ++ ([e0, e1, e2] ++ xs.drop (i * 3))) ∧ w.grownBy w' v.ownBlock ∧ (v'.ownBlock = v.ownBlock ∨ ∃ k, v'.ownBlock = some k ∧ w.heap.size ≤ k) ∧ ∃ a c, v' = .slice a (n + 1) c

theorem three_at {w : World} {vb : Nat} {e0 e1 e2 : Value} (h : w.heap[vb]? = some (.cells #[e0, e1, e2] 45 (0, 0))) : ∀ j u, ([e0, e1, e2] : List Value)[j]? = some u → w.cell? ((⟨vb, 0, none⟩ : Addr).add j) = some u := by
  intro j u hj
  rw [Addr.add_lit, Nat.zero_add, cell_of_row w vb j _ _ (0, 0) h]
  simpa using hj

set_option maxHeartbeats 4000000 in
set_option maxRecDepth 100000 in
/-- At the end. -/
theorem insert_end (v : Value) (n vb : Nat) (xs : List Value) (e0 e1 e2 : Value) (B : Nat) (w : World) (ho : w.ownsRow B 45 3 v n xs) (hn : n ≤ 100) (hvb : w.heap[vb]? = some (.cells #[e0, e1, e2] 45 (0, 0))) (hB : B ≤ w.heap.size) (h2 : ∀ u ∈ [e0, e1, e2], u.oneCell' = true) :
    Calls Tryz.prog 127 #[v, .int .i64 n, .slice (some ⟨vb, 0, none⟩) 1 1] w fun e w' => Ins B w v n n xs e0 e1 e2 e w' := by
  obtain ⟨i0, hi, hz0, hz1, hz2⟩ := info_parts infoFl
  obtain ⟨v', w', hrun, h3, h4, _, h5⟩ := run_append_own_at (P := Tryz.prog) w B 23 23 45 i0 (.agg #[.slice none 0 0, .slice none 0 0, .int .i64 0]) 3 56 Tryz.underlying23 hi hz0 hz1 hz2 rfl (by decide) v n xs ho ⟨vb, 0, none⟩ 1 1 [e0, e1, e2] rfl (three_at hvb) h2 (by unfold maxLen; omega) (by omega) hB
  have HE : Hid (Ins B w v n n xs e0 e1 e2 (.returned v') w') := by
    refine ⟨v', rfl, ?_, h4, ?_, ?_⟩
    · rw [List.take_of_length_le (by rw [ho.1]; omega), List.drop_eq_nil_of_le (by rw [ho.1]; omega), List.append_nil]
      exact h3
    · rcases h5 with h | h
      · exact .inl h
      · exact .inr ⟨_, h, Nat.le_refl _⟩
    · rcases h3.2 with ⟨hv, hn⟩ | ⟨g, cap, cur, hv, _⟩
      · omega
      · exact ⟨_, cap, hv⟩
  rcases ho.2 with ⟨rfl, rfl⟩ | ⟨g, cap, cur, rfl, _, _, hnc, hcm, _⟩
  · clear ho h3 h4 h5 hvb
    go_enter Tryz.func127, Tryz.ntmps127
    go_wp2
    go_ret
    exact HE.out
  · unfold maxLen at hcm
    clear ho h3 h4 h5 hvb
    go_enter Tryz.func127, Tryz.ntmps127
    go_wp2
    all_goals (go_ret; exact HE.out)

theorem set_ins {xs sp : List Value} {n i : Nat} (hl : xs.length = n * 3) (hi : i < n) (hs : sp.length = 3) (e0 e1 e2 : Value) :
    setL (setL (xs ++ sp) ((i + 1) * 3) (xs.drop (i * 3))) (i * 3) [e0, e1, e2] = xs.take (i * 3) ++ ([e0, e1, e2] ++ xs.drop (i * 3)) := by
  have h1 : xs ++ sp = xs.take ((i + 1) * 3) ++ ((xs.drop ((i + 1) * 3) ++ sp) ++ []) := by rw [List.append_nil, ← List.append_assoc, List.take_append_drop]
  have l1 : (xs.take ((i + 1) * 3)).length = (i + 1) * 3 := by rw [List.length_take, hl]; omega
  have h2 := setL_mid (a := xs.take ((i + 1) * 3)) (b := xs.drop ((i + 1) * 3) ++ sp) (c := xs.drop (i * 3)) (d := []) (by rw [List.length_append, List.length_drop, List.length_drop, hl, hs]; omega)
  rw [l1] at h2
  rw [h1, h2, List.append_nil]
  have h3 : xs.take ((i + 1) * 3) = xs.take (i * 3) ++ (xs.drop (i * 3)).take 3 := by rw [Nat.succ_mul, List.take_add]
  have l3 : (xs.take (i * 3)).length = i * 3 := by rw [List.length_take, hl]; omega
  have h4 := setL_mid (a := xs.take (i * 3)) (b := (xs.drop (i * 3)).take 3) (c := [e0, e1, e2]) (d := xs.drop (i * 3)) (by rw [List.length_take, List.length_drop, hl]; simp; omega)
  rw [l3] at h4
  rw [h3, List.append_assoc, h4]

set_option maxHeartbeats 4000000 in
set_option maxRecDepth 100000 in
/-- Between, and there is room. -/
theorem insert_shift (g n cap i vb : Nat) (xs : List Value) (e0 e1 e2 : Value) (B : Nat) (w : World) (ho : w.ownsRow B 45 3 (.slice (some ⟨g, 0, none⟩) n cap) n xs) (hi : i < n) (hn : n ≤ 100) (hc : n + 1 ≤ cap) (hvb : w.heap[vb]? = some (.cells #[e0, e1, e2] 45 (0, 0))) (hne : vb ≠ g) (h1 : ∀ u ∈ xs, u.oneCell' = true) (h2 : ∀ u ∈ [e0, e1, e2], u.oneCell' = true) :
    Calls Tryz.prog 127 #[.slice (some ⟨g, 0, none⟩) n cap, .int .i64 i, .slice (some ⟨vb, 0, none⟩) 1 1] w fun e w' => Ins B w (.slice (some ⟨g, 0, none⟩) n cap) n i xs e0 e1 e2 e w' := by
  obtain ⟨sp, hsp, hom⟩ := own_more ho hc
  obtain ⟨_, hcm, _, hgl⟩ := own_cap ho
  unfold maxLen at hcm
  have hxl := ho.1
  have hov : ∀ lb cb, (callFunc 128 #[.slice (some ⟨vb, 0, none⟩) 1 1, .slice (some ⟨g, (i + 1) * 3, none⟩) lb cb]).run Tryz.prog w = .ok (.value (.bool false)) w := fun lb cb => by
    rw [run_callFunc_extern Tryz.func128 (by kernel_rfl) (by kernel_rfl) (by kernel_rfl) (e := Extern.SlicesOverlaps.overlaps #[23, 23] #[4]) (by kernel_rfl),
      Lib.run_overlaps_apart w 23 4 45 Tryz.underlying23 3 (fun w => by kernel_rfl) ⟨vb, 0, none⟩ ⟨g, (i + 1) * 3, none⟩ 1 1 lb cb hne 45 45 3 (cap * 3) (by unfold World.shape?; rw [hvb]; rfl) (own_shape ho) (by omega) (frozen_of_row w vb 0 _ _ hvb) (frozen_of_row w vb 3 _ _ hvb)]
    rfl
  have hdl : (xs.drop (i * 3)).length = (n - i) * 3 := by rw [List.length_drop, hxl]; omega
  have hcp1 : ∀ ty dc sc, (Builtin.copy_ #[23, 23] ty #[.slice (some ⟨g, (i + 1) * 3, none⟩) (n - i) dc, .slice (some ⟨g, i * 3, none⟩) (n + 1 - i) sc]).run Tryz.prog w.drew = .ok (goInt (Nat.min (n + 1 - i) (n - i))) (w.drew.setCells g ((i + 1) * 3) (xs.drop (i * 3))) := fun ty dc sc =>
    run_copy3 w.drew ty g ((i + 1) * 3) (n - i) dc ⟨g, i * 3, none⟩ (n + 1 - i) sc (xs.drop (i * 3)) (by rw [hdl]; simp only [Nat.min_def]; split <;> omega)
      (fun j v hj => by
        rw [Addr.add_lit]
        show w.cell? _ = _
        have hj2 := (List.getElem?_eq_some_iff.1 hj).1
        rw [World.ownsRow.cellAt ho _ (by omega), ← hj, List.getElem?_drop])
      (fun j hj => own_some (w := w) hom _ (by omega)) (fun j hj => World.ownsRow.frozenAt ho _) (fun v hv => h1 v (List.mem_of_mem_drop hv))
  obtain ⟨W1, hW1⟩ : ∃ W1, W1 = w.drew.setCells g ((i + 1) * 3) (xs.drop (i * 3)) := ⟨_, rfl⟩
  have o1 := own_sets (xs.drop (i * 3)) ((i + 1) * 3) (w := w.drew) (show w.drew.ownsRow B 45 3 _ (n + 1) _ from hom)
  rw [← hW1] at o1 hcp1
  have hvb1 : W1.heap[vb]? = some (.cells #[e0, e1, e2] 45 (0, 0)) := by
    rw [o1.2.block vb (by have := (Array.getElem?_eq_some_iff.1 hvb).1; exact this) (by simpa using hne)]
    exact hvb
  have hcp2 : ∀ (W : World), (∀ x, W.cell? x = W1.cell? x) → (∀ x, W.frozen? x = W1.frozen? x) → ∀ ty dc, (Builtin.copy_ #[23, 23] ty #[.slice (some ⟨g, i * 3, none⟩) (n + 1 - i) dc, .slice (some ⟨vb, 0, none⟩) 1 1]).run Tryz.prog W = .ok (goInt (Nat.min 1 (n + 1 - i))) (W.setCells g (i * 3) [e0, e1, e2]) := fun W hWc hWf ty dc =>
    run_copy3 W ty g (i * 3) (n + 1 - i) dc ⟨vb, 0, none⟩ 1 1 [e0, e1, e2] (by simp only [Nat.min_def]; split <;> simp <;> omega)
      (fun j v hj => by rw [hWc]; exact three_at hvb1 j v hj)
      (fun j hj => by rw [hWc]; exact own_some o1.1 _ (by simp at hj; omega)) (fun j hj => by rw [hWf]; exact World.ownsRow.frozenAt o1.1 _) h2
  have HE : Hid (∀ W : World, W.heap = W1.heap → W.os = W1.os → W.tape = W1.tape → W.output = W1.output → Ins B w (.slice (some ⟨g, 0, none⟩) n cap) n i xs e0 e1 e2 (.returned (.slice (some ⟨g, 0, none⟩) (n + 1) cap)) (W.setCells g (i * 3) [e0, e1, e2])) := fun W e1' e2' e3' e4' => by
    have oW : W.ownsRow B 45 3 (.slice (some ⟨g, 0, none⟩) (n + 1) cap) (n + 1) (setL (xs ++ sp) ((i + 1) * 3) (xs.drop (i * 3))) := by
      have := o1.1
      unfold World.ownsRow at this ⊢
      rw [e1']
      exact this
    have o2 := own_sets [e0, e1, e2] (i * 3) oW
    refine ⟨_, rfl, ?_, ?_, .inl rfl, _, _, rfl⟩
    · rw [← set_ins hxl hi hsp]
      exact o2.1
    · have gW : w.grownBy W (some g) := ⟨e2'.trans o1.2.os, e3'.trans o1.2.tape, e4'.trans o1.2.output, by rw [e1']; exact o1.2.size, fun k a b => by rw [e1']; exact o1.2.block k a b⟩
      exact grown_trans gW o2.2
  have hw1 : IntKind.i64.wrap ((i : Int) + 1) = (i : Int) + 1 := by rw [IntKind.wrap_i64]; omega
  have mixed : Tryz.prog.follows .mixedOrders = true := by kernel_rfl
  have hb1 : (0 : Int) ≤ (i : Int) + 1 := by omega
  have hin : i ≤ n := by omega
  have htn : ((i : Int) + 1).toNat = i + 1 := by omega
  have hb2 : ¬ (cap = i + 1) := by omega
  have hb3 : (i : Int) ≤ (n : Int) + 1 := by omega
  have hb4 : ¬ (cap = i) := by omega
  have hb5 : (i : Int) + 1 ≤ (n : Int) + 1 := by omega
  clear ho hom o1 hvb hvb1 hW1
  go_enter Tryz.func127, Tryz.ntmps127
  go_wp2_with (simp only [hov])
  go_region_law_o (refine step_copy_runI rfl _ _ 23 23 rfl _ _ (by simp [Act.eval, Act.put]) (by simp [Act.eval, Act.put]) (hcp1 _ _ _) ?_)
  go_wp2_with (at_builtin; refine wpList_copy_runI _ rfl _ _ 23 23 rfl _ _ rfl rfl (hcp2 _ (fun _ => rfl) (fun _ => rfl) _ _) ?_)
  go_ret
  exact HE.out _ rfl rfl rfl rfl

theorem grown_anyF {a b : World} {r : Option Nat} (g : a.grownBy b none) : a.grownBy b r := ⟨g.os, g.tape, g.output, g.size, fun k hk _ => g.block k hk (by simp)⟩
theorem set_grow {xs Z : List Value} {n i : Nat} (hl : xs.length = n * 3) (hi : i < n) (hz : Z.length = (n + 1 - i) * 3) (e0 e1 e2 : Value) :
    setL (setL (xs.take (i * 3) ++ Z) (i * 3) [e0, e1, e2]) ((i + 1) * 3) (xs.drop (i * 3)) = xs.take (i * 3) ++ ([e0, e1, e2] ++ xs.drop (i * 3)) := by
  have l3 : (xs.take (i * 3)).length = i * 3 := by rw [List.length_take, hl]; omega
  have h4 := setL_mid (a := xs.take (i * 3)) (b := Z.take 3) (c := [e0, e1, e2]) (d := Z.drop 3) (by rw [List.length_take, hz]; simp; omega)
  rw [l3, List.take_append_drop] at h4
  rw [h4]
  have l5 : (xs.take (i * 3) ++ [e0, e1, e2]).length = (i + 1) * 3 := by rw [List.length_append, l3]; simp; omega
  have h5 := setL_mid (a := xs.take (i * 3) ++ [e0, e1, e2]) (b := Z.drop 3) (c := xs.drop (i * 3)) (d := []) (by rw [List.length_drop, List.length_drop, hz, hl]; omega)
  rw [l5, List.append_nil, List.append_nil, List.append_assoc, List.append_assoc] at h5
  exact h5

set_option maxHeartbeats 4000000 in
set_option maxRecDepth 100000 in
/-- Between, and there is no room: a new row. -/
theorem insert_grow (g n cap i vb : Nat) (xs : List Value) (e0 e1 e2 : Value) (B : Nat) (w : World) (ho : w.ownsRow B 45 3 (.slice (some ⟨g, 0, none⟩) n cap) n xs) (hi : i < n) (hn : n ≤ 100) (hc : cap < n + 1) (hvb : w.heap[vb]? = some (.cells #[e0, e1, e2] 45 (0, 0))) (hB : B ≤ w.heap.size) (h1 : ∀ u ∈ xs, u.oneCell' = true) (h2 : ∀ u ∈ [e0, e1, e2], u.oneCell' = true) :
    Calls Tryz.prog 127 #[.slice (some ⟨g, 0, none⟩) n cap, .int .i64 i, .slice (some ⟨vb, 0, none⟩) 1 1] w fun e w' => Ins B w (.slice (some ⟨g, 0, none⟩) n cap) n i xs e0 e1 e2 e w' := by
  obtain ⟨hnc, hcm, hBg, hgl⟩ := own_cap ho
  unfold maxLen at hcm
  have hxl := ho.1
  obtain ⟨i0, hi0, hz0, hzs, hzb⟩ := info_parts infoFl
  have mixed : Tryz.prog.follows .mixedOrders = true := by kernel_rfl
  have hvw : vb < w.heap.size := (Array.getElem?_eq_some_iff.1 hvb).1
  have hkk : (n : Int) + 1 - (i : Int) = ((n + 1 - i : Nat) : Int) := by omega
  have hik : i + (n + 1 - i) = n + 1 := by omega
  have hold : (Builtin.firstCells i0.size i (.slice (some ⟨g, 0, none⟩) i cap)).run Tryz.prog w.drew = .ok (xs.take (i * 3)).toArray w.drew := by
    rw [hzs]
    exact run_firstCells_some w.drew 3 i ⟨g, 0, none⟩ i cap (xs.take (i * 3)) (by rw [List.length_take]; omega) (fun j v hj => by
      rw [Addr.add_lit, Nat.zero_add]
      rw [List.getElem?_take] at hj
      split at hj
      · show w.cell? _ = _
        rw [World.ownsRow.cellAt ho j (by omega)]
        exact hj
      · cases hj)
  obtain ⟨G, hG⟩ : ∃ G, G = grownCap w (n + 1) cap 45 := ⟨_, rfl⟩
  have hrz : ∀ ty, (Builtin.append_ #[23, 3] ty #[.slice (some ⟨g, 0, none⟩) i cap, .int .i64 ((n : Int) + 1 - (i : Int))]).run Tryz.prog w =
      .ok (.slice (some ⟨w.heap.size, 0, none⟩) (n + 1) G) (w.drew.alloc (.cells ((xs.take (i * 3)).toArray ++ Builtin.zeroCells (Value.agg #[.slice none 0 0, .slice none 0 0, .int .i64 0]).cells (n + 1 - i) ++ Builtin.zeroCells (Value.agg #[.slice none 0 0, .slice none 0 0, .int .i64 0]).cells (G - (n + 1))) 45)) := fun ty => by
    have h := Lib.run_append_grow_zeros w 23 3 ty 45 i0 _ .i64 .i64 Tryz.underlying23 Tryz.underlying3 hi0 hz0 (some ⟨g, 0, none⟩) i cap (xs.take (i * 3)) hold (n + 1 - i) (by omega) (by omega) (by omega) (by omega) (by rw [hzb]; omega) (by rw [hzb, hik]; exact growslice_fits hc (by omega))
    rw [hik] at h
    rw [hkk, hG]
    exact h
  obtain ⟨ROW, hROW⟩ : ∃ ROW : Array Value, ROW = (xs.take (i * 3)).toArray ++ Builtin.zeroCells (Value.agg #[.slice none 0 0, .slice none 0 0, .int .i64 0]).cells (n + 1 - i) ++ Builtin.zeroCells (Value.agg #[.slice none 0 0, .slice none 0 0, .int .i64 0]).cells (G - (n + 1)) := ⟨_, rfl⟩
  rw [← hROW] at hrz
  have hGn : n + 1 ≤ G := by rw [hG]; exact grownCap_ge w _ _ _
  have hG63 : G ≤ maxLen := by
    rw [hG]
    exact grownCap_le_maxLen w (n + 1) cap 45 (by unfold maxLen; omega)
  have hzl : ∀ k, (Builtin.zeroCells (Value.agg #[.slice none 0 0, .slice none 0 0, .int .i64 0]).cells k).size = k * 3 := fun k => by simp [Builtin.zeroCells, Value.cells]
  have hRs : ROW.size = G * 3 := by rw [hROW, Array.size_append, Array.size_append, hzl, hzl, List.size_toArray, List.length_take, hxl]; omega
  have oR : (w.drew.alloc (.cells ROW 45)).ownsRow B 45 3 (.slice (some ⟨w.heap.size, 0, none⟩) G G) G ROW.toList := World.ownsRow_lit w.drew ROW G hB hG63 hRs
  obtain ⟨Z, hZl, hZ⟩ : ∃ Z : List Value, Z.length = (n + 1 - i) * 3 ∧ ROW.toList.take ((n + 1) * 3) = xs.take (i * 3) ++ Z := by
    refine ⟨(Builtin.zeroCells (Value.agg #[.slice none 0 0, .slice none 0 0, .int .i64 0]).cells (n + 1 - i)).toList, by rw [Array.length_toList, hzl], ?_⟩
    rw [hROW, Array.toList_append, Array.toList_append, List.take_append_of_le_length (by rw [List.length_append, Array.length_toList, Array.length_toList, hzl]; simp [hxl]; omega), List.take_of_length_le (by rw [List.length_append, Array.length_toList, Array.length_toList, hzl]; simp [hxl]; omega)]
  have o0 := own_less oR hGn
  rw [hZ] at o0
  obtain ⟨W1, hW1⟩ : ∃ W1, W1 = w.drew.alloc (.cells ROW 45) := ⟨_, rfl⟩
  rw [← hW1] at hrz o0
  have g1 : w.grownBy W1 none := by rw [hW1]; exact grown_trans (show w.grownBy w.drew none from ⟨rfl, rfl, rfl, Nat.le_refl _, fun _ _ _ => rfl⟩) (World.grownBy_alloc w.drew _ none)
  have hvb1 : W1.heap[vb]? = some (.cells #[e0, e1, e2] 45 (0, 0)) := by rw [g1.block vb hvw (by simp)]; exact hvb
  have o1 := own_sets [e0, e1, e2] (i * 3) o0
  have oG : W1.ownsRow B 45 3 (.slice (some ⟨g, 0, none⟩) n cap) n xs := World.ownsRow.kept ho g1 (.inr (by simp [Value.ownBlock]))
  have oG1 : (W1.setCells w.heap.size (i * 3) [e0, e1, e2]).ownsRow B 45 3 (.slice (some ⟨g, 0, none⟩) n cap) n xs := World.ownsRow.kept oG o1.2 (.inr (by simp [Value.ownBlock]; omega))
  have hdl : (xs.drop (i * 3)).length = (n - i) * 3 := by rw [List.length_drop, hxl]; omega
  have hcpA : ∀ (W : World), (∀ x, W.cell? x = W1.cell? x) → (∀ x, W.frozen? x = W1.frozen? x) → ∀ ty dc, (Builtin.copy_ #[23, 23] ty #[.slice (some ⟨w.heap.size, i * 3, none⟩) (n + 1 - i) dc, .slice (some ⟨vb, 0, none⟩) 1 1]).run Tryz.prog W = .ok (goInt (Nat.min 1 (n + 1 - i))) (W.setCells w.heap.size (i * 3) [e0, e1, e2]) := fun W hWc hWf ty dc =>
    run_copy3 W ty w.heap.size (i * 3) (n + 1 - i) dc ⟨vb, 0, none⟩ 1 1 [e0, e1, e2] (by simp only [Nat.min_def]; split <;> simp <;> omega)
      (fun j v hj => by rw [hWc]; exact three_at hvb1 j v hj)
      (fun j hj => by rw [hWc]; exact own_some o0 _ (by simp at hj; omega)) (fun j hj => by rw [hWf]; exact World.ownsRow.frozenAt o0 _) h2
  have hcpB : ∀ (W : World), (∀ x, W.cell? x = (W1.setCells w.heap.size (i * 3) [e0, e1, e2]).cell? x) → (∀ x, W.frozen? x = (W1.setCells w.heap.size (i * 3) [e0, e1, e2]).frozen? x) → ∀ ty dc sc, (Builtin.copy_ #[23, 23] ty #[.slice (some ⟨w.heap.size, (i + 1) * 3, none⟩) (n - i) dc, .slice (some ⟨g, i * 3, none⟩) (n - i) sc]).run Tryz.prog W = .ok (goInt (Nat.min (n - i) (n - i))) (W.setCells w.heap.size ((i + 1) * 3) (xs.drop (i * 3))) := fun W hWc hWf ty dc sc =>
    run_copy3 W ty w.heap.size ((i + 1) * 3) (n - i) dc ⟨g, i * 3, none⟩ (n - i) sc (xs.drop (i * 3)) (by rw [hdl]; simp only [Nat.min_def]; split <;> omega)
      (fun j v hj => by
        have hj2 := (List.getElem?_eq_some_iff.1 hj).1
        rw [Addr.add_lit, hWc, World.ownsRow.cellAt oG1 _ (by omega), ← hj, List.getElem?_drop])
      (fun j hj => by rw [hWc]; exact own_some o1.1 _ (by omega)) (fun j hj => by rw [hWf]; exact World.ownsRow.frozenAt o1.1 _) (fun v hv => h1 v (List.mem_of_mem_drop hv))
  have HE : Hid (∀ W : World, W.heap = (W1.setCells w.heap.size (i * 3) [e0, e1, e2]).heap → W.os = W1.os → W.tape = W1.tape → W.output = W1.output → Ins B w (.slice (some ⟨g, 0, none⟩) n cap) n i xs e0 e1 e2 (.returned (.slice (some ⟨w.heap.size, 0, none⟩) (n + 1) G)) (W.setCells w.heap.size ((i + 1) * 3) (xs.drop (i * 3)))) := fun W e1' e2' e3' e4' => by
    have oW : W.ownsRow B 45 3 (.slice (some ⟨w.heap.size, 0, none⟩) (n + 1) G) (n + 1) (setL (xs.take (i * 3) ++ Z) (i * 3) [e0, e1, e2]) := by
      have := o1.1
      unfold World.ownsRow at this ⊢
      rw [e1']
      exact this
    have o2 := own_sets (xs.drop (i * 3)) ((i + 1) * 3) oW
    have gW : W1.grownBy W (some w.heap.size) := ⟨e2', e3', e4', by rw [e1']; exact o1.2.size, fun k a b => by rw [e1']; exact o1.2.block k a b⟩
    have g3 := grown_new g1 (grown_trans gW o2.2) (fun j e => by cases e; exact Nat.le_refl _)
    refine ⟨_, rfl, ?_, grown_anyF g3, .inr ⟨_, rfl, Nat.le_refl _⟩, _, _, rfl⟩
    rw [← set_grow hxl hi hZl]
    exact o2.1
  have hz3 : (cap : Int) < (n : Int) + 1 := by omega
  have hw1 : IntKind.i64.wrap ((i : Int) + 1) = (i : Int) + 1 := by rw [IntKind.wrap_i64]; omega
  have hb1 : (0 : Int) ≤ (i : Int) + 1 := by omega
  have hin : i ≤ n := by omega
  have htn : ((i : Int) + 1).toNat = i + 1 := by omega
  have hb3 : (i : Int) ≤ (n : Int) := by omega
  have hGi : ¬ (G = i) := by omega
  have hGim : ¬ (G = i + 1) := by omega
  have hci : ¬ (cap = i) := by omega
  have hb5 : (i : Int) + 1 ≤ (n : Int) + 1 := by omega
  have hb6 : (i : Int) ≤ (n : Int) + 1 := by omega
  subst hW1
  unfold maxLen at hG63
  have hE1 : ∀ x, ((w.alloc (.cells ROW 45)).drew).cell? x = (w.drew.alloc (.cells ROW 45)).cell? x := fun x => rfl
  have hE2 : ∀ x, ((w.alloc (.cells ROW 45)).drew).frozen? x = (w.drew.alloc (.cells ROW 45)).frozen? x := fun x => rfl
  have hF1 : ∀ x, (((w.alloc (.cells ROW 45)).drew.setCells w.heap.size (i * 3) [e0, e1, e2]).drew).cell? x = ((w.drew.alloc (.cells ROW 45)).setCells w.heap.size (i * 3) [e0, e1, e2]).cell? x := fun x => rfl
  have hF2 : ∀ x, (((w.alloc (.cells ROW 45)).drew.setCells w.heap.size (i * 3) [e0, e1, e2]).drew).frozen? x = ((w.drew.alloc (.cells ROW 45)).setCells w.heap.size (i * 3) [e0, e1, e2]).frozen? x := fun x => rfl
  clear hkk hik hold hROW hG hRs oR hZ o0 o1 oG oG1 g1 hvb1 hvb ho
  go_enter Tryz.func127, Tryz.ntmps127
  go_wp2_with (first
    | (at_builtin; refine Lib.wpList_append_run _ rfl _ _ _ _ rfl _ _ rfl rfl _ _ (hrz _) ?_)
    | (at_builtin; refine wpList_copy_runI _ rfl _ _ 23 23 rfl _ _ rfl rfl (hcpA _ hE1 hE2 _ _) ?_)
    | (at_builtin; refine wpList_copy_runI _ rfl _ _ 23 23 rfl _ _ rfl rfl (hcpB _ (fun _ => rfl) (fun _ => rfl) _ _ _) ?_))
  go_region_law_o (refine step_copy_runI rfl _ _ 23 23 rfl (.slice (some ⟨w.heap.size, (i + 1) * 3, none⟩) (n - i) (G - (i + 1))) (.slice (some ⟨g, i * 3, none⟩) (n - i) (cap - i)) (by simp [Act.eval, Act.put]) (by simp [Act.eval, Act.put]) (hcpB _ hF1 hF2 3 (G - (i + 1)) (cap - i)) ?_)
  go_wp2
  go_ret
  exact HE.out _ rfl rfl rfl rfl
end Go.Proofs.YtakkdniikhgpdaaGreatDoor

namespace Go.Proofs.YtakkdniikhgpdaaGreatDoor
open Go.RowKit
attribute [-go_sem] Builtin.append_

theorem run_clear3 (w : World) (ty g o c : Nat) (hc : ∀ j, j < 3 → (w.cell? ⟨g, o + j, none⟩).isSome = true) (hf : ∀ j, j < 3 → w.frozen? ⟨g, o + j, none⟩ = false) :
    (Builtin.clear_ #[23] ty #[.slice (some ⟨g, o, none⟩) 1 c]).run Tryz.prog w = .ok (.tuple #[]) (w.setCells g o [.slice none 0 0, .slice none 0 0, .int .i64 0]) := by
  have hst := run_storeCells_cells (P := Tryz.prog) g o [.slice none 0 0, .slice none 0 0, .int .i64 0] 0 w (by simpa using hc) (by simpa using hf) (by intro v hv; simp at hv; rcases hv with rfl | rfl <;> rfl)
  simp only [Nat.add_zero] at hst
  obtain ⟨i0, hi0, hz0, hzs, hzb⟩ := info_parts infoFl
  have hz : (Builtin.zeroCells (Value.agg #[.slice none 0 0, .slice none 0 0, .int .i64 0]).cells 1).toList = [.slice none 0 0, .slice none 0 0, .int .i64 0] := by kernel_rfl
  simp [Builtin.clear_, run_underlying Tryz.underlying23, zeroValue, typeInfo, hi0, hz0, hz, hst]

theorem set_del {xs : List Value} {n i : Nat} (hl : xs.length = n * 3) (hi : i < n) (z : List Value) (hz : z.length = 3) :
    (setL (setL xs (i * 3) (xs.drop ((i + 1) * 3))) ((n - 1) * 3) z).take ((n - 1) * 3) = xs.take (i * 3) ++ xs.drop ((i + 1) * 3) := by
  have l1 : (xs.take (i * 3)).length = i * 3 := by rw [List.length_take, hl]; omega
  have l2 : (xs.drop ((i + 1) * 3)).length = (n - 1 - i) * 3 := by rw [List.length_drop, hl]; omega
  have l3 : (xs.drop (i * 3)).length = (n - i) * 3 := by rw [List.length_drop, hl]; omega
  have h1 := setL_mid (a := xs.take (i * 3)) (b := (xs.drop (i * 3)).take ((n - 1 - i) * 3)) (c := xs.drop ((i + 1) * 3)) (d := (xs.drop (i * 3)).drop ((n - 1 - i) * 3)) (by rw [List.length_take, l3, l2]; omega)
  rw [l1, List.take_append_drop, List.take_append_drop] at h1
  rw [h1]
  have l4 : (xs.take (i * 3) ++ xs.drop ((i + 1) * 3)).length = (n - 1) * 3 := by rw [List.length_append, l1, l2]; omega
  have h2 := setL_mid (a := xs.take (i * 3) ++ xs.drop ((i + 1) * 3)) (b := (xs.drop (i * 3)).drop ((n - 1 - i) * 3)) (c := z) (d := []) (by rw [List.length_drop, l3, hz]; omega)
  rw [l4, List.append_nil, List.append_nil, List.append_assoc] at h2
  rw [h2, ← l4, List.take_left]

set_option maxHeartbeats 4000000 in
set_option maxRecDepth 100000 in
theorem delete_any (g n cap i : Nat) (xs : List Value) (B : Nat) (w : World) (ho : w.ownsRow B 45 3 (.slice (some ⟨g, 0, none⟩) n cap) n xs) (hi : i < n) (hn : n ≤ 100) (h1 : ∀ u ∈ xs, u.oneCell' = true) :
    Calls Tryz.prog 125 #[.slice (some ⟨g, 0, none⟩) n cap, .int .i64 i, .int .i64 ((i : Int) + 1)] w fun e w' => e = .returned (.slice (some ⟨g, 0, none⟩) (n - 1) cap) ∧ w'.ownsRow B 45 3 (.slice (some ⟨g, 0, none⟩) (n - 1) cap) (n - 1) (xs.take (i * 3) ++ xs.drop ((i + 1) * 3)) ∧ w.grownBy w' (some g) := by
  obtain ⟨hnc, hcm, hBg, hgl⟩ := own_cap ho
  unfold maxLen at hcm
  have hxl := ho.1
  have mixed : Tryz.prog.follows .mixedOrders = true := by kernel_rfl
  obtain ⟨i0, hi0, hz0, hz1, hz2⟩ := info_parts infoFl
  obtain ⟨news, hnews⟩ : ∃ news, news = xs.drop ((i + 1) * 3) := ⟨_, rfl⟩
  have hlen : news.length = (n - (i + 1)) * 3 := by rw [hnews, List.length_drop, hxl]; omega
  obtain ⟨A, hA, hsrc⟩ : ∃ A : Addr, (if cap = i + 1 then some (⟨g, 0, none⟩ : Addr) else some ⟨g, (i + 1) * 3, none⟩) = some A ∧ Hid (∀ t u, news[t]? = some u → w.drew.cell? (A.add t) = some u) := by
    by_cases h : cap = i + 1
    · refine ⟨⟨g, 0, none⟩, by simp [h], fun t u hu => ?_⟩
      have h0 : news.length = 0 := by rw [hlen]; omega
      rw [List.length_eq_zero_iff.1 h0] at hu
      simp at hu
    · refine ⟨⟨g, (i + 1) * 3, none⟩, by simp [h], fun t u hu => ?_⟩
      have ht := (List.getElem?_eq_some_iff.1 hu).1
      rw [hlen] at ht
      rw [Addr.add_lit]
      show w.cell? _ = _
      rw [World.ownsRow.cellAt ho _ (by omega), ← hu, hnews, List.getElem?_drop]
  have s2 : Hid (∀ u ∈ news, u.oneCell' = true) := fun u hu => h1 u (by rw [hnews] at hu; exact List.mem_of_mem_drop hu)
  have s3 : Hid (∀ t, t < news.length → (w.drew.cell? ⟨g, 0 + i * 3 + t, none⟩).isSome = true ∧ w.drew.frozen? ⟨g, 0 + i * 3 + t, none⟩ = false) := fun t ht => ⟨own_some (w := w) ho _ (by omega), World.ownsRow.frozenAt (w := w) ho _⟩
  obtain ⟨W1, hW1⟩ : ∃ W1, W1 = w.drew.setCells g (0 + i * 3) news := ⟨_, rfl⟩
  have o1 := own_sets news (0 + i * 3) (w := w.drew) (show w.drew.ownsRow B 45 3 _ n xs from ho)
  rw [← hW1] at o1
  have hcl : ∀ ty c, (Builtin.clear_ #[23] ty #[.slice (some ⟨g, (i + (n - (i + 1))) * 3, none⟩) (n - (i + (n - (i + 1)))) c]).run Tryz.prog W1 = .ok (.tuple #[]) (W1.setCells g ((n - 1) * 3) [.slice none 0 0, .slice none 0 0, .int .i64 0]) := fun ty c => by
    have e1 : i + (n - (i + 1)) = n - 1 := by omega
    rw [e1, show n - (n - 1) = 1 by omega]
    exact run_clear3 W1 ty g ((n - 1) * 3) c (fun j hj => own_some o1.1 _ (by omega)) (fun j hj => World.ownsRow.frozenAt o1.1 _)
  have HE : Hid ((W1.setCells g ((n - 1) * 3) [.slice none 0 0, .slice none 0 0, .int .i64 0]).ownsRow B 45 3 (.slice (some ⟨g, 0, none⟩) (n - 1) cap) (n - 1) (xs.take (i * 3) ++ xs.drop ((i + 1) * 3)) ∧ w.grownBy (W1.setCells g ((n - 1) * 3) [.slice none 0 0, .slice none 0 0, .int .i64 0]) (some g)) := by
    have o2 := own_sets [.slice none 0 0, .slice none 0 0, .int .i64 0] ((n - 1) * 3) o1.1
    have o3 := own_less o2.1 (m := n - 1) (by omega)
    rw [Nat.zero_add, hnews, set_del hxl hi _ rfl] at o3
    exact ⟨o3, grown_trans (show w.grownBy W1 (some g) from ⟨o1.2.os, o1.2.tape, o1.2.output, o1.2.size, o1.2.block⟩) o2.2⟩
  have hW : Hid (W1 = w.drew.setCells g (0 + i * 3) news) := hW1
  have hic : i ≤ cap := by omega
  have hjc : i + 1 ≤ cap := by omega
  have hjn : (i : Int) + 1 ≤ (n : Int) := by omega
  have hij : (i : Int) ≤ (i : Int) + 1 := by omega
  have hne : ¬ ((i : Int) = (i : Int) + 1) := by omega
  have htn : ((i : Int) + 1).toNat = i + 1 := by omega
  have h0i : (0 : Int) ≤ (i : Int) + 1 := by omega
  have HL := hide hlen
  clear hW1 o1 ho hnews hlen
  go_enter Tryz.func125, Tryz.ntmps125
  go_wp2_with fail
  go_region_law_o (refine step_append_room rfl _ _ 23 rfl 45 i0 3 Tryz.underlying23 hi0 hz1 g 0 i cap (by simp [Act.eval, Act.put]) A (n - (i + 1)) (cap - (i + 1)) news (by simp [Act.eval, Act.put]) HL.out hsrc.out s2.out (by omega) s3.out ?_; rw [← hW.out])
  go_wp2
  go_ret
  exact ⟨by rw [show n - 1 = i + (n - (i + 1)) by omega]; rfl, HE.out⟩
end Go.Proofs.YtakkdniikhgpdaaGreatDoor

namespace Go.Proofs.YtakkdniikhgpdaaGreatDoor
open Go.RowKit

set_option maxHeartbeats 8000000 in
set_option maxRecDepth 100000 in
theorem afterCrash_any (v : Value) (fs : List Fl) (keep : Int) (ka a0 a1 a2 : Addr) (w : World) (hv : RdF w.heap.size w v fs) (hd : Fss fs) (hk2 : keep ≤ 9223372036854775807) (hka : w.cell? ka = some (.int .i64 keep)) (he : Errs w a0 a1 a2) :
    Calls Tryz.prog 26 #[.agg #[v], .func (.func 28) #[] #[.pointer (some ka)]] w fun e w' => ∃ v', e = .returned (.tuple #[.agg #[v'], .int .i64 (craC fs keep)]) ∧ OwF w.heap.size w' v' (craF fs keep) ∧ w.grownBy w' none := by
  obtain ⟨a, cap, hv0, _⟩ := id hv
  have HVa := hide (fun (w' : World) (g : w.grownBy w' none) => implValid_any v fs w' (hv.now g) hd)
  by_cases hval : validF fs = true
  · rw [hval] at HVa
    have HCp := hide (fun (w' : World) (g : w.grownBy w' none) => copyFiles_any v fs w' (hv.now g) hd)
    have HE := hide he
    have HKA := hide hka
    have HVl := hide hval
    have HD := hide hd
    subst hv0
    clear hv hval he hd hka
    go_enter Tryz.func26, Tryz.ntmps26
    go_wp2_with fail
    have CX0 := hide (FsCtx.start w (.slice a fs.length cap))
    refine (HVa.out _ CX0.out.g).mono ?_
    rintro e w1 ⟨rfl, g1⟩
    have CX := hide (CX0.out.later g1)
    have cp := CX.out.p
    clear g1 CX0
    go_wp2_with fail
    refine (HCp.out _ CX.out.g).mono ?_
    rintro e w2 ⟨wr, u, rfl, o2, g2, rfl⟩
    have gA := World.grownBy_alloc wr (Obj.cells #[u] 81) none
    have G2 : Hid (w1.grownBy (wr.alloc (Obj.cells #[u] 81)) none) := grown_trans g2 gA
    have O2 := hide (o2.later gA)
    have HU : Hid (∀ j, u.ownBlock = some j → j ≠ wr.heap.size) := fun j hj => by
      obtain ⟨xs, ho, _⟩ := o2
      have := World.ownsRow.lt ho j hj
      omega
    have hcu : (wr.alloc (Obj.cells #[u] 81)).cell? ⟨wr.heap.size, 0, none⟩ = some u := by simp [go_sem]
    have HS1 := hide CX.out.s
    clear o2 g2 gA
    by_cases hk0 : 0 ≤ keep
    · have HC : Hid (craC fs keep = 0) := by unfold Hid craC; rw [HVl.out, decide_eq_true hk0]; rfl
      have HL : Hid (craF fs keep = crashF keep fs) := by unfold Hid craF; rw [HVl.out, decide_eq_true hk0]; rfl
      have HCl := hide (closure_ok wr.heap.size u ka fs keep (wr.alloc (Obj.cells #[u] 81)) (w1.heap.size + 1) ((grown_trans CX.out.g G2.out).cell HKA.out (by simp)) hcu O2.out HU.out HD.out hk0 hk2 HVl.out)
      go_wp2_with fail
      refine HCl.out.mono ?_
      rintro e w3 ⟨rfl, c3, o3, g3⟩
      have g13 : w1.grownBy w3 none := g3 w1 G2.out (by omega)
      have CX3 := hide (CX.out.later g13)
      obtain ⟨ua, uc, hu0, _⟩ := o3.rd
      have O3 := hide o3
      have HCo := hide (codeOf_nil w3)
      subst hu0
      clear o3 g3 g13
      go_wp2_with fail
      refine HCo.out.mono ?_; rintro e w4 ⟨rfl, rfl⟩
      have rr := CX3.out.r
      have rf := CX3.out.f
      have HSt := hide (state_any wr.heap.size ua (crashF keep fs).length uc w3 c3)
      go_wp2_with fail
      refine HSt.out.mono ?_; rintro e w5 ⟨rfl, g5⟩
      have CX5 := hide (CX3.out.later g5)
      have O5 := hide (O3.out.later g5)
      have rr := CX5.out.r
      have rf := CX5.out.f
      clear g5
      go_wp2
      refine bodyPost_ret (v := .tuple #[.agg #[(.slice ua (crashF keep fs).length uc)], .int .i64 0]) (by simp [results, Tryz.results26, go_sem, rr]) rfl ?_
      exact ⟨_, by rw [HC.out], by rw [HL.out]; exact (CX5.out.ends O5.out (by have := HS1.out; omega) _).1, (CX5.out.ends O5.out (by have := HS1.out; omega) _).2⟩
    · have HC : Hid (craC fs keep = 1) := by unfold Hid craC; rw [decide_eq_false hk0]; simp
      have HL : Hid (craF fs keep = []) := by unfold Hid craF; rw [decide_eq_false hk0]; simp
      have HE3 := hide (HE.out.keep (grown_trans CX.out.g G2.out))
      have HCl := hide (closure_bad (.iface 59 (.pointer (some ⟨wr.heap.size, 0, none⟩))) ka a0 keep (wr.alloc (Obj.cells #[u] 81)) ((grown_trans CX.out.g G2.out).cell HKA.out (by simp)) HE3.out.g0 (by omega))
      have HCo := hide (codeOf_bad _ a0 a1 a2 HE3.out)
      have CX3 := hide (CX.out.later G2.out)
      go_wp2_with fail
      refine HCl.out.mono ?_
      rintro e w3 ⟨rfl, rfl⟩
      go_wp2_with fail
      refine HCo.out.mono ?_; rintro e w4 ⟨rfl, rfl⟩
      have rr := CX3.out.r
      have rf := CX3.out.f
      go_wp2
      refine bodyPost_ret (v := .tuple #[.agg #[(.slice none 0 0)], .int .i64 1]) (by simp [results, Tryz.results26, go_sem, rr]) rfl ?_
      exact ⟨_, by rw [HC.out], by rw [HL.out]; exact (CX3.out.ends (OwF.nil (w.heap.size + 2) _) (Nat.le_refl _) _).1, (CX3.out.ends (OwF.nil (w.heap.size + 2) _) (Nat.le_refl _) _).2⟩
  · rw [show validF fs = false by simpa using hval] at HVa
    have h1b : validF fs = false := by simpa using hval
    have HC : Hid (craC fs keep = 1) := by unfold Hid craC; rw [h1b]; simp
    have HL : Hid (craF fs keep = []) := by unfold Hid craF; rw [h1b]; simp
    subst hv0
    clear hv hval he hd hka
    go_enter Tryz.func26, Tryz.ntmps26
    go_wp2_with fail
    have CX0 := hide (FsCtx.start w (.slice a fs.length cap))
    refine (HVa.out _ CX0.out.g).mono ?_
    rintro e w1 ⟨rfl, g1⟩
    have CX := hide (CX0.out.later g1)
    have rr := CX.out.r
    have rf := CX.out.f
    clear g1 CX0
    go_wp2
    refine bodyPost_ret (v := .tuple #[.agg #[(.slice none 0 0)], .int .i64 1]) (by simp [results, Tryz.results26, go_sem, rr]) rfl ?_
    exact ⟨_, by rw [HC.out], by rw [HL.out]; exact (CX.out.ends (OwF.nil (w.heap.size + 2) _) (Nat.le_refl _) _).1, (CX.out.ends (OwF.nil (w.heap.size + 2) _) (Nat.le_refl _) _).2⟩

set_option maxHeartbeats 8000000 in
set_option maxRecDepth 100000 in
theorem implCrash_any (v : Value) (fs : List Fl) (keep : Int) (a0 a1 a2 : Addr) (w : World) (hv : RdF w.heap.size w v fs) (hd : Fss fs) (hk2 : keep ≤ 9223372036854775807) (he : Errs w a0 a1 a2) :
    Calls Tryz.prog 10 #[.agg #[v], .int .i64 keep] w fun e w' => ∃ v', e = .returned (.tuple #[.agg #[v'], .int .i64 (craC fs keep)]) ∧ OwF w.heap.size w' v' (craF fs keep) ∧ w.grownBy w' none := by
  obtain ⟨a, cap, hv0, _⟩ := id hv
  have g0 : w.grownBy (((w.alloc (Obj.cells #[v] 25)).alloc (Obj.cells #[.int .i64 keep] 3)).alloc (Obj.cells #[.slice none 0 0] 25)) none := grown_trans (grown_trans (World.grownBy_alloc _ _ _) (World.grownBy_alloc _ _ _)) (World.grownBy_alloc _ _ _)
  have HA := hide (afterCrash_any v fs keep ⟨w.heap.size + 1, 0, none⟩ a0 a1 a2 _ (hv.now g0) hd hk2 (by simp [go_sem]) (he.keep g0))
  have r0 : (((w.alloc (Obj.cells #[v] 25)).alloc (Obj.cells #[.int .i64 keep] 3)).alloc (Obj.cells #[.slice none 0 0] 25)).cell? ⟨w.heap.size + 1 + 1, 0, none⟩ = some (.slice none 0 0) := by simp [go_sem]
  have f0 : (((w.alloc (Obj.cells #[v] 25)).alloc (Obj.cells #[.int .i64 keep] 3)).alloc (Obj.cells #[.slice none 0 0] 25)).frozen? ⟨w.heap.size + 1 + 1, 0, none⟩ = false := by simp [go_sem]
  have hs0 : (((w.alloc (Obj.cells #[v] 25)).alloc (Obj.cells #[.int .i64 keep] 3)).alloc (Obj.cells #[.slice none 0 0] 25)).heap.size = w.heap.size + 3 := by simp
  have HG0 := hide g0
  have HR0 := hide r0
  have HF0 := hide f0
  have HS0 := hide hs0
  subst hv0
  clear hv hd he g0 r0 f0 hs0
  go_enter Tryz.func10, Tryz.ntmps10
  go_wp2_with fail
  refine HA.out.mono ?_
  rintro e w1 ⟨v1, rfl, o1, g1⟩
  obtain ⟨rr, rf⟩ := grown_bothF g1 HR0.out HF0.out
  obtain ⟨ua, uc, hu0, _⟩ := o1.rd
  rw [HS0.out] at o1
  have HO := hide (o1.setLow ⟨w.heap.size + 1 + 1, 0, none⟩ v1 (by simp))
  have HG : Hid (w.grownBy (w1.setCell ⟨w.heap.size + 1 + 1, 0, none⟩ v1) none) := grown_of_below ((below_of_grown (grown_trans HG0.out g1)).setCell (by simp; omega) _)
  subst hu0
  clear o1 g1
  go_wp2
  refine bodyPost_ret (v := .tuple #[.agg #[(.slice ua (craF fs keep).length uc)], .int .i64 (craC fs keep)]) (by simp [results, Tryz.results10, go_sem, rr]) rfl ?_
  exact ⟨_, rfl, HO.out.base (by omega), HG.out⟩

theorem implFsCrash (w : World) (a0 a1 a2 : Addr) (he : Errs w a0 a1 a2) : ImplFsCrash w := fun fs z1 hd hz _ u w' hbel hu => implCrash_any u fs z1 a0 a1 a2 w' hu hd hz (he.below hbel)

end Go.Proofs.YtakkdniikhgpdaaGreatDoor

