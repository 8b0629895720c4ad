import Derived.Test.YtkkcnpokobndcaaDoorFsApp
import Derived.Test.YtkkcnpokobndcaaDoorFsCmp
import Derived.Test.YtkkcnpokobndcaaDoorFsValid
import Derived.Maps.AppendAt
import Derived.Lib.BufferMore
import Derived.Deep.Slices
namespace Go.Proofs.YtkkcnpokobndcaaDoor
open Go.RowKit
attribute [-go_sem] Builtin.append_

/-- An empty row that has just been laid. -/
theorem row_new (w : World) (e : TypeId) (size : Nat) : (w.alloc (Obj.cells #[] e)).ownsRow w.heap.size e size (.slice (some ⟨w.heap.size, 0, none⟩) 0 0) 0 [] :=
  ⟨by simp, .inr ⟨w.heap.size, 0, #[], rfl, Nat.le_refl _, by show (w.heap.push _)[w.heap.size]? = _; simp, Nat.le_refl _, by unfold maxLen; omega, by simp, by simp⟩⟩

set_option maxHeartbeats 1000000 in
set_option maxRecDepth 100000 in
theorem bytesClone_any (v : Value) (zs : List Int) (w : World) (hv : RdB w.heap.size w v zs) (hn : zs.length ≤ 4194304) :
    Calls Tryd.prog 55 #[v] w fun e w' => ∃ v', e = .returned v' ∧ OwB w.heap.size w' v' zs ∧ w.grownBy w' none := by
  obtain ⟨a, cap, hv0, hr⟩ := id hv
  cases a with
  | none =>
    have hz : zs = [] := by
      rcases zs with _ | ⟨z, zs⟩
      · rfl
      · obtain ⟨b, off, ha, _⟩ := hr (by simp); cases ha
    subst hz hv0
    clear hv hr
    have hnil : ∀ w : World, (binOp .eql 25 (.slice none 0 cap) (.slice none 0 0)).run Tryd.prog w = .ok (.bool true) w := fun w => Lib.run_eql_slice_nil_nil w _ _ Tryd.underlying25
    simp only [List.length_nil]
    go_enter Tryd.func55, Tryd.ntmps55
    go_wp2
    go_ret
    exact ⟨_, rfl, ⟨by simp, .inl ⟨rfl, rfl⟩⟩, World.grownBy.refl _ _⟩
  | some ad =>
    subst hv0
    have hnil : ∀ w : World, (binOp .eql 25 (.slice (some ad) zs.length cap) (.slice none 0 0)).run Tryd.prog w = .ok (.bool false) w := fun w => Lib.run_eql_slice_some_nil w _ _ _ Tryd.underlying25
    obtain ⟨v', w', hrun, o', g', _⟩ := append_bytes w.heap.size w.heap.size (w.alloc (Obj.cells #[] 5)) (.slice (some ⟨w.heap.size, 0, none⟩) 0 0) (.slice (some ad) zs.length cap) [] zs (by simpa [OwB, Ow] using row_new w 5 1) (hv.keep (World.grownBy_alloc _ _ _)) (by simp) (by simp; omega)
    simp only [List.nil_append] at o'
    have g2 : w.grownBy w' none := grown_new (World.grownBy_alloc w (Obj.cells #[] 5) none) g' (fun j e => by cases e; exact Nat.le_refl _)
    clear hv hr g'
    go_enter Tryd.func55, Tryd.ntmps55
    go_wp2
    go_ret
    exact ⟨_, rfl, o', g2⟩

/-- The cells of files that are read. -/
theorem rdF_cells {B : Nat} {w : World} {v : Value} {fs : List Fl} (h : RdF B w v fs) : ∃ (a : Option Addr) (cap : Nat) (xs : List (Value × Value)), v = .slice a fs.length cap ∧ xs.length = fs.length ∧
    (∀ ad, a = some ad → ∀ j u, (cellsF fs xs)[j]? = some u → w.cell? (ad.add j) = some u) ∧ (a = none → fs = []) ∧
    (∀ (j : Nat) (p : Fl) (x : Value × Value), fs[j]? = some p → xs[j]? = some x → RdB B w x.1 p.n ∧ Sl x.1 p.n.length ∧ RdB B w x.2 p.d ∧ Sl x.2 p.d.length) := by
  obtain ⟨a, cap, hv, h1, h2, hh⟩ := h
  by_cases h0 : fs = []
  · subst h0
    exact ⟨a, cap, [], hv, rfl, fun ad _ j u hj => by simp [cellsF] at hj, fun _ => rfl, fun j p x hp => by simp at hp⟩
  · obtain ⟨b, off, ha, hb, hc⟩ := hh h0
    have each : ∀ j, j < fs.length → ∃ x : Value × Value, ∀ p, fs[j]? = some p → FlAt B w b (off + j * 3) p x := fun j hj => by
      obtain ⟨x, hx⟩ := hc j fs[j] (by simp [hj])
      exact ⟨x, fun p hp => by simp [hj] at hp; subst hp; exact hx⟩
    haveI : Inhabited (Value × Value) := ⟨(.bool false, .bool false)⟩
    obtain ⟨q, hq⟩ := Deep.choose_lt each
    refine ⟨a, cap, (List.range fs.length).map q, hv, by simp, fun ad had j u hj => ?_, fun e => (by rw [ha] at e; cases e), fun j p x hp hx => ?_⟩
    · rw [ha] at had
      cases had
      have hjl := (List.getElem?_eq_some_iff.1 hj).1
      rw [cellsF_len _ _ (by simp)] at hjl
      obtain ⟨i, r, rfl, hr3⟩ : ∃ i r, j = i * 3 + r ∧ r < 3 := ⟨j / 3, j % 3, by omega, by omega⟩
      have hi : i < fs.length := by omega
      have hpi : fs[i]? = some fs[i] := by simp [hi]
      obtain ⟨x, hx, c0, c1, c2⟩ := cellsF_at fs ((List.range fs.length).map q) i _ (by simp) hpi
      have hxq : q i = x := by simpa [hi] using hx
      have hf := hq i hi _ hpi
      rw [hxq] at hf
      rw [Addr.add_lit, ← Nat.add_assoc]
      match r, hr3 with
      | 0, _ => rw [Nat.add_zero, c0] at hj; cases hj; exact hf.n
      | 1, _ => rw [c1] at hj; cases hj; exact hf.d
      | 2, _ => rw [c2] at hj; cases hj; exact hf.s
    · have hj := (List.getElem?_eq_some_iff.1 hp).1
      have hxq : q j = x := by simpa [hj] using hx
      have hf := hq j hj p hp
      rw [hxq] at hf
      exact ⟨hf.rn, hf.sn, hf.rd, hf.sd⟩

theorem cellsF_one : ∀ (fs : List Fl) (xs : List (Value × Value)), (∀ (j : Nat) (p : Fl) (x : Value × Value), fs[j]? = some p → xs[j]? = some x → Sl x.1 p.n.length ∧ Sl x.2 p.d.length) → ∀ u ∈ cellsF fs xs, u.oneCell' = true
  | [], _, _, u, hu => by simp [cellsF] at hu
  | _ :: _, [], _, u, hu => by simp [cellsF] at hu
  | p :: ps, x :: xs, h, u, hu => by
    have h0 := h 0 p x rfl rfl
    obtain ⟨⟨a1, c1, e1, _⟩, ⟨a2, c2, e2, _⟩⟩ := h0
    simp only [cellsF, List.mem_cons] at hu
    rcases hu with rfl | rfl | rfl | hu
    · rw [e1]; rfl
    · rw [e2]; rfl
    · rfl
    · exact cellsF_one ps xs (fun j q y hq hy => h (j + 1) q y (by simpa using hq) (by simpa using hy)) u hu


set_option maxHeartbeats 1000000 in
set_option maxRecDepth 100000 in
theorem filesClone_any (v : Value) (fs : List Fl) (w : World) (hv : RdF w.heap.size w v fs) (hn : fs.length ≤ 1048576) :
    Calls Tryd.prog 54 #[v] w fun e w' => ∃ v', e = .returned v' ∧ RoF w.heap.size w.heap.size w' v' fs ∧ w.grownBy w' none := by
  obtain ⟨a, cap, xs, hv0, hl, hcel, hnone, htx⟩ := rdF_cells hv
  cases a with
  | none =>
    obtain rfl := hnone rfl
    subst hv0
    clear hv hcel htx
    have hnil : ∀ w : World, (binOp .eql 29 (.slice none 0 cap) (.slice none 0 0)).run Tryd.prog w = .ok (.bool true) w := fun w => Lib.run_eql_slice_nil_nil w _ _ Tryd.underlying29
    simp only [List.length_nil]
    go_enter Tryd.func54, Tryd.ntmps54
    go_wp2
    go_ret
    exact ⟨_, rfl, RoF.nil _ _ _, World.grownBy.refl _ _⟩
  | some ad =>
    subst hv0
    have hnil : ∀ w : World, (binOp .eql 29 (.slice (some ad) fs.length cap) (.slice none 0 0)).run Tryd.prog w = .ok (.bool false) w := fun w => Lib.run_eql_slice_some_nil w _ _ _ Tryd.underlying29
    obtain ⟨i0, hi, hz0, hz1, hz2⟩ := info_parts infoFl
    obtain ⟨v', w', hrun, h3, h4, _, h5⟩ := run_append_own_at (P := Tryd.prog) (w.alloc (Obj.cells #[] 49)) w.heap.size 29 29 49 i0 (.agg #[.slice none 0 0, .slice none 0 0, .int .i64 0]) 3 56 Tryd.underlying29 hi hz0 hz1 hz2 rfl (by decide)
      (.slice (some ⟨w.heap.size, 0, none⟩) 0 0) 0 [] (row_new w 49 3) ad fs.length cap (cellsF fs xs) (cellsF_len fs xs hl) (fun j u hj => (World.grownBy_alloc w (Obj.cells #[] 49) none).cell (hcel ad rfl j u hj) (by simp))
      (cellsF_one fs xs (fun j p x hp hx => ⟨(htx j p x hp hx).2.1, (htx j p x hp hx).2.2.2⟩)) (by unfold maxLen; omega) (by omega) (by simp)
    have g2 : w.grownBy w' none := grown_new (World.grownBy_alloc w (Obj.cells #[] 49) none) h4 (fun j e => by cases e; exact Nat.le_refl _)
    have hro : RoF w.heap.size w.heap.size w' v' fs := by
      refine ⟨xs, hl, by simpa using h3, fun j p x hp hx => ?_⟩
      obtain ⟨r1, r2, r3, r4⟩ := htx j p x hp hx
      exact ⟨r1.keep g2, r2, r3.keep g2, r4⟩
    clear hv hcel htx h3 h4 h5 hl
    go_enter Tryd.func54, Tryd.ntmps54
    go_wp2
    go_ret
    exact ⟨_, rfl, hro, g2⟩

end Go.Proofs.YtkkcnpokobndcaaDoor
