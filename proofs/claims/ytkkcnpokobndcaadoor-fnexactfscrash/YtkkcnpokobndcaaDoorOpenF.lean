import Derived.Test.YtkkcnpokobndcaaDoorFsLawK
import Derived.ProofKit
import Derived.OpenShut
import Derived.ChangeSame
import Derived.Deep.Slices
import Derived.Deep.Strs
namespace Go.Proofs.YtkkcnpokobndcaaDoor
open Go.ChangeShapes Go.WideShapes Go.ChangeAt Go.RowKit

theorem lenF3 {α : Type} : ∀ {xs : List α}, xs.length = 3 → ∃ a b c, xs = [a, b, c]
  | [a, b, c], _ => ⟨a, b, c, rfl⟩
  | [], h => by simp at h
  | [_], h => by simp at h
  | [_, _], h => by simp at h
  | _ :: _ :: _ :: _ :: _, h => by simp at h
theorem lenF1 {α : Type} : ∀ {xs : Array α}, xs.size = 1 → ∃ a, xs = #[a] := by
  intro xs h
  obtain ⟨l⟩ := xs
  match l, h with
  | [a], _ => exact ⟨a, rfl⟩

theorem cellsI3 : Tryd.prog.cellsOf 3 = 1 := by kernel_rfl
theorem cellsBy : Tryd.prog.cellsOf 25 = 1 := by kernel_rfl
theorem cellsFl : Tryd.prog.cellsOf 74 = 3 := by kernel_rfl
theorem cellsFS : Tryd.prog.cellsOf 22 = 1 := by kernel_rfl
theorem cellsFs : Tryd.prog.cellsOf 24 = 1 := by kernel_rfl

theorem byt_wf {zs : List Int} (h : ∀ z ∈ zs, (Lit.int .u8 z).wf = true) : Byt zs := fun z hz => by
  have := h z hz
  simp only [Lit.wf, Bool.and_eq_true, decide_eq_true_eq] at this
  obtain ⟨h1, h2⟩ := this
  have e1 : IntKind.u8.min = 0 := rfl
  have e2 : IntKind.u8.max = 255 := rfl
  rw [e1] at h1; rw [e2] at h2
  exact ⟨h1, h2⟩

/-- A text among the arguments, opened. -/
theorem open_bytes {H : Type} {enc : TypeId × Value → H} {W : World} {fuel : Nat} {v : Value} {x : DataW H × List MemPlace} (hf : DataW.trod enc Tryd.prog W 0 (fun _ => true) true fuel 25 [v] = some x) : ∃ zs : List Int, RdB W.heap.size W v zs ∧ Sl v zs.length ∧ Byt zs := by
  rcases open_ints Tryd.underlying25 Tryd.underlying5 (by kernel_rfl) hf with ⟨hv1, _⟩ | ⟨ax, l, c, zs, hv1, _, hl1, hm1, hz, _, hcz, hwz⟩
  · simp at hv1
    subst hv1
    exact ⟨[], ⟨none, 0, rfl, fun h => absurd rfl h⟩, ⟨none, 0, rfl, Nat.le_refl _, by unfold maxLen; omega⟩, fun z hz => by cases hz⟩
  · simp at hv1
    subst hv1
    simp only [if_true] at hz
    have hlen1 : (zs.take l).length = l := by rw [List.length_take]; omega
    refine ⟨zs.take l, ?_, ?_, byt_wf (fun z hzm => hwz z (List.mem_of_mem_take hzm))⟩
    · have := rd_of_row (q := .u8) ax (zs.take l) zs l c W rfl hlen1 (by omega) hcz
      rw [hlen1] at this
      exact this
    · exact ⟨some ax, c, by rw [hlen1], by rw [hlen1]; omega, hm1⟩

/-- The files among the arguments, opened. -/
theorem open_files {H : Type} {enc : TypeId × Value → H} {W : World} {fuel : Nat} {v : Value} {x : DataW H × List MemPlace}
    (hf : DataW.trod enc Tryd.prog W 0 (fun _ => true) true fuel 22 [v] = some x) : ∃ fs : List Fl, RdF W.heap.size W v fs ∧ ∀ p ∈ fs, Byt p.n ∧ Byt p.d := by
  rcases Deep.open_slice Tryd.underlying22 hf with ⟨hcs, _⟩ | ⟨a, len0, cap0, m, n, D, Pl, hcs, _, hl, hm, hmm, _, hx⟩
  · simp at hcs
    subst hcs
    exact ⟨[], ⟨none, 0, rfl, Nat.le_refl _, by unfold maxLen; omega, fun h => absurd rfl h⟩, by simp⟩
  · simp at hcs
    subst hcs
    simp only [if_true] at hmm
    have each : ∀ i, i < len0 → ∃ q : Fl × (Value × Value), W.cell? (a.add (i * 3)) = some q.2.1 ∧ W.cell? (a.add (i * 3 + 1)) = some q.2.2 ∧ W.cell? (a.add (i * 3 + 2)) = some (.int .i64 q.1.s) ∧ (RdB W.heap.size W q.2.1 q.1.n ∧ Sl q.2.1 q.1.n.length ∧ Byt q.1.n) ∧ (RdB W.heap.size W q.2.2 q.1.d ∧ Sl q.2.2 q.1.d.length ∧ Byt q.1.d) := by
      intro i hi
      obtain ⟨cs', h1, h2⟩ := hx i (by omega)
      rw [cellsFl] at h1
      obtain ⟨_, hlen, hcell⟩ := World.cells?_some h1
      obtain ⟨y0, y1, y2, k, _, _, g0, g1, g2⟩ := Deep.trod_struct3 Tryd.underlying74 h2
      obtain ⟨v0, v1, v2, rfl⟩ := lenF3 hlen
      simp only [cellsI3, cellsBy, List.drop_zero, List.drop_succ_cons, List.take_succ_cons, List.take_zero] at g0 g1 g2
      obtain ⟨z2, hz2, _, _⟩ := DataW.trod_int Tryd.underlying3 g2
      simp at hz2
      subst hz2
      have e0 := hcell 0 (by omega)
      have e1 := hcell 1 (by omega)
      have e2 := hcell 2 (by omega)
      rw [Deep.add_add] at e0 e1 e2
      simp at e0 e1 e2
      obtain ⟨zn, r1, r2, r3⟩ := open_bytes g0
      obtain ⟨zd, r4, r5, r6⟩ := open_bytes g1
      exact ⟨(⟨zn, zd, z2⟩, (v0, v1)), e0, e1, e2, ⟨r1, r2, r3⟩, r4, r5, r6⟩
    haveI : Inhabited (Fl × Value × Value) := ⟨(⟨[], [], 0⟩, .bool false, .bool false)⟩
    obtain ⟨q, hq⟩ := Deep.choose_lt each
    refine ⟨(List.range len0).map fun i => (q i).1, ⟨some a, cap0, by simp, by simpa using hl, hm, fun h0 => ?_⟩, ?_⟩
    · have hpos : 0 < len0 := by
        rcases Nat.eq_zero_or_pos len0 with h | h
        · subst h; simp at h0
        · exact h
      obtain ⟨b, off, spot⟩ := a
      have hc0 := (hq 0 hpos).1
      have hspot : spot = none := by simpa [Addr.add] using World.cell?_spot hc0
      subst hspot
      refine ⟨b, off, rfl, by have := World.block_lt_of_cell? W _ hc0; simpa [Addr.add] using this, fun j p hp => ?_⟩
      have hj : j < len0 := by have := (List.getElem?_eq_some_iff.1 hp).1; simpa using this
      simp [hj] at hp
      subst hp
      obtain ⟨q0, q1, q2, q3, q4⟩ := hq j hj
      rw [Addr.add_lit] at q0 q1 q2
      exact ⟨(q j).2, q0, by simpa [Nat.add_assoc] using q1, by simpa [Nat.add_assoc] using q2, q3.1, q3.2.1, q4.1, q4.2.1⟩
    · intro p hp
      simp only [List.mem_map, List.mem_range] at hp
      obtain ⟨i, hi, rfl⟩ := hp
      exact ⟨(hq i hi).2.2.2.1.2.2, (hq i hi).2.2.2.2.2.2⟩

/-- A file system among the arguments, opened. -/
theorem open_fs {H : Type} {enc : TypeId × Value → H} {W : World} {fuel : Nat} {v : Value} {x : DataW H × List MemPlace}
    (hf : DataW.trod enc Tryd.prog W 0 (fun _ => true) true fuel 24 [v] = some x) : ∃ fs : List Fl, RdF W.heap.size W v fs ∧ ∀ p ∈ fs, Byt p.n ∧ Byt p.d := by
  obtain ⟨y0, n, _, _, h⟩ := trod_struct1 Tryd.underlying24 hf
  simp only [cellsFS, List.drop_zero, List.take_succ_cons, List.take_zero] at h
  exact open_files h

end Go.Proofs.YtkkcnpokobndcaaDoor
