import Derived.Test.YtbiiopiaglkicaaDoorPcKit
import Derived.ProofKit
import Derived.OpenShut
import Derived.Deep.Slices
import Derived.Deep.Strs
namespace Go.Proofs.YtbiiopiaglkicaaDoor
open Go.ChangeShapes Go.WideShapes Go.ChangeAt Go.RowKit

theorem len3 {α : Type} : ∀ {xs : List α}, xs.length = 3 → ∃ a b c, xs = [a, b, c]
  | [a, b, c], _ => ⟨a, b, c, rfl⟩
  | [], h => by simp at h
  | [_], h => by simp at h
  | [_, _], h => by simp at h
  | _ :: _ :: _ :: _ :: _, h => by simp at h

theorem cellsK : Tryd.prog.cellsOf 3 = 1 := by kernel_rfl
theorem cellsB : Tryd.prog.cellsOf 24 = 1 := by kernel_rfl
theorem cellsP : Tryd.prog.cellsOf 59 = 3 := by kernel_rfl

/-- The law's argument, opened. -/
theorem open_pieces {H : Type} {enc : TypeId × Value → H} {W : World} {fuel : Nat} {a0 : Option Addr} {len0 cap0 : Nat} {x : DataW H × List MemPlace}
    (hf : DataW.trod enc Tryd.prog W 0 (fun _ => true) true fuel 22 [.slice a0 len0 cap0] = some x) : ∃ doc : List Pc, RdP W.heap.size W (.slice a0 len0 cap0) doc ∧ ∀ p ∈ doc, Bys p.t := by
  rcases Deep.open_slice Tryd.underlying22 hf with ⟨hcs, _⟩ | ⟨a, len, cap, m, n, D, Pl, hcs, _, hl, hm, hmm, _, hx⟩
  · simp at hcs
    obtain ⟨rfl, rfl, rfl⟩ := hcs
    exact ⟨[], ⟨none, 0, rfl, Nat.le_refl _, by unfold maxLen; omega, fun h => absurd rfl h⟩, by simp⟩
  · simp at hcs
    obtain ⟨rfl, rfl, rfl⟩ := hcs
    simp only [if_true] at hmm
    have each : ∀ i, i < len0 → ∃ q : Pc × Value, W.cell? (a.add (i * 3)) = some (.int .i64 q.1.k) ∧ W.cell? (a.add (i * 3 + 1)) = some q.2 ∧ W.cell? (a.add (i * 3 + 2)) = some (.int .i64 q.1.n) ∧ RdB W.heap.size W q.2 q.1.t ∧ Sl q.2 q.1.t.length ∧ Bys q.1.t := by
      intro i hi
      obtain ⟨cs', h1, h2⟩ := hx i (by omega)
      rw [cellsP] at h1
      obtain ⟨_, hlen, hcell⟩ := World.cells?_some h1
      obtain ⟨y0, y1, y2, k, _, _, g0, g1, g2⟩ := Deep.trod_struct3 Tryd.underlying59 h2
      obtain ⟨v0, v1, v2, rfl⟩ := len3 hlen
      simp only [cellsK, cellsB, List.drop_zero, List.drop_succ_cons, List.take_succ_cons, List.take_zero] at g0 g1 g2
      obtain ⟨z0, hz0, _, _⟩ := DataW.trod_int Tryd.underlying3 g0
      obtain ⟨z2, hz2, _, _⟩ := DataW.trod_int Tryd.underlying3 g2
      simp at hz0 hz2
      subst hz0 hz2
      have e0 := hcell 0 (by omega)
      have e1 := hcell 1 (by omega)
      have e2 := hcell 2 (by omega)
      rw [Deep.add_add] at e0 e1 e2
      simp at e0 e1 e2
      rcases open_ints Tryd.underlying24 Tryd.underlying5 (by kernel_rfl) g1 with ⟨hv1, _⟩ | ⟨ax, l, c, zs, hv1, _, hl1, hm1, hz, _, hcz, hwz⟩
      · simp at hv1
        subst hv1
        exact ⟨(⟨z0, [], z2⟩, .slice none 0 0), e0, e1, e2, ⟨none, 0, rfl, fun h => absurd rfl h⟩, ⟨none, 0, rfl, Nat.le_refl _, by unfold maxLen; omega⟩, fun z hz => by cases hz⟩
      · simp at hv1
        subst hv1
        simp only [if_true] at hz
        have hlen1 : (zs.take l).length = l := by rw [List.length_take]; omega
        refine ⟨(⟨z0, zs.take l, z2⟩, .slice (some ax) l c), e0, e1, e2, ?_, ?_, ?_⟩
        · have := rd_of_row (q := .u8) ax (zs.take l) zs l c W rfl hlen1 (by omega) hcz
          rw [hlen1] at this
          exact this
        · exact ⟨some ax, c, by rw [hlen1], by rw [hlen1]; omega, hm1⟩
        · intro z hzm
          exact bounds_u8 (hwz z (List.mem_of_mem_take hzm))
    obtain ⟨q, hq⟩ := Deep.choose_lt each
    refine ⟨(List.range len0).map fun i => (q i).1, ⟨some a, cap0, by simp, by simpa using hl, hm, fun h0 => ?_⟩, ?_⟩
    · have hpos : 0 < len0 := by
        rcases Nat.eq_zero_or_pos len0 with h | h
        · subst h; simp at h0
        · exact h
      obtain ⟨b, off, spot⟩ := a
      have hc0 := (hq 0 hpos).1
      have hspot : spot = none := by simpa [Addr.add] using World.cell?_spot hc0
      subst hspot
      refine ⟨b, off, rfl, by have := World.block_lt_of_cell? W _ hc0; simpa [Addr.add] using this, fun j p hp => ?_⟩
      have hj : j < len0 := by have := (List.getElem?_eq_some_iff.1 hp).1; simpa using this
      simp [hj] at hp
      subst hp
      obtain ⟨q0, q1, q2, q3, q4, _⟩ := hq j hj
      rw [Addr.add_lit] at q0 q1 q2
      exact ⟨(q j).2, q0, by simpa [Nat.add_assoc] using q1, by simpa [Nat.add_assoc] using q2, q3, q4⟩
    · intro p hp
      simp only [List.mem_map, List.mem_range] at hp
      obtain ⟨i, hi, rfl⟩ := hp
      exact (hq i hi).2.2.2.2.2

end Go.Proofs.YtbiiopiaglkicaaDoor
