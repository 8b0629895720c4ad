import Derived.Test.YtbiiopiaglkicaaDoorPcKit
import Derived.Test.YtbiiopiaglkicaaDoorWidthSpec
import Derived.Handy
namespace Go.Proofs.YtbiiopiaglkicaaDoor
open Go.RowKit

theorem no10_snoc (t : List Int) (k : Nat) (hk : k < t.length) (h : (t.take k).contains 10 = false) (hp : ¬ t[k]?.getD 0 = 10) : (t.take (k + 1)).contains 10 = false := by
  rw [take_snoc t k hk, List.contains_append, h]
  simp only [List.contains_cons, List.contains_nil, Bool.or_false, Bool.false_or, beq_eq_false_iff_ne, ne_eq]
  exact fun e => hp e.symm

set_option maxHeartbeats 1000000 in
set_option maxRecDepth 100000 in
theorem l2pieceOK_any (p : Pc) (tv : Value) (w : World) (hv : RdB w.heap.size w tv p.t) (hby : Bys p.t) (hn : p.t.length ≤ 1048576) :
    Calls Tryd.prog 56 #[.agg #[.int .i64 p.k, tv, .int .i64 p.n]] w fun e w' => e = .returned (.bool (pcOK p)) ∧ w.grownBy w' none := by
  obtain ⟨a, cap, hv0, hr⟩ := id hv
  by_cases hlo : p.k < 0
  · have HF : Hid (pcOK p = false) := by unfold Hid; rw [← Bool.not_eq_true, pcOK_iff]; omega
    subst hv0
    clear hv hr
    go_enter Tryd.func56, Tryd.ntmps56
    go_wp2
    go_ret
    exact ⟨by rw [HF.out]; rfl, World.grownBy_alloc _ _ _⟩
  by_cases hhi : p.k > 9
  · have HF : Hid (pcOK p = false) := by unfold Hid; rw [← Bool.not_eq_true, pcOK_iff]; omega
    subst hv0
    clear hv hr
    go_enter Tryd.func56, Tryd.ntmps56
    go_wp2
    go_ret
    exact ⟨by rw [HF.out]; rfl, World.grownBy_alloc _ _ _⟩
  by_cases h1 : p.k = 1
  · have e1 : (p.k == 1) = true := by simpa using h1
    have e7 : (p.k == 7) = false := by simp; omega
    have HP : Hid ((pcOK p = true) ↔ (p.t.contains 10 = false ∧ 0 ≤ widthR p.t ∧ p.n = 0)) := by
      unfold Hid; rw [pcOK_iff]
      constructor
      · intro h; exact ⟨(h.2.1 h1).1, (h.2.1 h1).2, h.2.2.2.2 (by omega)⟩
      · intro h; exact ⟨by omega, fun _ => ⟨h.1, h.2.1⟩, by omega, by omega, fun _ => h.2.2⟩
    have hg : ∀ o : Obj, w.grownBy (w.alloc o) none := fun _ => World.grownBy_alloc _ _ _
    have hcell : ∀ k, k < p.t.length → ∃ b off, a = some ⟨b, off, none⟩ ∧ b < w.heap.size ∧ w.cell? ⟨b, off + k, none⟩ = some (.int .u8 (p.t[k]?.getD 0)) := by
      intro k hk
      obtain ⟨b, off, ha, hb, hc⟩ := hr (fun e => by rw [e] at hk; simp at hk)
      exact ⟨b, off, ha, hb, hc k hk⟩
    have HC := hcell
    clear hcell hr h1
    subst hv0
    go_enter Tryd.func56, Tryd.ntmps56
    go_wp2
    go_loopw [3] (fun i wr => ∃ k : Nat, k ≤ p.t.length ∧ i = .int .i64 k ∧ Hid ((p.t.take k).contains 10 = false) ∧ wr = w.alloc (.cells #[.int .i64 p.k, .slice a p.t.length cap, .int .i64 p.n] 49))
      (fun i _ => p.t.length - (intOf i).toNat)
    case atStart => exact ⟨0, Nat.zero_le _, rfl, by unfold Hid; rfl, rfl⟩
    case round =>
      obtain ⟨k, hk, rfl, H10, hwr⟩ := hrel
      subst hwr
      by_cases hlt : k < p.t.length
      · obtain ⟨b, off, rfl, hb, hc⟩ := HC k hlt
        have hc1 : (w.alloc (.cells #[.int .i64 p.k, .slice (some ⟨b, off, none⟩) p.t.length cap, .int .i64 p.n] 49)).cell? ⟨b, off + k, none⟩ = some (.int .u8 (p.t[k]?.getD 0)) := (hg _).cell hc (by simp)
        by_cases h10 : p.t[k]?.getD 0 = 10
        · have HF : Hid (pcOK p = false) := by
            unfold Hid
            rw [← Bool.not_eq_true, HP.out]
            intro h
            have : p.t.contains 10 = true := by
              rw [List.contains_iff_mem, ← h10]
              simp [hlt]
            rw [h.1] at this; cases this
          have e10 : ((10 : Int) == 10) = true := rfl
          rw [h10] at hc1
          clear HP HC hc H10 h10 hv
          go_wp2
          go_ret
          exact ⟨by rw [HF.out]; rfl, hg _⟩
        · have HT : Hid ((p.t.take (k + 1)).contains 10 = false) := no10_snoc p.t k hlt H10.out h10
          have e10 : ((p.t[k]?.getD 0) == 10) = false := by simpa using h10
          generalize p.t[k]?.getD 0 = z at hc1 e10
          clear HP HC hc H10 h10 hv
          go_wp2
          go_roundw
          case rel => exact ⟨k + 1, by omega, by go_num, HT, by first | rfl | trivial⟩
          case measure => simp [intOf]; omega
      · have hkn : k = p.t.length := by omega
        have h10 : p.t.contains 10 = false := by have := H10.out; rw [hkn, List.take_length] at this; exact this
        have hw := specTextWidth_any (.slice a p.t.length cap) p.t (w.alloc (.cells #[.int .i64 p.k, .slice a p.t.length cap, .int .i64 p.n] 49)) (hv.keep (hg _)).now hby hn
        by_cases hwd : widthR p.t < 0
        · have HF : Hid (pcOK p = false) := by unfold Hid; rw [← Bool.not_eq_true, HP.out]; omega
          generalize widthR p.t = wd at hw hwd
          clear HP HC H10 h10 hv
          go_wp2_with fail
          refine hw.mono ?_
          rintro e w1 ⟨rfl, g1⟩
          go_wp2
          go_ret
          exact ⟨by rw [HF.out]; rfl, grown_trans (hg _) g1⟩
        · have HF : Hid (pcOK p = decide (p.n = 0)) := by
            unfold Hid
            rw [Bool.eq_iff_iff, HP.out, decide_eq_true_eq]
            exact ⟨fun h => h.2.2, fun h => ⟨h10, by omega, h⟩⟩
          generalize widthR p.t = wd at hw hwd
          clear HP HC H10 h10 hv
          go_wp2_with fail
          refine hw.mono ?_
          rintro e w1 ⟨rfl, g1⟩
          have c0 := g1.cell (a := ⟨w.heap.size, 0, none⟩) (v := .int .i64 p.k) (by simp [go_sem]) (by simp)
          have c2 := g1.cell (a := ⟨w.heap.size, 2, none⟩) (v := .int .i64 p.n) (by simp [go_sem]) (by simp)
          go_wp2
          go_ret
          exact ⟨by rw [HF.out]; rfl, grown_trans (hg _) g1⟩
  have e1 : (p.k == 1) = false := by simpa using h1
  have hg : ∀ o : Obj, w.grownBy (w.alloc o) none := fun _ => World.grownBy_alloc _ _ _
  by_cases hl : p.t.length = 0
  · by_cases h7 : p.k = 7
    · have e7 : (p.k == 7) = true := by simpa using h7
      have HF : Hid (pcOK p = decide (0 ≤ p.n)) := by
        unfold Hid
        rw [Bool.eq_iff_iff, pcOK_iff, decide_eq_true_eq]
        exact ⟨fun h => h.2.2.2.1 h7, fun h => ⟨by omega, by omega, fun _ => hl, fun _ => h, by omega⟩⟩
      rw [hl] at hv0
      subst hv0
      clear hv hr
      go_enter Tryd.func56, Tryd.ntmps56
      go_wp2
      go_ret
      exact ⟨by rw [HF.out]; rfl, hg _⟩
    · have e7 : (p.k == 7) = false := by simpa using h7
      have HF : Hid (pcOK p = decide (p.n = 0)) := by
        unfold Hid
        rw [Bool.eq_iff_iff, pcOK_iff, decide_eq_true_eq]
        exact ⟨fun h => h.2.2.2.2 h7, fun h => ⟨by omega, by omega, fun _ => hl, by omega, fun _ => h⟩⟩
      rw [hl] at hv0
      subst hv0
      clear hv hr
      go_enter Tryd.func56, Tryd.ntmps56
      go_wp2
      go_ret
      exact ⟨by rw [HF.out]; rfl, hg _⟩
  · have el : ((p.t.length : Int) != 0) = true := by simpa using hl
    have HF : Hid (pcOK p = false) := by
      unfold Hid
      rw [← Bool.not_eq_true, pcOK_iff]
      intro h
      exact hl (h.2.2.1 h1)
    subst hv0
    clear hv hr
    go_enter Tryd.func56, Tryd.ntmps56
    go_wp2
    go_ret
    exact ⟨by rw [HF.out]; rfl, hg _⟩

end Go.Proofs.YtbiiopiaglkicaaDoor
