import Derived.Test.YtdhdbjjeepcimaaBase
namespace Go.Proofs.Ytdhdbjjeepcimaa
open Go.RowKit

set_option maxHeartbeats 400000 in
set_option maxRecDepth 100000 in
theorem toIntS_any (v : Value) (zs : List Int) (w : World) (hv : RdI w.heap.size w v zs) (hn : zs.length ≤ 4194304) :
    Calls Try.prog 7 #[v] w fun e w' => ∃ v', e = .returned v' ∧ OwI w.heap.size w' v' zs ∧ w.grownBy w' none := by
  obtain ⟨i0, hi, hz0, hz1, hz2⟩ := info_parts info3
  obtain ⟨a, cap, rfl, hr⟩ := hv
  go_enter Try.func7, Try.ntmps7
  go_wp2_with (at_make; refine wpList_make_full _ rfl _ _ 22 rfl w.heap.size 3 i0 (.int .i64 0) 1 Try.underlying22 hi hz0 hz1 _ _ _ _ zs.length rfl rfl (by omega) (by omega) ?b2 ?b3 (Nat.le_refl _) ?_)
  case b2 => rw [hz2]; omega
  case b3 => unfold maxLen; omega
  intro w0 hown0 hgrow0
  go_wp2
  go_loopw [4] (fun i wr => ∃ k : Nat, k ≤ zs.length ∧ i = .int .i64 k ∧ wr.ownsRow w.heap.size 3 1 (.slice (some ⟨w.heap.size, 0, none⟩) zs.length zs.length) zs.length ((zs.take k ++ List.replicate (zs.length - k) 0).map (Value.int .i64)) ∧ w.grownBy wr none)
    (fun i _ => zs.length - (intOf i).toNat)
  case atStart =>
    refine ⟨0, Nat.zero_le _, rfl, ?_, hgrow0⟩
    simpa [toList_madeCells_one, Value.cells] using hown0
  case round =>
    obtain ⟨k, hk, rfl, hown, hgr⟩ := hrel
    by_cases hlt : k < zs.length
    · obtain ⟨b, off, rfl, hb, hc⟩ := hr (fun h => by simp [h] at hlt)
      have hcx : wr.cell? ⟨b, off + k, none⟩ = some (.int .i64 (zs[k]?.getD 0)) := hgr.cell (hc k hlt) (by simp)
      have hoc : wr.cell? ⟨w.heap.size, k, none⟩ = some (.int .i64 0) := by
        rw [World.ownsRow.cellAt hown k (by omega)]; simp [List.getElem?_append, List.getElem?_replicate, Nat.min_eq_left hk]; omega
      have hof := World.ownsRow.frozenAt hown k
      have hst := World.ownsRow.stored hown k (.int .i64 (zs[k]?.getD 0))
      rw [copy_step zs k hlt] at hst
      have hg2 := grown_new hgr hst.2 (fun j hj => by cases hj; exact Nat.le_refl _)
      have hst1 := hst.1
      clear hst hc hr hown hb
      generalize zs[k]?.getD 0 = z at hcx hst1 hg2
      go_wp2
      go_roundw
      case rel => exact ⟨k + 1, by omega, by go_num, hst1, hg2⟩
      case measure => simp [intOf]; omega
    · go_wp2
      go_ret
      have hkn : k = zs.length := by omega
      subst hkn
      exact ⟨_, rfl, by unfold OwI; simpa using hown, hgr⟩

set_option maxHeartbeats 400000 in
set_option maxRecDepth 100000 in
theorem markIntS_any (B : Nat) (v : Value) (zs : List Int) (s : Int) (w : World) (hv : OwI B w v zs) (hn : zs.length ≤ 4194304) (h0 : 0 ≤ s) (h1 : s ≤ 4611686018427387904) :
    Calls Try.prog 10 #[v, .int .i64 s] w fun e w' => e = .returned (.int .i64 (s + zs.length)) ∧ OwI B w' v (marks s zs.length) ∧ w.grownBy w' v.ownBlock := by
  rcases hv.2 with ⟨rfl, hz⟩ | ⟨g, cap, cur, rfl, hb, hg, hnc, hcm, hcs, ht⟩
  · have : zs = [] := List.eq_nil_of_length_eq_zero hz
    subst this
    go_enter Try.func10, Try.ntmps10
    go_wp2
    refine wp_loop_rounds 1 ?_
    rw [rounds_succ]
    go_wp2
    go_ret
    exact ⟨by simp, hv, World.grownBy.refl _ _⟩
  · clear hg hnc hcm hcs ht
    go_enter Try.func10, Try.ntmps10
    go_wp2
    go_loopw [1, 5] (fun t i wr => ∃ k : Nat, k ≤ zs.length ∧ i = .int .i64 k ∧ t = .int .i64 (s + k) ∧ wr.ownsRow B 3 1 (.slice (some ⟨g, 0, none⟩) zs.length cap) zs.length ((marks s k ++ zs.drop k).map (Value.int .i64)) ∧ w.grownBy wr (some g))
      (fun _ i _ => zs.length - (intOf i).toNat)
    case atStart =>
      exact ⟨0, Nat.zero_le _, rfl, by simp, by simpa [marks, OwI] using hv, World.grownBy.refl _ _⟩
    case round =>
      obtain ⟨k, hk, rfl, rfl, hown, hgr⟩ := hrel
      by_cases hlt : k < zs.length
      · have hoc : wr.cell? ⟨g, k, none⟩ = some (.int .i64 (zs[k]?.getD 0)) := by
          rw [World.ownsRow.cellAt hown k (by omega)]; simp [marks, List.getElem?_append, hlt]
        have hof := World.ownsRow.frozenAt hown k
        have hst := World.ownsRow.stored hown k (.int .i64 (s + k))
        rw [marks_step s zs k hlt] at hst
        have hg2 := grown_trans hgr hst.2
        have hst1 := hst.1
        clear hst hv hown
        go_wp2
        go_roundw
        case rel => exact ⟨k + 1, by omega, by go_num, by go_num, hst1, hg2⟩
        case measure => simp [intOf]; omega
      · go_wp2
        go_ret
        have hkn : k = zs.length := by omega
        subst hkn
        refine ⟨rfl, ?_, hgr⟩
        have := hown
        simp only [List.drop_length, List.append_nil] at this
        unfold OwI
        rw [marks_length]
        exact this

set_option maxHeartbeats 400000 in
set_option maxRecDepth 100000 in
theorem heldIntS_any (v : Value) (n : Nat) (s : Int) (w : World) (hv : RdI w.heap.size w v (marks s n)) (hn : n ≤ 4194304) (h0 : 0 ≤ s) (h1 : s ≤ 4611686018427387904) :
    Calls Try.prog 11 #[v, .int .i64 s] w fun e w' => e = .returned (.int .i64 (s + n)) ∧ w' = w := by
  obtain ⟨a, cap, rfl, hr⟩ := hv
  rw [marks_length] at hr ⊢
  go_enter Try.func11, Try.ntmps11
  go_wp2
  go_loop [1, 5] (fun t i => ∃ k : Nat, k ≤ n ∧ i = .int .i64 k ∧ t = .int .i64 (s + k))
    (fun _ i => n - (intOf i).toNat)
  case atStart => exact ⟨0, Nat.zero_le _, rfl, by simp⟩
  case round =>
    obtain ⟨k, hk, rfl, rfl⟩ := hrel
    by_cases hlt : k < n
    · obtain ⟨b, off, rfl, hb, hc⟩ := hr (fun h => by have := marks_length s n; rw [h] at this; simp at this; omega)
      have hcx : w.cell? ⟨b, off + k, none⟩ = some (.int .i64 (s + k)) := by rw [hc k hlt, marks_get s n k hlt]
      clear hc hr hb
      go_wp2
      go_round
      case rel => exact ⟨k + 1, by omega, by go_num, by go_num⟩
      case measure => simp [intOf]; omega
    · go_wp2
      go_ret
      have hkn : k = n := by omega
      subst hkn
      exact ⟨rfl, rfl⟩

end Go.Proofs.Ytdhdbjjeepcimaa
