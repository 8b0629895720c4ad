import Derived.Test.YtdcajkgmhimffabTu
namespace Go.Proofs.Ytdcajkgmhimffab
open Go.RowKit

set_option maxHeartbeats 1000000 in
set_option maxRecDepth 100000 in
theorem specToUnits_any (v : Value) (zs : List Int) (w : World) (hv : RdI w.heap.size w v zs) (hn : zs.length ≤ 2097152) :
    Calls Try.prog 4 #[v] w fun e w' => ∃ v', e = .returned (.tuple #[v', .int .i64 (tuR zs).2]) ∧ OwI w.heap.size w' v' (tuR zs).1 ∧ w.grownBy w' none := by
  obtain ⟨i0, hi, hz0, hz1, hz2⟩ := info_parts info3
  obtain ⟨a, cap, rfl, hr⟩ := hv
  go_enter Try.func4, Try.ntmps4
  go_wp2
  go_loopw [4, 5] (fun v i wr => ∃ k : Nat, k ≤ zs.length ∧ i = .int .i64 k ∧ OwI w.heap.size wr v (tuAll (zs.take k)) ∧ (zs.take k).all isPt = true ∧ Below w.heap.size w wr)
    (fun _ i _ => zs.length - (intOf i).toNat)
  case atStart => exact ⟨0, Nat.zero_le _, rfl, World.ownsRow_nil _ _ _ _, rfl, Below.refl _ _⟩
  case round =>
    obtain ⟨k, hk, rfl, hown, hall, hnx⟩ := hrel
    have hlen := tuAll_len (zs.take k)
    rw [List.length_take_of_le hk] at hlen
    by_cases hlt : k < zs.length
    · obtain ⟨b, off, rfl, hb, hc⟩ := hr (fun h => by simp [h] at hlt)
      have hcx : wr.cell? ⟨b, off + k, none⟩ = some (.int .i64 (zs[k]?.getD 0)) := (hnx.cell (by exact hb)).trans (hc k hlt)
      have hlo := tuAll_lo zs k hlt
      have hhi := tuAll_hi zs k hlt
      have hal := all_snoc zs isPt k hlt hall
      have han := all_not zs isPt k hlt
      generalize zs[k]?.getD 0 = p at hcx hlo hhi hal han
      by_cases hp : 0 ≤ p ∧ p ≤ 1114111
      · have hal' := hal (by simp [isPt, hp])
        obtain ⟨hp0, hp1⟩ := hp
        by_cases hp2 : p < 65536
        · have HE : Hid (tuAll (zs.take (k + 1)) = tuAll (zs.take k) ++ [p]) := hlo hp2
          clear hlo hhi hal han hc hr
          go_wp2_with (at_builtin; refine wpList_append_own _ rfl _ _ 22 rfl w.heap.size 3 i0 (.int .i64 0) 1 8 Try.underlying22 hi hz0 hz1 hz2 rfl (by decide) _ _ _ rfl (hown.alloc _) ⟨wr.heap.size, 0, none⟩ 1 1 [.int .i64 p] rfl rfl (cell_one_new _ _ _) (by intro u hu; simp at hu; subst hu; rfl) (by unfold maxLen; omega) (by omega) (by have := hnx.size; simp; omega) ?_; intro v' w1 hown' hgrow _)
          have R := own_app (xs := [p]) _ hnx.size hown hown' (by simp) hgrow
          rw [← HE.out] at R
          clear hown' hgrow hown
          go_wp2
          go_roundw
          case rel => exact ⟨k + 1, by omega, by go_num, R.1, hal', hnx.trans R.2⟩
          case measure => simp [intOf]; omega
        · have HE : Hid (tuAll (zs.take (k + 1)) = tuAll (zs.take k) ++ [55296 + (p - 65536) / 1024, 56320 + (p - 65536) % 1024]) := hhi hp2
          clear hlo hhi hal han hc hr
          go_wp2_with (first
            | (at_builtin; refine wpList_append_own _ rfl (.tmp 29) (.tmp 34) 22 rfl w.heap.size 3 i0 (.int .i64 0) 1 8 Try.underlying22 hi hz0 hz1 hz2 rfl (by decide) _ _ _ rfl (hown.alloc _) ⟨wr.heap.size, 0, none⟩ 1 1 [.int .i64 (55296 + (p - 65536) / 1024)] rfl rfl (cell_one_new _ _ _) (by intro u hu; simp at hu; subst hu; rfl) (by unfold maxLen; omega) (by omega) (by have := hnx.size; simp; omega) ?_; intro v1 w1 hown1 hgrow1 _; have R1 := own_app (xs := [55296 + (p - 65536) / 1024]) _ hnx.size hown hown1 (by simp) hgrow1; clear hown1 hgrow1)
            | (at_builtin; refine wpList_append_own _ rfl (.tmp 36) (.tmp 41) 22 rfl w.heap.size 3 i0 (.int .i64 0) 1 8 Try.underlying22 hi hz0 hz1 hz2 rfl (by decide) _ _ _ rfl (R1.1.alloc _) ⟨w1.heap.size, 0, none⟩ 1 1 [.int .i64 (56320 + (p - 65536) % 1024)] rfl rfl (cell_one_new _ _ _) (by intro u hu; simp at hu; subst hu; rfl) (by rw [List.length_append]; unfold maxLen; simp; omega) (by rw [List.length_append]; simp; omega) (by have := hnx.size; have := R1.2.size; simp; omega) ?_; intro v2 w2 hown2 hgrow2 _; have R2 := own_app (xs := [56320 + (p - 65536) % 1024]) _ (Nat.le_trans hnx.size R1.2.size) R1.1 hown2 (by simp) hgrow2; clear hown2 hgrow2))
          rw [List.append_assoc] at R2
          go_roundw
          case rel => exact ⟨k + 1, by omega, by go_num, by rw [HE.out]; exact R2.1, hal', (hnx.trans R1.2).trans R2.2⟩
          case measure => simp [intOf]; omega
      · have HF : Hid (zs.all isPt = false) := han (by simp [isPt, hp])
        clear hlo hhi hal han hc hr
        by_cases hp0 : p < 0
        · go_wp2
          go_ret2
          exact ⟨_, by rw [tuR_bad _ HF.out]; rfl, by rw [tuR_bad _ HF.out]; exact World.ownsRow_nil _ _ _ _, grown_of_below hnx⟩
        · have hp1 : 1114111 < p := by omega
          go_wp2
          go_ret2
          exact ⟨_, by rw [tuR_bad _ HF.out]; rfl, by rw [tuR_bad _ HF.out]; exact World.ownsRow_nil _ _ _ _, grown_of_below hnx⟩
    · have HF : Hid (tuR zs = (tuAll zs, 0)) := by
        unfold Hid
        rw [List.take_of_length_le (by omega)] at hall
        exact tuR_ok _ hall
      have hkn : k = zs.length := by omega
      rw [hkn, List.take_length] at hown
      clear hr hall hkn
      go_wp2
      go_ret2
      exact ⟨_, by rw [HF.out]; rfl, by rw [HF.out]; exact hown, grown_of_below hnx⟩

end Go.Proofs.Ytdcajkgmhimffab
