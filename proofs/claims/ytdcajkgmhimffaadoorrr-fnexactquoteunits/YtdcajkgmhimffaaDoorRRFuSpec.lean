import Derived.Test.YtdcajkgmhimffaaDoorRRFu
namespace Go.Proofs.YtdcajkgmhimffaaDoorRR
open Go.RowKit

set_option maxHeartbeats 2000000 in
set_option maxRecDepth 100000 in
theorem specFromUnits_any (v : Value) (zs : List Int) (w : World) (hv : RdI w.heap.size w v zs) (hn : zs.length ≤ 2097152) :
    Calls Tryd.prog 19 #[v] w fun e w' => ∃ v', e = .returned (.tuple #[v', .int .i64 (fuR zs).2]) ∧ OwI w.heap.size w' v' (fuR zs).1 ∧ w.grownBy w' none := by
  obtain ⟨i0, hi, hz0, hz1, hz2⟩ := info_parts info3
  obtain ⟨a, cap, rfl, hr⟩ := hv
  go_enter Tryd.func19, Tryd.ntmps19
  go_wp2
  go_loop [4] (fun i => ∃ k : Nat, k ≤ zs.length ∧ i = .int .i64 k ∧ (zs.take k).all isUn = true) (fun i => zs.length - (intOf i).toNat)
  case atStart => exact ⟨0, Nat.zero_le _, rfl, rfl⟩
  case round =>
    obtain ⟨k, hk, rfl, hall⟩ := hrel
    by_cases hlt : k < zs.length
    · obtain ⟨b, off, rfl, hb, hc⟩ := hr (fun h => by simp [h] at hlt)
      have hcx := hc k hlt
      have hal := all_snoc zs isUn k hlt hall
      have han := all_not zs isUn k hlt
      generalize zs[k]?.getD 0 = p at hcx hal han
      by_cases hp0 : p < 0
      · have HF : Hid (zs.all isUn = false) := han (by simp [isUn]; omega)
        clear hal han hc hr
        go_wp2
        go_ret2
        exact ⟨_, by rw [fuR_bad _ HF.out]; rfl, by rw [fuR_bad _ HF.out]; exact World.ownsRow_nil _ _ _ _, World.grownBy.refl _ _⟩
      · by_cases hp1 : 65535 < p
        · have HF : Hid (zs.all isUn = false) := han (by simp [isUn]; omega)
          clear hal han hc hr
          go_wp2
          go_ret2
          exact ⟨_, by rw [fuR_bad _ HF.out]; rfl, by rw [fuR_bad _ HF.out]; exact World.ownsRow_nil _ _ _ _, World.grownBy.refl _ _⟩
        · have hal' := hal (by simp [isUn]; omega)
          clear hal han hc hr
          go_wp2
          go_round
          case rel => exact ⟨k + 1, by omega, by go_num, hal'⟩
          case measure => simp [intOf]; omega
    · have HF : Hid (zs.all isUn = true) := by
        unfold Hid
        rw [List.take_of_length_le (by omega)] at hall
        exact hall
      clear hall
      go_wp2
      go_loopw [5, 6] (fun v i wr => ∃ (k : Nat) (acc : List Int), k ≤ zs.length ∧ i = .int .i64 k ∧ OwI w.heap.size wr v acc ∧ acc.length ≤ k ∧ acc ++ fu (zs.drop k) = fu zs ∧ Below w.heap.size w wr)
        (fun _ i _ => zs.length - (intOf i).toNat)
      case atStart => exact ⟨0, [], Nat.zero_le _, rfl, World.ownsRow_nil _ _ _ _, Nat.le_refl _, by simp, Below.refl _ _⟩
      case round =>
        rename_i hk0 hlt0
        obtain ⟨k, acc, hk, rfl, hown, hacc, hx, hnx⟩ := hrel
        by_cases hlt : k < zs.length
        · obtain ⟨b, off, rfl, hb, hc⟩ := hr (fun h => by simp [h] at hlt)
          have hcx : wr.cell? ⟨b, off + k, none⟩ = some (.int .i64 (zs[k]?.getD 0)) := (hnx.cell (by exact hb)).trans (hc k hlt)
          have hcy : k + 1 < zs.length → wr.cell? ⟨b, off + (k + 1), none⟩ = some (.int .i64 (zs[k + 1]?.getD 0)) := fun h => (hnx.cell (by exact hb)).trans (hc (k + 1) h)
          have h1 := fu_one zs k hlt
          have h2 := fu_two zs k
          generalize zs[k]?.getD 0 = p at hcx h1 h2
          generalize zs[k + 1]?.getD 0 = x at hcy h1 h2
          clear hc hr
          by_cases hpair : isHi p = true ∧ k + 1 < zs.length ∧ isLo x = true
          · obtain ⟨hp, hlt1, hx2⟩ := hpair
            have HE := fu_step2 hx (h2 hlt1 hp hx2)
            have HE' : Hid (acc ++ [pairOf p x] ++ fu (zs.drop (k + 2)) = fu zs) := HE
            have hcy' := hcy hlt1
            simp [isHi] at hp
            simp [isLo] at hx2
            obtain ⟨hp1, hp2⟩ := hp
            obtain ⟨hx3, hx4⟩ := hx2
            clear h1 h2 HE hcy hx
            have hpv : pairOf p x = 65536 + (p - 55296) * 1024 + x - 56320 := by unfold pairOf; omega
            have HP : Hid (pairOf p x = 65536 + (p - 55296) * 1024 + x - 56320) := hpv
            clear hpv
            go_wp2_with (at_builtin; refine wpList_append_own _ rfl _ _ 26 rfl w.heap.size 3 i0 (.int .i64 0) 1 8 Tryd.underlying26 hi hz0 hz1 hz2 rfl (by decide) _ _ _ rfl (World.ownsRow.alloc hown _) ⟨wr.heap.size, 0, none⟩ 1 1 [.int .i64 (65536 + (p - 55296) * 1024 + x - 56320)] rfl rfl (cell_one_new _ _ _) (by intro u hu; simp at hu; subst hu; rfl) (by unfold maxLen; omega) (by omega) (by have := hnx.size; simp; omega) ?_; intro v' w1 hown' hgrow _)
            have R := own_app (xs := [65536 + (p - 55296) * 1024 + x - 56320]) _ hnx.size hown hown' (by simp) hgrow
            clear hown' hgrow hown
            go_wp2
            go_roundw
            case rel => exact ⟨k + 2, acc ++ [65536 + (p - 55296) * 1024 + x - 56320], by omega, by go_num, R.1, by simp; omega, by rw [← HP.out]; exact HE'.out, hnx.trans R.2⟩
            case measure => simp [intOf]; omega
          · have HE : Hid (acc ++ [p] ++ fu (zs.drop (k + 1)) = fu zs) := fu_step1 hx (h1 hpair)
            have hway : p < 55296 ∨ 56319 < p ∨ (55296 ≤ p ∧ p ≤ 56319 ∧ zs.length ≤ k + 1) ∨ (55296 ≤ p ∧ p ≤ 56319 ∧ k + 1 < zs.length ∧ x < 56320) ∨ (55296 ≤ p ∧ p ≤ 56319 ∧ k + 1 < zs.length ∧ 56320 ≤ x ∧ 57343 < x) := by
              simp only [isHi, isLo, decide_eq_true_eq] at hpair; omega
            clear h1 h2 hpair hx
            rcases hway with hw | hw | ⟨hw1, hw2, hw3⟩ | ⟨hw1, hw2, hw3, hw4⟩ | ⟨hw1, hw2, hw3, hw4, hw5⟩
            all_goals
              first
                | (have hcy' := hcy hw3; clear hcy)
                | clear hcy
              go_wp2_with (at_builtin; refine wpList_append_own _ rfl _ _ 26 rfl w.heap.size 3 i0 (.int .i64 0) 1 8 Tryd.underlying26 hi hz0 hz1 hz2 rfl (by decide) _ _ _ rfl (World.ownsRow.alloc hown _) ⟨wr.heap.size, 0, none⟩ 1 1 [.int .i64 p] rfl rfl (cell_one_new _ _ _) (by intro u hu; simp at hu; subst hu; rfl) (by unfold maxLen; omega) (by omega) (by have := hnx.size; simp; omega) ?_; intro v' w1 hown' hgrow _)
              have R := own_app (xs := [p]) _ hnx.size hown hown' (by simp) hgrow
              clear hown' hgrow hown
              go_wp2
              go_roundw
              case rel => exact ⟨k + 1, acc ++ [p], by omega, by go_num, R.1, by simp; omega, HE.out, hnx.trans R.2⟩
              case measure => simp [intOf]; omega
        · have hE := fu_end (by omega) hx
          rw [hE] at hown
          clear hx hr hE
          go_wp2
          go_ret2
          exact ⟨_, by rw [fuR_ok _ HF.out]; rfl, by rw [fuR_ok _ HF.out]; exact hown, grown_of_below hnx⟩

end Go.Proofs.YtdcajkgmhimffaaDoorRR
