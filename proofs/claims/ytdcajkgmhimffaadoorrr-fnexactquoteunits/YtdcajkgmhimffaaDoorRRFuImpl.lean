import Derived.Test.YtdcajkgmhimffaaDoorRRFu
import Derived.Test.YtdcajkgmhimffaaDoorRRIsUn
import Derived.Test.YtdcajkgmhimffaaDoorRRIsHi
import Derived.Test.YtdcajkgmhimffaaDoorRRIsLo
namespace Go.Proofs.YtdcajkgmhimffaaDoorRR
open Go.RowKit

set_option maxHeartbeats 2000000 in
set_option maxRecDepth 100000 in
theorem implFromUnits_any (v : Value) (zs : List Int) (w : World) (hv : RdI w.heap.size w v zs) (hn : zs.length ≤ 2097152) :
    Calls Tryd.prog 23 #[v] w fun e w' => ∃ v', e = .returned (.tuple #[v', .int .i64 (fuR zs).2]) ∧ OwI w.heap.size w' v' (fuR zs).1 ∧ w.grownBy w' none := by
  obtain ⟨i0, hi, hz0, hz1, hz2⟩ := info_parts info3
  obtain ⟨a, cap, rfl, hr⟩ := hv
  have hnot : ∀ (x : Bool) (w : World), (Op.unary .not (.bool x)).run Tryd.prog w = .ok (.bool (!x)) w := fun _ _ => rfl
  go_enter Tryd.func23, Tryd.ntmps23
  go_wp2_with (at_make; refine wpList_make_own _ rfl _ _ 26 rfl w.heap.size 3 i0 (.int .i64 0) 1 Tryd.underlying26 hi hz0 hz1 _ _ _ zs.length rfl rfl (by omega) ?b2 ?b3 (Nat.le_refl _) ?_)
  case b2 => rw [hz2]; omega
  case b3 => unfold maxLen; omega
  intro w0 hown0 hgrow0
  go_wp2
  go_loopw [4, 5] (fun v i wr => ∃ (k : Nat) (acc : List Int), k ≤ zs.length ∧ i = .int .i64 k ∧ OwI w.heap.size wr v acc ∧ acc.length ≤ k ∧ acc ++ fu (zs.drop k) = fu zs ∧ (zs.take k).all isUn = true ∧ Below w.heap.size w wr)
    (fun _ i _ => zs.length - (intOf i).toNat)
  case atStart => exact ⟨0, [], Nat.zero_le _, rfl, hown0, Nat.le_refl _, by simp, rfl, below_of_grown hgrow0⟩
  case round =>
    obtain ⟨k, acc, hk, rfl, hown, hacc, hx, hall, hnx⟩ := hrel
    clear hown0 hgrow0
    by_cases hlt : k < zs.length
    · obtain ⟨b, off, rfl, hb, hc⟩ := hr (fun h => by simp [h] at hlt)
      have hcx : wr.cell? ⟨b, off + k, none⟩ = some (.int .i64 (zs[k]?.getD 0)) := (hnx.cell (by exact hb)).trans (hc k hlt)
      have hcy : k + 1 < zs.length → wr.cell? ⟨b, off + (k + 1), none⟩ = some (.int .i64 (zs[k + 1]?.getD 0)) := fun h => (hnx.cell (by exact hb)).trans (hc (k + 1) h)
      have h1 := fu_one zs k hlt
      have h2 := fu_two zs k
      have hal := all_snoc zs isUn k hlt hall
      have hal2 : ∀ _ : k + 1 < zs.length, (zs.take (k + 1)).all isUn = true → isUn (zs[k + 1]?.getD 0) = true → (zs.take (k + 2)).all isUn = true := fun h => all_snoc zs isUn (k + 1) h
      have han := all_not zs isUn k hlt
      generalize zs[k]?.getD 0 = p at hcx h1 h2 hal han
      generalize zs[k + 1]?.getD 0 = x at hcy h1 h2 hal2
      clear hc hr hall
      by_cases hu : isUn p = true
      · have hal' := hal hu
        clear hal han
        by_cases hpair : isHi p = true ∧ k + 1 < zs.length ∧ isLo x = true
        · obtain ⟨hp, hlt1, hx2⟩ := hpair
          have HE : Hid (acc ++ [pairOf p x] ++ fu (zs.drop (k + 2)) = fu zs) := fu_step2 hx (h2 hlt1 hp hx2)
          have hal3 := hal2 hlt1 hal' (lo_un hx2)
          have hcy' := hcy hlt1
          have hb1 : 55296 ≤ p ∧ p < 56320 := by simpa [isHi] using hp
          have hb2 : 56320 ≤ x ∧ x ≤ 57343 := by simpa [isLo] using hx2
          obtain ⟨hp1, hp2⟩ := hb1
          obtain ⟨hx3, hx4⟩ := hb2
          clear h1 h2 hcy hx hal2 hal'
          have HP : Hid (pairOf p x = 65536 + (p - 55296) * 1024 + (x - 56320)) := rfl
          go_wp2_with (first
            | (go_at_call 32; refine (isUnit_any _ _).mono ?_; rintro e w' ⟨rfl, rfl⟩; rw [hu])
            | (go_at_call 33; refine (isHigh_any _ _).mono ?_; rintro e w' ⟨rfl, rfl⟩; rw [hp])
            | (go_at_call 34; refine (isLow_any _ _).mono ?_; rintro e w' ⟨rfl, rfl⟩; rw [hx2])
            | (at_builtin; refine wpList_append_own _ rfl _ _ 26 rfl w.heap.size 3 i0 (.int .i64 0) 1 8 Tryd.underlying26 hi hz0 hz1 hz2 rfl (by decide) _ _ _ rfl (World.ownsRow.alloc hown _) ⟨wr.heap.size, 0, none⟩ 1 1 [.int .i64 (65536 + (p - 55296) * 1024 + (x - 56320))] rfl rfl (cell_one_new _ _ _) (by intro u hu; simp at hu; subst hu; rfl) (by unfold maxLen; omega) (by omega) (by have := hnx.size; simp; omega) ?_; intro v' w1 hown' hgrow _))
          have R := own_app (xs := [65536 + (p - 55296) * 1024 + (x - 56320)]) _ hnx.size hown hown' (by simp) hgrow
          clear hown' hgrow hown
          go_wp2
          go_roundw
          case rel => exact ⟨k + 2, acc ++ [65536 + (p - 55296) * 1024 + (x - 56320)], by omega, by go_num, R.1, by simp; omega, by rw [← HP.out]; exact HE.out, hal3, hnx.trans R.2⟩
          case measure => simp [intOf]; omega
        · have HE : Hid (acc ++ [p] ++ fu (zs.drop (k + 1)) = fu zs) := fu_step1 hx (h1 hpair)
          have hway : isHi p = false ∨ (isHi p = true ∧ zs.length ≤ k + 1) ∨ (isHi p = true ∧ k + 1 < zs.length ∧ isLo x = false) := by
            cases h : isHi p
            · exact .inl rfl
            · by_cases h3 : k + 1 < zs.length
              · cases h4 : isLo x
                · exact .inr (.inr ⟨rfl, h3, rfl⟩)
                · exact absurd ⟨h, h3, h4⟩ hpair
              · exact .inr (.inl ⟨rfl, by omega⟩)
          clear h1 h2 hpair hx hal2
          rcases hway with hw | ⟨hw, hw3⟩ | ⟨hw, hw3, hw4⟩
          all_goals
            first
              | (have hcy' := hcy hw3; clear hcy)
              | clear hcy
            go_wp2_with (first
              | (go_at_call 32; refine (isUnit_any _ _).mono ?_; rintro e w' ⟨rfl, rfl⟩; rw [hu])
              | (go_at_call 33; refine (isHigh_any _ _).mono ?_; rintro e w' ⟨rfl, rfl⟩; rw [hw])
              | (go_at_call 34; refine (isLow_any _ _).mono ?_; rintro e w' ⟨rfl, rfl⟩; rw [hw4])
              | (at_builtin; refine wpList_append_own _ rfl _ _ 26 rfl w.heap.size 3 i0 (.int .i64 0) 1 8 Tryd.underlying26 hi hz0 hz1 hz2 rfl (by decide) _ _ _ rfl (World.ownsRow.alloc hown _) ⟨wr.heap.size, 0, none⟩ 1 1 [.int .i64 p] rfl rfl (cell_one_new _ _ _) (by intro u hu; simp at hu; subst hu; rfl) (by unfold maxLen; omega) (by omega) (by have := hnx.size; simp; omega) ?_; intro v' w1 hown' hgrow _))
            have R := own_app (xs := [p]) _ hnx.size hown hown' (by simp) hgrow
            clear hown' hgrow hown
            go_wp2
            go_roundw
            case rel => exact ⟨k + 1, acc ++ [p], by omega, by go_num, R.1, by simp; omega, HE.out, hal', hnx.trans R.2⟩
            case measure => simp [intOf]; omega
      · have hu' : isUn p = false := by simpa using hu
        have HF : Hid (zs.all isUn = false) := han hu'
        clear hal han h1 h2 hal2 hcy hu
        go_wp2_with (go_at_call 32; refine (isUnit_any _ _).mono ?_; rintro e w' ⟨rfl, rfl⟩; rw [hu'])
        go_ret2
        exact ⟨_, by rw [fuR_bad _ HF.out]; rfl, by rw [fuR_bad _ HF.out]; exact World.ownsRow_nil _ _ _ _, grown_of_below hnx⟩
    · have HF : Hid (zs.all isUn = true) := by
        unfold Hid
        rw [List.take_of_length_le (by omega)] at hall
        exact hall
      have hE := fu_end (by omega) hx
      rw [hE] at hown
      clear hx hr hE hall
      go_wp2
      go_ret2
      exact ⟨_, by rw [fuR_ok _ HF.out]; rfl, by rw [fuR_ok _ HF.out]; exact hown, grown_of_below hnx⟩

end Go.Proofs.YtdcajkgmhimffaaDoorRR
