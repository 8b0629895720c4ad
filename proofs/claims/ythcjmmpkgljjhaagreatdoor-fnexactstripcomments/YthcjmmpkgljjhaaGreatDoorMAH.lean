import Derived.Test.YthcjmmpkgljjhaaGreatDoorMAB
import Derived.Test.YthcjmmpkgljjhaaGreatDoorMAF
namespace Go.Proofs.YthcjmmpkgljjhaaGreatDoor
open Go.RowKit

theorem fsize_of {s : List Int} {m : Nat} (h1 : 1 ≤ m) (h4 : m ≤ 4) (hlo : ∀ j, 1 ≤ j → j < m → hit s j = false) (h : hit s m = true) : fsize s = m := by
  unfold fsize
  by_cases e1 : m = 1
  · subst e1; simp [h]
  · have g1 := hlo 1 (by omega) (by omega)
    by_cases e2 : m = 2
    · subst e2; simp [h, g1]
    · have g2 := hlo 2 (by omega) (by omega)
      by_cases e3 : m = 3
      · subst e3; simp [h, g1, g2]
      · have g3 := hlo 3 (by omega) (by omega)
        have e4 : m = 4 := by omega
        subst e4; simp [h, g1, g2, g3]
theorem fsize_none {s : List Int} {m : Nat} (h4 : 4 < m) (hlo : ∀ j, 1 ≤ j → j < m → hit s j = false) : fsize s = 0 := by
  unfold fsize
  simp [hlo 1 (by omega) (by omega), hlo 2 (by omega) (by omega), hlo 3 (by omega) (by omega), hlo 4 (by omega) (by omega)]
theorem hlo_step {s : List Int} {m : Nat} (hlo : ∀ j, 1 ≤ j → j < m → hit s j = false) (h : hit s m = false) : ∀ j, 1 ≤ j → j < m + 1 → hit s j = false := by
  intro j h1 h2
  by_cases e : j = m
  · rw [e]; exact h
  · exact hlo j h1 (by omega)

set_option maxHeartbeats 2000000 in
set_option maxRecDepth 100000 in
theorem specDecodeText_any (v : Value) (zs : List Int) (w : World) (hv : RdB w.heap.size w v zs) (hby : Bys zs) (hn : zs.length ≤ 1048576) :
    Calls Tryz.prog 60 #[v] w fun e w' => ∃ v', e = .returned (.tuple #[v', .int .i64 (decR zs).2.1, .int .i64 (decR zs).2.2]) ∧ OwI w.heap.size w' v' (decR zs).1 ∧ w.grownBy w' none := by
  obtain ⟨i0, hi, hz0, hz1, hz2⟩ := info_parts info3
  obtain ⟨a, cap, rfl, hr⟩ := hv
  have HV : Hid (RdB w.heap.size w (.slice a zs.length cap) zs) := ⟨a, cap, rfl, hr⟩
  clear hr
  go_enter Tryz.func60, Tryz.ntmps60
  go_wp2
  go_loopw [5, 6] (fun v i wr => ∃ (k : Nat) (acc : List Int), i = .int .i64 k ∧ OwI w.heap.size wr v acc ∧ Mid zs acc k ∧ Below w.heap.size w wr)
    (fun _ i _ => zs.length - (intOf i).toNat)
  case atStart => exact ⟨0, [], rfl, World.ownsRow_nil _ _ _ _, Mid.start zs, Below.refl _ _⟩
  case round =>
    obtain ⟨k, acc, rfl, hown, hmid, hnx⟩ := hrel
    have hkl := hmid.1
    have hal := hmid.2.1
    have HM : Hid (Mid zs acc k) := hmid
    clear hmid
    by_cases hlt : k < zs.length
    · obtain ⟨s, hs⟩ : ∃ s, s = zs.drop k := ⟨_, rfl⟩
      have HS : Hid (s = zs.drop k) := hs
      clear hs
      have HR : Hid (RdB wr.heap.size wr (.slice a zs.length cap) zs) := HV.out.later (grown_of_below hnx)
      go_wp2
      go_loop [5, 7, 8] (fun o st i => o = u5 ∧ st = .int .i64 0 ∧ ∃ m : Nat, 1 ≤ m ∧ m ≤ 5 ∧ i = .int .i64 m ∧ Hid (∀ j, 1 ≤ j → j < m → hit s j = false))
        (fun _ _ i => 5 - (intOf i).toNat)
      case atStart => exact ⟨rfl, rfl, 1, by omega, by omega, rfl, fun j h1 h2 => by omega⟩
      case round =>
        obtain ⟨rfl, rfl, m, hm1, hm5, rfl, HLO⟩ := hrel
        by_cases hm4 : m ≤ 4
        · have hval := l1value_any _ zs k m wr HR.out hby (by omega) hlt hm1 hm4
          rw [← HS.out] at hval
          have HVAL := hval
          clear hval
          by_cases hx0 : 0 ≤ lv s m
          · cases hh : (need (lv s m) == (m : Int))
            · have HLO' : Hid (∀ j, 1 ≤ j → j < m + 1 → hit s j = false) := hlo_step HLO.out (by simp [hit, hh])
              generalize lv s m = x at HVAL hx0 hh
              go_wp2_with (first
                | (go_at_call 70; refine HVAL.mono ?_; rintro e w' ⟨rfl, rfl⟩)
                | (go_at_call 71; refine (l1need_any _ _).mono ?_; rintro e w' ⟨rfl, rfl⟩))
              go_round
              case rel => exact ⟨rfl, rfl, m + 1, by omega, by omega, by go_num, HLO'⟩
              case measure => simp [intOf]; omega
            · have HSZ : Hid (fsize s = m) := fsize_of hm1 hm4 HLO.out (by simp [hit, hh, hx0])
              have hne : ((m : Int) == 0) = false := by simp; omega
              have HMID : Hid (Mid zs (acc ++ [lv s m]) (k + m)) := by
                have h := HM.out.step hlt (by rw [← HS.out, HSZ.out]; omega)
                rw [← HS.out, HSZ.out] at h
                exact h
              have hkm : k + m ≤ zs.length := HMID.out.1
              generalize lv s m = x at HVAL hx0 hh HMID
              go_wp2_with (first
                | (go_at_call 70; refine HVAL.mono ?_; rintro e w' ⟨rfl, rfl⟩)
                | (go_at_call 71; refine (l1need_any _ _).mono ?_; rintro e w' ⟨rfl, rfl⟩)
                | (at_builtin; refine wpList_append_own _ rfl _ _ 39 rfl w.heap.size 3 i0 (.int .i64 0) 1 8 Tryz.underlying39 hi hz0 hz1 hz2 rfl (by decide) _ _ _ rfl (World.ownsRow.alloc hown _) ⟨wr.heap.size, 0, none⟩ 1 1 [.int .i64 x] rfl rfl (cell_one_new _ _ _) (by intro u hu; simp at hu; subst hu; rfl) (by unfold maxLen; omega) (by omega) (by have := hnx.size; simp; omega) ?_; intro v' w1 hown' hgrow _))
              have R := own_app (xs := [x]) _ hnx.size hown hown' (by simp) hgrow
              clear hown' hgrow hown HVAL
              go_wp2
              go_roundw
              case rel => exact ⟨k + m, acc ++ [x], by go_num, R.1, HMID.out, hnx.trans R.2⟩
              case measure => simp [intOf]; omega
          · have HLO' : Hid (∀ j, 1 ≤ j → j < m + 1 → hit s j = false) := hlo_step HLO.out (by simp [hit]; omega)
            generalize lv s m = x at HVAL hx0
            have hx1 : x < 0 := by omega
            go_wp2_with (go_at_call 70; refine HVAL.mono ?_; rintro e w' ⟨rfl, rfl⟩)
            go_round
            case rel => exact ⟨rfl, rfl, m + 1, by omega, by omega, by go_num, HLO'⟩
            case measure => simp [intOf]; omega
        · have HSZ : Hid (fsize s = 0) := fsize_none (by omega) HLO.out
          have HD : Hid (decR zs = ([], 2, (k : Int))) := by
            refine HM.out.bad hlt ?_
            rw [← HS.out]; exact HSZ.out
          go_wp2
          go_ret3
          exact ⟨_, by rw [HD.out]; rfl, by rw [HD.out]; exact World.ownsRow_nil _ _ _ _, grown_of_below hnx⟩
    · have HD : Hid (decR zs = (acc, 0, 0)) := HM.out.done hlt
      go_wp2
      go_ret3
      exact ⟨_, by rw [HD.out]; rfl, by rw [HD.out]; exact hown, grown_of_below hnx⟩

end Go.Proofs.YthcjmmpkgljjhaaGreatDoor

