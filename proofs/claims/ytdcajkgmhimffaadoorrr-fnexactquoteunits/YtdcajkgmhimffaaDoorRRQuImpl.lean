import Derived.Test.YtdcajkgmhimffaaDoorRRQuApp
import Derived.Test.YtdcajkgmhimffaaDoorRRFuImpl
namespace Go.Proofs.YtdcajkgmhimffaaDoorRR
open Go.RowKit

theorem fu_bds : ∀ (n : Nat) (zs : List Int), zs.length ≤ n → zs.all isUn = true → ∀ p ∈ fu zs, 0 ≤ p ∧ p ≤ 1114111
  | _, [], _, _ => by simp [fu]
  | _, [u], _, h => by
    simp [isUn] at h
    simp [fu]
    omega
  | 0, _ :: _ :: _, hl, _ => by simp at hl
  | n + 1, u :: x :: r, hl, h => by
    simp only [List.all_cons, Bool.and_eq_true] at h
    obtain ⟨hu, hx, hr⟩ := h
    have hu' : 0 ≤ u ∧ u < 65536 := by simpa [isUn] using hu
    intro p hp
    simp only [fu] at hp
    split at hp
    · rename_i hh
      simp only [Bool.and_eq_true] at hh
      have h1 : 55296 ≤ u ∧ u < 56320 := by simpa [isHi] using hh.1
      have h2 : 56320 ≤ x ∧ x ≤ 57343 := by simpa [isLo] using hh.2
      rcases List.mem_cons.1 hp with rfl | hp
      · unfold pairOf; omega
      · exact fu_bds n r (by simp at hl; omega) hr p hp
    · rcases List.mem_cons.1 hp with rfl | hp
      · omega
      · exact fu_bds n (x :: r) (by simp at hl ⊢; omega) (by simp only [List.all_cons, hx, hr]; rfl) p hp
theorem fu_bd (us : List Int) (h : (fuR us).2 = 0) : ∀ p ∈ (fuR us).1, 0 ≤ p ∧ p ≤ 1114111 := by
  unfold fuR at h ⊢
  split at h
  · rename_i ha
    rw [if_pos ha]
    exact fu_bds _ us (Nat.le_refl _) ha
  · simp at h
theorem own_one (w : World) (z : Int) : OwB w.heap.size (w.alloc (.cells #[.int .u8 z] 5)) (.slice (some ⟨w.heap.size, 0, none⟩) 1 1) [z] :=
  ⟨rfl, .inr ⟨w.heap.size, 1, #[.int .u8 z], rfl, Nat.le_refl _, heap_alloc_new w _, Nat.le_refl _, by unfold maxLen; omega, rfl, rfl⟩⟩

set_option maxHeartbeats 2000000 in
set_option maxRecDepth 100000 in
theorem implQuote_any (v : Value) (zs : List Int) (w : World) (hT : Tab w) (hv : RdI w.heap.size w v zs) (hn : zs.length ≤ 1048576) :
    Calls Tryd.prog 11 #[v] w fun e w' => ∃ v', e = .returned (.tuple #[v', .int .i64 (quR zs).2]) ∧ OwB w.heap.size w' v' (quR zs).1 ∧ w.grownBy w' none := by
  obtain ⟨i0, hi, hz0, hz1, hz2⟩ := info_parts info5
  have HF := hide (implFromUnits_any v zs w hv (by omega))
  have hbd := fu_bd zs
  have hfl := fuR_len zs
  have HQ : Hid (quR zs = if (fuR zs).2 = 0 then (34 :: qAll (fuR zs).1 ++ [34], 0) else ([], (fuR zs).2)) := rfl
  obtain ⟨a, cap, rfl, _⟩ := hv
  generalize fuR zs = f at HF hbd hfl HQ
  obtain ⟨ps, c⟩ := f
  simp only at HF hbd hfl HQ
  by_cases hc : c = 0
  · subst hc
    have HB := hide (hbd rfl)
    have HR := hide (HQ.out.trans (if_pos rfl))
    clear hbd HQ
    go_enter Tryd.func11, Tryd.ntmps11
    go_wp2_with fail
    refine HF.out.mono ?_
    rintro e w1 ⟨pv, rfl, o1, g1⟩
    obtain ⟨a1, cap1, hpv, hr1⟩ := o1.rd
    subst hpv
    have HT1 := hide (hT.keep g1)
    have HG1 := hide g1
    have hB1 := g1.size
    clear hT HF o1
    go_wp2
    go_loopw [6, 20] (fun v i wr => ∃ k : Nat, k ≤ ps.length ∧ i = .int .i64 k ∧ OwB w1.heap.size wr v (34 :: qAll (ps.take k)) ∧ Below w1.heap.size w1 wr)
      (fun _ i _ => ps.length - (intOf i).toNat)
    case atStart => exact ⟨0, Nat.zero_le _, rfl, own_one w1 34, below_box w1 _⟩
    case round =>
      obtain ⟨k, hk, rfl, hown, hnx⟩ := hrel
      have hlen := qAll_len (ps.take k)
      rw [List.length_take_of_le hk] at hlen
      have hBr := hnx.size
      have hT1 := HT1.out.below hnx HT1.out.pos
      by_cases hlt : k < ps.length
      · obtain ⟨b, off, rfl, hb, hc⟩ := hr1 (fun h => by simp [h] at hlt)
        have hcx : wr.cell? ⟨b, off + k, none⟩ = some (.int .i64 (ps[k]?.getD 0)) := (hnx.cell (by exact hb)).trans (hc k hlt)
        have hst := qAll_step ps k hlt
        have hpb := HB.out (ps[k]?.getD 0) (by simp [hlt])
        generalize ps[k]?.getD 0 = p at hcx hst hpb
        have HE : Hid (34 :: qAll (ps.take (k + 1)) = (34 :: qAll (ps.take k)) ++ qOne p) := by rw [Hid, hst]; rfl
        have HX := hide (appendQuoted_any w1.heap.size _ _ p wr hBr hT1 hown (by simp; omega) hpb.1 hpb.2)
        obtain ⟨hp0, hp1⟩ := hpb
        have hwr : IntKind.i32.wrap p = p := wrap_i32_small p (by omega) (by omega)
        clear hst hc hr1 hown hT1
        go_wp2_with fail
        refine HX.out.mono ?_
        rintro e w2 ⟨v2, rfl, o2, b2⟩
        rw [← HE.out] at o2
        go_wp2
        go_roundw
        case rel => exact ⟨k + 1, by omega, by go_num, o2, hnx.trans b2⟩
        case measure => simp [intOf]; omega
      · have hkn : k = ps.length := by omega
        rw [hkn, List.take_length] at hown hlen
        clear hr1 hkn hT1
        have hl2 : (34 :: qAll ps).length = (qAll ps).length + 1 := by simp
        go_wp2_with (at_builtin; refine wpList_append_own _ rfl _ _ 22 rfl w1.heap.size 5 i0 (.int .u8 0) 1 1 Tryd.underlying22 hi hz0 hz1 hz2 rfl (by decide) _ _ _ rfl (World.ownsRow.alloc hown _) ⟨wr.heap.size, 0, none⟩ 1 1 [.int .u8 34] rfl rfl (cell_one_new _ _ _) (by intro u hu; simp at hu; subst hu; rfl) (by rw [hl2]; unfold maxLen; omega) (by rw [hl2]; omega) (by simp; omega) ?_; intro v' w2 hown' hgrow _)
        have R := own_app (xs := [34]) _ hBr hown hown' (by simp) hgrow
        clear hown' hgrow hown
        go_wp2
        go_ret2
        refine ⟨_, by rw [HR.out]; rfl, ?_, ?_⟩
        · rw [HR.out]
          exact row_base hB1 R.1
        · exact grown_trans HG1.out (grown_of_below (hnx.trans R.2))
  · have HR := hide (HQ.out.trans (if_neg hc))
    have hce : (c != 0) = true := by simpa using hc
    clear hbd HQ hc
    go_enter Tryd.func11, Tryd.ntmps11
    go_wp2_with fail
    refine HF.out.mono ?_
    rintro e w1 ⟨pv, rfl, o1, g1⟩
    go_wp2
    go_ret2
    exact ⟨_, by rw [HR.out]; rfl, by rw [HR.out]; exact World.ownsRow_nil _ _ _ _, g1⟩

end Go.Proofs.YtdcajkgmhimffaaDoorRR
