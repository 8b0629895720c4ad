import Derived.Test.YtdcajkgmhimffaaDoorRRQuHex
import Derived.Test.YtdcajkgmhimffaaDoorRRAppForm
import Derived.Test.YtdcajkgmhimffaaDoorRRHasForm
namespace Go.Proofs.YtdcajkgmhimffaaDoorRR
open Go.RowKit

theorem qOne_hex {p : Int} (h1 : short p = []) (h2 : byHex p = true) : qOne p = hex4 p := by simp [qOne, h1, h2]
theorem qOne_enc {p : Int} (h1 : short p = []) (h2 : byHex p = false) : qOne p = enc p := by simp [qOne, h1, h2]
theorem short_no {p : Int} (a : p ≠ 8) (b : p ≠ 12) (c : p ≠ 10) (d : p ≠ 13) (e : p ≠ 9) (f : p ≠ 34) (g : p ≠ 92) : short p = [] := by simp [short, a, b, c, d, e, f, g]

set_option maxHeartbeats 2000000 in
set_option maxRecDepth 100000 in
theorem appendQuoted_any (B : Nat) (v : Value) (ys : List Int) (p : Int) (w : World) (hB : B ≤ w.heap.size) (hT : Tab w) (hown : OwB B w v ys) (hn : ys.length ≤ 8388000) (hp0 : 0 ≤ p) (hp1 : p ≤ 1114111) :
    Calls Tryd.prog 24 #[v, .int .i32 p] w fun e w' => ∃ v', e = .returned v' ∧ OwB B w' v' (ys ++ qOne p) ∧ Below B w w' := by
  have hnot : ∀ (x : Bool) (w : World), (Op.unary .not (.bool x)).run Tryd.prog w = .ok (.bool (!x)) w := fun _ _ => rfl
  obtain ⟨i0, hi, hz0, hz1, hz2⟩ := info_parts info5
  by_cases h34 : p = 34
  · subst h34
    go_enter Tryd.func24, Tryd.ntmps24
    go_wp2_with (at_builtin; refine wpList_append_own _ rfl _ _ 22 rfl B 5 i0 (.int .u8 0) 1 1 Tryd.underlying22 hi hz0 hz1 hz2 rfl (by decide) _ _ _ rfl (World.ownsRow.alloc hown _) ⟨w.heap.size, 0, none⟩ 2 2 [.int .u8 92, .int .u8 34] rfl rfl (cells_two _ _ _ _) (by intro u hu; simp at hu; rcases hu with rfl | rfl <;> rfl) (by unfold maxLen; omega) (by omega) (by simp; omega) ?_; intro v' w1 hown' hgrow _)
    have R := own_app (xs := [92, 34]) _ hB hown hown' (by simp) hgrow
    go_wp2
    go_ret
    exact ⟨_, rfl, R.1, R.2⟩
  by_cases h92 : p = 92
  · subst h92
    go_enter Tryd.func24, Tryd.ntmps24
    go_wp2_with (at_builtin; refine wpList_append_own _ rfl _ _ 22 rfl B 5 i0 (.int .u8 0) 1 1 Tryd.underlying22 hi hz0 hz1 hz2 rfl (by decide) _ _ _ rfl (World.ownsRow.alloc hown _) ⟨w.heap.size, 0, none⟩ 2 2 [.int .u8 92, .int .u8 92] rfl rfl (cells_two _ _ _ _) (by intro u hu; simp at hu; rcases hu with rfl | rfl <;> rfl) (by unfold maxLen; omega) (by omega) (by simp; omega) ?_; intro v' w1 hown' hgrow _)
    have R := own_app (xs := [92, 92]) _ hB hown hown' (by simp) hgrow
    go_wp2
    go_ret
    exact ⟨_, rfl, R.1, R.2⟩
  by_cases h8 : p = 8
  · subst h8
    go_enter Tryd.func24, Tryd.ntmps24
    go_wp2_with (at_builtin; refine Lib.wpList_append_own_string _ rfl _ _ 22 9 rfl B 5 i0 Tryd.underlying22 Tryd.underlying9 hi hz0 hz1 hz2 _ _ _ rfl hown { data := #[92, 98] } rfl (by unfold maxLen; simp [ByteArray.size]; omega) (by simp [ByteArray.size]; omega) hB ?_; intro v1 w1 hown1 hgrow1 _)
    have o1 : OwB B w1 v1 (ys ++ [92, 98]) := own_str _ rfl _ (by simp [ByteArray.size]) hown1
    have b1 := below_own8 hB hown hgrow1
    go_wp2
    go_ret
    exact ⟨_, rfl, o1, b1⟩
  by_cases h12 : p = 12
  · subst h12
    go_enter Tryd.func24, Tryd.ntmps24
    go_wp2_with (at_builtin; refine Lib.wpList_append_own_string _ rfl _ _ 22 9 rfl B 5 i0 Tryd.underlying22 Tryd.underlying9 hi hz0 hz1 hz2 _ _ _ rfl hown { data := #[92, 102] } rfl (by unfold maxLen; simp [ByteArray.size]; omega) (by simp [ByteArray.size]; omega) hB ?_; intro v1 w1 hown1 hgrow1 _)
    have o1 : OwB B w1 v1 (ys ++ [92, 102]) := own_str _ rfl _ (by simp [ByteArray.size]) hown1
    have b1 := below_own8 hB hown hgrow1
    go_wp2
    go_ret
    exact ⟨_, rfl, o1, b1⟩
  by_cases h10 : p = 10
  · subst h10
    go_enter Tryd.func24, Tryd.ntmps24
    go_wp2_with (at_builtin; refine Lib.wpList_append_own_string _ rfl _ _ 22 9 rfl B 5 i0 Tryd.underlying22 Tryd.underlying9 hi hz0 hz1 hz2 _ _ _ rfl hown { data := #[92, 110] } rfl (by unfold maxLen; simp [ByteArray.size]; omega) (by simp [ByteArray.size]; omega) hB ?_; intro v1 w1 hown1 hgrow1 _)
    have o1 : OwB B w1 v1 (ys ++ [92, 110]) := own_str _ rfl _ (by simp [ByteArray.size]) hown1
    have b1 := below_own8 hB hown hgrow1
    go_wp2
    go_ret
    exact ⟨_, rfl, o1, b1⟩
  by_cases h13 : p = 13
  · subst h13
    go_enter Tryd.func24, Tryd.ntmps24
    go_wp2_with (at_builtin; refine Lib.wpList_append_own_string _ rfl _ _ 22 9 rfl B 5 i0 Tryd.underlying22 Tryd.underlying9 hi hz0 hz1 hz2 _ _ _ rfl hown { data := #[92, 114] } rfl (by unfold maxLen; simp [ByteArray.size]; omega) (by simp [ByteArray.size]; omega) hB ?_; intro v1 w1 hown1 hgrow1 _)
    have o1 : OwB B w1 v1 (ys ++ [92, 114]) := own_str _ rfl _ (by simp [ByteArray.size]) hown1
    have b1 := below_own8 hB hown hgrow1
    go_wp2
    go_ret
    exact ⟨_, rfl, o1, b1⟩
  by_cases h9 : p = 9
  · subst h9
    go_enter Tryd.func24, Tryd.ntmps24
    go_wp2_with (at_builtin; refine Lib.wpList_append_own_string _ rfl _ _ 22 9 rfl B 5 i0 Tryd.underlying22 Tryd.underlying9 hi hz0 hz1 hz2 _ _ _ rfl hown { data := #[92, 116] } rfl (by unfold maxLen; simp [ByteArray.size]; omega) (by simp [ByteArray.size]; omega) hB ?_; intro v1 w1 hown1 hgrow1 _)
    have o1 : OwB B w1 v1 (ys ++ [92, 116]) := own_str _ rfl _ (by simp [ByteArray.size]) hown1
    have b1 := below_own8 hB hown hgrow1
    go_wp2
    go_ret
    exact ⟨_, rfl, o1, b1⟩
  by_cases h127 : p = 127
  · subst h127
    have HQ : Hid (qOne 127 = hex4 127) := qOne_hex rfl rfl
    have HX := hide (appendHex_any B v ys 127 w hB hown (by omega) (by omega) (by omega))
    go_enter Tryd.func24, Tryd.ntmps24
    go_wp2_with fail
    refine HX.out.mono ?_
    rintro e w1 ⟨v1, rfl, o1, b1⟩
    rw [← HQ.out] at o1
    go_wp2
    go_ret
    exact ⟨_, rfl, o1, b1⟩
  by_cases h8232 : p = 8232
  · subst h8232
    have HQ : Hid (qOne 8232 = hex4 8232) := qOne_hex rfl rfl
    have HX := hide (appendHex_any B v ys 8232 w hB hown (by omega) (by omega) (by omega))
    go_enter Tryd.func24, Tryd.ntmps24
    go_wp2_with fail
    refine HX.out.mono ?_
    rintro e w1 ⟨v1, rfl, o1, b1⟩
    rw [← HQ.out] at o1
    go_wp2
    go_ret
    exact ⟨_, rfl, o1, b1⟩
  by_cases h8233 : p = 8233
  · subst h8233
    have HQ : Hid (qOne 8233 = hex4 8233) := qOne_hex rfl rfl
    have HX := hide (appendHex_any B v ys 8233 w hB hown (by omega) (by omega) (by omega))
    go_enter Tryd.func24, Tryd.ntmps24
    go_wp2_with fail
    refine HX.out.mono ?_
    rintro e w1 ⟨v1, rfl, o1, b1⟩
    rw [← HQ.out] at o1
    go_wp2
    go_ret
    exact ⟨_, rfl, o1, b1⟩
  have g34 : (p == 34) = false := by simpa using h34
  have g92 : (p == 92) = false := by simpa using h92
  have g8 : (p == 8) = false := by simpa using h8
  have g12 : (p == 12) = false := by simpa using h12
  have g10 : (p == 10) = false := by simpa using h10
  have g13 : (p == 13) = false := by simpa using h13
  have g9 : (p == 9) = false := by simpa using h9
  have g127 : (p == 127) = false := by simpa using h127
  have g8232 : (p == 8232) = false := by simpa using h8232
  have g8233 : (p == 8233) = false := by simpa using h8233
  have hs := short_no h8 h12 h10 h13 h9 h34 h92
  by_cases h32 : p < 32
  · have HQ : Hid (qOne p = hex4 p) := qOne_hex hs (by simp [byHex, h32])
    have HX := hide (appendHex_any B v ys p w hB hown (by omega) hp0 (by omega))
    clear h34 h92 h8 h12 h10 h13 h9 h127 h8232 h8233 hs
    go_enter Tryd.func24, Tryd.ntmps24
    go_wp2_with fail
    refine HX.out.mono ?_
    rintro e w1 ⟨v1, rfl, o1, b1⟩
    rw [← HQ.out] at o1
    go_wp2
    go_ret
    exact ⟨_, rfl, o1, b1⟩
  · cases ho : okPt p
    · have HQ : Hid (qOne p = hex4 p) := qOne_hex hs (by simp [byHex, ho])
      have hlt : p < 65536 := by simp [okPt] at ho; omega
      have HX := hide (appendHex_any B v ys p w hB hown (by omega) hp0 hlt)
      have HF := hide (hasForm_any p)
      rw [ho] at HF
      clear h34 h92 h8 h12 h10 h13 h9 h127 h8232 h8233 hs
      go_enter Tryd.func24, Tryd.ntmps24
      go_wp2_with fail
      refine (HF.out _).mono ?_
      rintro e w1 ⟨rfl, rfl⟩
      go_wp2_with fail
      refine HX.out.mono ?_
      rintro e w1 ⟨v1, rfl, o1, b1⟩
      rw [← HQ.out] at o1
      go_wp2
      go_ret
      exact ⟨_, rfl, o1, b1⟩
    · have HQ : Hid (qOne p = enc p) := qOne_enc hs (by simp [byHex, ho, h32, h127, h8232, h8233])
      have HX := hide (appendForm_any B v ys p w hB hT hown (by omega) hp0 hp1)
      have HF := hide (hasForm_any p)
      rw [ho] at HF
      clear h34 h92 h8 h12 h10 h13 h9 h127 h8232 h8233 hs
      go_enter Tryd.func24, Tryd.ntmps24
      go_wp2_with fail
      refine (HF.out _).mono ?_
      rintro e w1 ⟨rfl, rfl⟩
      go_wp2_with fail
      refine HX.out.mono ?_
      rintro e w1 ⟨v1, rfl, o1, b1⟩
      rw [← HQ.out] at o1
      go_wp2
      go_ret
      exact ⟨_, rfl, o1, b1⟩

end Go.Proofs.YtdcajkgmhimffaaDoorRR
