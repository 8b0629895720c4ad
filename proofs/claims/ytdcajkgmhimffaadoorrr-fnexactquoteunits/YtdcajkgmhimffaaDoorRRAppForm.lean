import Derived.Test.YtdcajkgmhimffaaDoorRROnByte
import Derived.Test.YtdcajkgmhimffaaDoorRREnc
namespace Go.Proofs.YtdcajkgmhimffaaDoorRR
open Go.RowKit

theorem cells_two (w : World) (x y : Value) (t : TypeId) : ∀ j u, [x, y][j]? = some u → (w.alloc (.cells #[x, y] t)).cell? ((⟨w.heap.size, 0, none⟩ : Addr).add j) = some u := by
  intro j u hj
  match j, hj with
  | 0, hj => simp at hj; subst hj; simp [Addr.add]
  | 1, hj => simp at hj; subst hj; simp [Addr.add]
theorem cells_three (w : World) (x y z : Value) (t : TypeId) : ∀ j u, [x, y, z][j]? = some u → (w.alloc (.cells #[x, y, z] t)).cell? ((⟨w.heap.size, 0, none⟩ : Addr).add j) = some u := by
  intro j u hj
  match j, hj with
  | 0, hj => simp at hj; subst hj; simp [Addr.add]
  | 1, hj => simp at hj; subst hj; simp [Addr.add]
  | 2, hj => simp at hj; subst hj; simp [Addr.add]
theorem cells_four (w : World) (x y z s : Value) (t : TypeId) : ∀ j u, [x, y, z, s][j]? = some u → (w.alloc (.cells #[x, y, z, s] t)).cell? ((⟨w.heap.size, 0, none⟩ : Addr).add j) = some u := by
  intro j u hj
  match j, hj with
  | 0, hj => simp at hj; subst hj; simp [Addr.add]
  | 1, hj => simp at hj; subst hj; simp [Addr.add]
  | 2, hj => simp at hj; subst hj; simp [Addr.add]
  | 3, hj => simp at hj; subst hj; simp [Addr.add]

set_option maxHeartbeats 1000000 in
set_option maxRecDepth 100000 in
theorem appendForm_any (B : Nat) (v : Value) (ys : List Int) (p : Int) (w : World) (hB : B ≤ w.heap.size) (hT : Tab w) (hown : OwB B w v ys) (hn : ys.length ≤ 8388608) (hp0 : 0 ≤ p) (hp1 : p ≤ 1114111) :
    Calls Tryd.prog 37 #[v, .int .i32 p] w fun e w' => ∃ v', e = .returned v' ∧ OwB B w' v' (ys ++ enc p) ∧ Below B w w' := by
  obtain ⟨i0, hi, hz0, hz1, hz2⟩ := info_parts info5
  have t1 := hT.c1
  have t2 := hT.c2
  have t3 := hT.c3
  clear hT
  by_cases h1 : p < 128
  · have HE : Hid (enc p = [p]) := enc1 p h1
    have hm : p % 256 = p := by omega
    go_enter Tryd.func37, Tryd.ntmps37
    go_wp2_with (first
      | (at_builtin; refine wpList_append_own _ rfl _ _ 22 rfl B 5 i0 (.int .u8 0) 1 1 Tryd.underlying22 hi hz0 hz1 hz2 rfl (by decide) _ _ _ rfl (World.ownsRow.alloc hown _) ⟨w.heap.size, 0, none⟩ 1 1 [.int .u8 p] rfl rfl (cell_one_new _ _ _) (by intro u hu; simp at hu; subst hu; rfl) (by unfold maxLen; omega) (by omega) (by simp; omega) ?_; intro v' w1 hown' hgrow _))
    have R := own_app (xs := [p]) _ hB hown hown' (by simp) hgrow
    clear hown' hgrow hown
    go_wp2
    go_ret
    exact ⟨_, rfl, by rw [HE.out]; exact R.1, R.2⟩
  · by_cases h2 : p < 2048
    · have HE : Hid (enc p = [192 + p / 64, 128 + p % 64]) := enc2 p h1 h2
      have hb : bits .or .u8 192 (p / 64) = 192 + p / 64 := or192 _ (by omega) (by omega)
      have hm : p / 64 % 256 = p / 64 := by omega
      go_enter Tryd.func37, Tryd.ntmps37
      go_wp2_with (first
        | (go_at_call 46; refine (onByte_any _ _ (by omega) (by omega)).mono ?_; rintro e w' ⟨rfl, rfl⟩)
        | (at_builtin; refine wpList_append_own _ rfl _ _ 22 rfl B 5 i0 (.int .u8 0) 1 1 Tryd.underlying22 hi hz0 hz1 hz2 rfl (by decide) _ _ _ rfl (World.ownsRow.alloc hown _) ⟨w.heap.size, 0, none⟩ 2 2 [.int .u8 (192 + p / 64), .int .u8 (128 + p % 64)] rfl rfl (cells_two _ _ _ _) (by intro u hu; simp at hu; rcases hu with rfl | rfl <;> rfl) (by unfold maxLen; omega) (by omega) (by simp; omega) ?_; intro v' w1 hown' hgrow _))
      have R := own_app (xs := [192 + p / 64, 128 + p % 64]) _ hB hown hown' (by simp) hgrow
      clear hown' hgrow hown
      go_wp2
      go_ret
      exact ⟨_, rfl, by rw [HE.out]; exact R.1, R.2⟩
    · by_cases h3 : p < 65536
      · have HE : Hid (enc p = [224 + p / 4096, 128 + p / 64 % 64, 128 + p % 64]) := enc3 p h2 h3
        have hb : bits .or .u8 224 (p / 4096) = 224 + p / 4096 := or224 _ (by omega) (by omega)
        have hm : p / 4096 % 256 = p / 4096 := by omega
        go_enter Tryd.func37, Tryd.ntmps37
        go_wp2_with (first
          | (go_at_call 46; refine (onByte_any _ _ (by omega) (by omega)).mono ?_; rintro e w' ⟨rfl, rfl⟩)
          | (at_builtin; refine wpList_append_own _ rfl _ _ 22 rfl B 5 i0 (.int .u8 0) 1 1 Tryd.underlying22 hi hz0 hz1 hz2 rfl (by decide) _ _ _ rfl (World.ownsRow.alloc hown _) ⟨w.heap.size, 0, none⟩ 3 3 [.int .u8 (224 + p / 4096), .int .u8 (128 + p / 64 % 64), .int .u8 (128 + p % 64)] rfl rfl (cells_three _ _ _ _ _) (by intro u hu; simp at hu; rcases hu with rfl | rfl | rfl <;> rfl) (by unfold maxLen; omega) (by omega) (by simp; omega) ?_; intro v' w1 hown' hgrow _))
        have R := own_app (xs := [224 + p / 4096, 128 + p / 64 % 64, 128 + p % 64]) _ hB hown hown' (by simp) hgrow
        clear hown' hgrow hown
        go_wp2
        go_ret
        exact ⟨_, rfl, by rw [HE.out]; exact R.1, R.2⟩
      · have HE : Hid (enc p = [240 + p / 262144, 128 + p / 4096 % 64, 128 + p / 64 % 64, 128 + p % 64]) := enc4 p h3
        have hb : bits .or .u8 240 (p / 262144) = 240 + p / 262144 := or240 _ (by omega) (by omega)
        have hm : p / 262144 % 256 = p / 262144 := by omega
        go_enter Tryd.func37, Tryd.ntmps37
        go_wp2_with (first
          | (go_at_call 46; refine (onByte_any _ _ (by omega) (by omega)).mono ?_; rintro e w' ⟨rfl, rfl⟩)
          | (at_builtin; refine wpList_append_own _ rfl _ _ 22 rfl B 5 i0 (.int .u8 0) 1 1 Tryd.underlying22 hi hz0 hz1 hz2 rfl (by decide) _ _ _ rfl (World.ownsRow.alloc hown _) ⟨w.heap.size, 0, none⟩ 4 4 [.int .u8 (240 + p / 262144), .int .u8 (128 + p / 4096 % 64), .int .u8 (128 + p / 64 % 64), .int .u8 (128 + p % 64)] rfl rfl (cells_four _ _ _ _ _ _) (by intro u hu; simp at hu; rcases hu with rfl | rfl | rfl | rfl <;> rfl) (by unfold maxLen; omega) (by omega) (by simp; omega) ?_; intro v' w1 hown' hgrow _))
        have R := own_app (xs := [240 + p / 262144, 128 + p / 4096 % 64, 128 + p / 64 % 64, 128 + p % 64]) _ hB hown hown' (by simp) hgrow
        clear hown' hgrow hown
        go_wp2
        go_ret
        exact ⟨_, rfl, by rw [HE.out]; exact R.1, R.2⟩

end Go.Proofs.YtdcajkgmhimffaaDoorRR
