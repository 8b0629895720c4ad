import Derived.Test.YtdcajkgmhimffaaDoorRRQuPure
import Derived.Test.YtdcajkgmhimffaaDoorRRScAcc
import Derived.Lib.AppendStr
namespace Go.Proofs.YtdcajkgmhimffaaDoorRR
open Go.RowKit
attribute [-go_sem] run_index_string

/-- A row of bytes over an append of the string of xs. -/
theorem own_str {B : Nat} {w1 : World} {v' : Value} {ys xs : List Int} (s : ByteArray) (hx : Lib.strCells s = xs.map (Value.int .u8)) (n : Nat) (hn : n = (ys ++ xs).length)
    (hown' : w1.ownsRow B 5 1 v' n (ys.map (Value.int .u8) ++ Lib.strCells s)) : OwB B w1 v' (ys ++ xs) := by
  subst hn
  unfold OwB Ow
  rw [List.map_append, ← hx]
  exact hown'

theorem below_own8 {B : Nat} {w w' : World} {v : Value} {zs : List Int} (hB : B ≤ w.heap.size) (h : OwB B w v zs) (hg : w.grownBy w' v.ownBlock) : Below B w w' :=
  ⟨hg.os, hg.tape, hg.output, hg.size, fun k hk => hg.block k (by omega) (fun e => by have := (World.ownsRow.lt h k e.symm).1; omega)⟩

set_option maxHeartbeats 2000000 in
set_option maxRecDepth 100000 in
theorem appendHex_any (B : Nat) (v : Value) (ys : List Int) (p : Int) (w : World) (hB : B ≤ w.heap.size) (hown : OwB B w v ys) (hn : ys.length ≤ 8388608) (hp0 : 0 ≤ p) (hp1 : p < 65536) :
    Calls Tryd.prog 35 #[v, .int .i32 p] w fun e w' => ∃ v', e = .returned v' ∧ OwB B w' v' (ys ++ hex4 p) ∧ Below B w w' := by
  obtain ⟨i0, hi, hz0, hz1, hz2⟩ := info_parts info5
  have hxs := fun q => hex_i q
  unfold hexS at hxs
  go_enter Tryd.func35, Tryd.ntmps35
  go_wp2_with (at_builtin; refine Lib.wpList_append_own_string _ rfl _ _ 22 9 rfl B 5 i0 Tryd.underlying22 Tryd.underlying9 hi hz0 hz1 hz2 _ _ _ rfl hown { data := #[92, 117] } rfl (by unfold maxLen; simp [ByteArray.size]; omega) (by simp [ByteArray.size]; omega) hB ?_; intro v1 w1 hown1 hgrow1 _)
  have o1 : OwB B w1 v1 (ys ++ [92, 117]) := own_str _ rfl _ (by simp [ByteArray.size]) hown1
  have b1 := below_own8 hB hown hgrow1
  clear hown1 hgrow1 hown
  go_loopw [0, 5] (fun v i wr => ∃ j : Nat, j ≤ 4 ∧ i = .int .i64 (12 - 4 * (j : Int)) ∧ OwB B wr v (ys ++ (hex4 p).take (2 + j)) ∧ Below B w wr)
    (fun _ i _ => (intOf i + 4).toNat)
  case atStart => exact ⟨0, by omega, rfl, o1, b1⟩
  case round =>
    obtain ⟨j, hj, rfl, hown, hnx⟩ := hrel
    clear o1 b1
    have hBr := Nat.le_trans hB hnx.size
    have hlen : (ys ++ (hex4 p).take (2 + j)).length = ys.length + (2 + j) := by simp [hex4]; omega
    match j, hj with
    | 0, _ =>
      have hix := fun W => hxs (p / 4096) W
      have ha : bits .and .i32 (p / 4096) 15 = p / 4096 % 16 := and15 _ (by omega) (by omega)
      go_wp2_with (at_builtin; refine wpList_append_own _ rfl _ _ 22 rfl B 5 i0 (.int .u8 0) 1 1 Tryd.underlying22 hi hz0 hz1 hz2 rfl (by decide) _ _ _ rfl (World.ownsRow.alloc hown _) ⟨wr.heap.size, 0, none⟩ 1 1 [.int .u8 (hd16 (p / 4096 % 16))] rfl rfl (cell_one_new _ _ _) (by intro u hu; simp at hu; subst hu; rfl) (by rw [hlen]; unfold maxLen; omega) (by rw [hlen]; omega) (by simp; omega) ?_; intro v' w2 hown' hgrow _)
      have R := own_app (xs := [hd16 (p / 4096 % 16)]) _ hBr hown hown' (by simp; omega) hgrow
      clear hown' hgrow hown
      go_wp2
      go_roundw
      case rel => exact ⟨1, by omega, by go_num, by simpa [hex4] using R.1, hnx.trans R.2⟩
      case measure => simp [intOf]
    | 1, _ =>
      have hix := fun W => hxs (p / 256) W
      have ha : bits .and .i32 (p / 256) 15 = p / 256 % 16 := and15 _ (by omega) (by omega)
      go_wp2_with (at_builtin; refine wpList_append_own _ rfl _ _ 22 rfl B 5 i0 (.int .u8 0) 1 1 Tryd.underlying22 hi hz0 hz1 hz2 rfl (by decide) _ _ _ rfl (World.ownsRow.alloc hown _) ⟨wr.heap.size, 0, none⟩ 1 1 [.int .u8 (hd16 (p / 256 % 16))] rfl rfl (cell_one_new _ _ _) (by intro u hu; simp at hu; subst hu; rfl) (by rw [hlen]; unfold maxLen; omega) (by rw [hlen]; omega) (by simp; omega) ?_; intro v' w2 hown' hgrow _)
      have R := own_app (xs := [hd16 (p / 256 % 16)]) _ hBr hown hown' (by simp; omega) hgrow
      clear hown' hgrow hown
      go_wp2
      go_roundw
      case rel => exact ⟨2, by omega, by go_num, by simpa [hex4] using R.1, hnx.trans R.2⟩
      case measure => simp [intOf]
    | 2, _ =>
      have hix := fun W => hxs (p / 16) W
      have ha : bits .and .i32 (p / 16) 15 = p / 16 % 16 := and15 _ (by omega) (by omega)
      go_wp2_with (at_builtin; refine wpList_append_own _ rfl _ _ 22 rfl B 5 i0 (.int .u8 0) 1 1 Tryd.underlying22 hi hz0 hz1 hz2 rfl (by decide) _ _ _ rfl (World.ownsRow.alloc hown _) ⟨wr.heap.size, 0, none⟩ 1 1 [.int .u8 (hd16 (p / 16 % 16))] rfl rfl (cell_one_new _ _ _) (by intro u hu; simp at hu; subst hu; rfl) (by rw [hlen]; unfold maxLen; omega) (by rw [hlen]; omega) (by simp; omega) ?_; intro v' w2 hown' hgrow _)
      have R := own_app (xs := [hd16 (p / 16 % 16)]) _ hBr hown hown' (by simp; omega) hgrow
      clear hown' hgrow hown
      go_wp2
      go_roundw
      case rel => exact ⟨3, by omega, by go_num, by simpa [hex4] using R.1, hnx.trans R.2⟩
      case measure => simp [intOf]
    | 3, _ =>
      have hix := fun W => hxs (p) W
      have ha : bits .and .i32 (p) 15 = p % 16 := and15 _ (by omega) (by omega)
      go_wp2_with (at_builtin; refine wpList_append_own _ rfl _ _ 22 rfl B 5 i0 (.int .u8 0) 1 1 Tryd.underlying22 hi hz0 hz1 hz2 rfl (by decide) _ _ _ rfl (World.ownsRow.alloc hown _) ⟨wr.heap.size, 0, none⟩ 1 1 [.int .u8 (hd16 (p % 16))] rfl rfl (cell_one_new _ _ _) (by intro u hu; simp at hu; subst hu; rfl) (by rw [hlen]; unfold maxLen; omega) (by rw [hlen]; omega) (by simp; omega) ?_; intro v' w2 hown' hgrow _)
      have R := own_app (xs := [hd16 (p % 16)]) _ hBr hown hown' (by simp; omega) hgrow
      clear hown' hgrow hown
      go_wp2
      go_roundw
      case rel => exact ⟨4, by omega, by go_num, by simpa [hex4] using R.1, hnx.trans R.2⟩
      case measure => simp [intOf]
    | 4, _ =>
      go_wp2
      go_ret
      exact ⟨_, rfl, hown, hnx⟩

end Go.Proofs.YtdcajkgmhimffaaDoorRR
