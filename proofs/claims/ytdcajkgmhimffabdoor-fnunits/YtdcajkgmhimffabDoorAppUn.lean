import Derived.Test.YtdcajkgmhimffabDoorTu
namespace Go.Proofs.YtdcajkgmhimffabDoor
open Go.RowKit

theorem grown_alloc {w w1 : World} {o : Obj} {r : Option Nat} (h : (w.alloc o).grownBy w1 r) : w.grownBy w1 r :=
  ⟨h.os, h.tape, h.output, Nat.le_trans (by simp) h.size, fun i hi hn => (h.block i (by simp; omega) hn).trans (((Below.refl w.heap.size w).alloc (Nat.le_refl _) o).block i hi)⟩

theorem below_own {q : IntKind} {t : TypeId} {B : Nat} {w w' : World} {v : Value} {zs : List Int} (hB : B ≤ w.heap.size) (h : Ow q t B w v zs) (hg : w.grownBy w' v.ownBlock) : Below B w w' :=
  ⟨hg.os, hg.tape, hg.output, hg.size, fun k hk => hg.block k (by omega) (fun e => by have := (World.ownsRow.lt h k e.symm).1; omega)⟩

theorem cells_pair (w : World) (x y : Value) (t : TypeId) : ∀ j u, [x, y][j]? = some u → (w.alloc (.cells #[x, y] t)).cell? ((⟨w.heap.size, 0, none⟩ : Addr).add j) = some u := by
  intro j u hj
  match j, hj with
  | 0, hj => simp at hj; subst hj; simp [Addr.add]
  | 1, hj => simp at hj; subst hj; simp [Addr.add]

set_option maxHeartbeats 1000000 in
set_option maxRecDepth 100000 in
theorem appendUnits_any (B : Nat) (v : Value) (ys : List Int) (p : Int) (w : World) (hB : B ≤ w.heap.size) (hown : OwI B w v ys) (hn : ys.length ≤ 8388608) (hp0 : 0 ≤ p) (hp1 : p ≤ 1114111) :
    Calls Tryd.prog 24 #[v, .int .i64 p] w fun e w' => ∃ v', e = .returned v' ∧ OwI B w' v' (ys ++ tuOne p) ∧ w.grownBy w' v.ownBlock := by
  obtain ⟨i0, hi, hz0, hz1, hz2⟩ := info_parts info3
  by_cases hp2 : p < 65536
  · have HE : Hid (tuOne p = [p]) := by simp [Hid, tuOne, hp2]
    go_enter Tryd.func24, Tryd.ntmps24
    go_wp2_with (at_builtin; refine wpList_append_own _ rfl _ _ 23 rfl B 3 i0 (.int .i64 0) 1 8 Tryd.underlying23 hi hz0 hz1 hz2 rfl (by decide) _ _ _ rfl (hown.alloc _) ⟨w.heap.size, 0, none⟩ 1 1 [.int .i64 p] rfl rfl (cell_one_new _ _ _) (by intro u hu; simp at hu; subst hu; rfl) (by unfold maxLen; omega) (by omega) (by simp; omega) ?_; intro v' w1 hown' hgrow _)
    have R := own_app (xs := [p]) _ hB hown hown' (by simp) hgrow
    rw [← HE.out] at R
    go_ret
    exact ⟨_, rfl, R.1, grown_alloc hgrow⟩
  · have HE : Hid (tuOne p = [55296 + (p - 65536) / 1024, 56320 + (p - 65536) % 1024]) := by simp [Hid, tuOne, hp2]
    go_enter Tryd.func24, Tryd.ntmps24
    go_wp2_with (at_builtin; refine wpList_append_own _ rfl _ _ 23 rfl B 3 i0 (.int .i64 0) 1 8 Tryd.underlying23 hi hz0 hz1 hz2 rfl (by decide) _ _ _ rfl (hown.alloc _) ⟨w.heap.size, 0, none⟩ 2 2 [.int .i64 (55296 + (p - 65536) / 1024), .int .i64 (56320 + (p - 65536) % 1024)] rfl rfl (cells_pair _ _ _ _) (by intro u hu; simp at hu; rcases hu with rfl | rfl <;> rfl) (by unfold maxLen; omega) (by omega) (by simp; omega) ?_; intro v' w1 hown' hgrow _)
    have R := own_app (xs := [55296 + (p - 65536) / 1024, 56320 + (p - 65536) % 1024]) _ hB hown hown' (by simp) hgrow
    rw [← HE.out] at R
    go_wp2
    go_ret
    exact ⟨_, rfl, R.1, grown_alloc hgrow⟩

end Go.Proofs.YtdcajkgmhimffabDoor
