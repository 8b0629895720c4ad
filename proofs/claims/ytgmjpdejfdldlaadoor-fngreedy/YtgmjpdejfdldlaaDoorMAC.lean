import Derived.Test.YtgmjpdejfdldlaaDoorMAA
import Derived.Test.YtgmjpdejfdldlaaDoorMAB
namespace Go.Proofs.YtgmjpdejfdldlaaDoor
open Go.RowKit

set_option maxHeartbeats 400000 in
theorem isLow_any (p : Int) (w : World) : Calls Tryd.prog 87 #[.int .i64 p] w fun e w' => e = .returned (.bool (isLo p)) ∧ w = w' := by
  by_cases h0 : 56320 ≤ p
  · by_cases h1 : p ≤ 57343
    · have HI : Hid (isLo p = true) := by simp [Hid, isLo, h0, h1]
      go_enter Tryd.func87, Tryd.ntmps87
      go_wp2
      go_ret
      exact ⟨by rw [HI.out]; rfl, rfl⟩
    · have HI : Hid (isLo p = false) := by simp [Hid, isLo]; omega
      go_enter Tryd.func87, Tryd.ntmps87
      go_wp2
      go_ret
      exact ⟨by rw [HI.out]; rfl, rfl⟩
  · have HI : Hid (isLo p = false) := by simp [Hid, isLo]; omega
    go_enter Tryd.func87, Tryd.ntmps87
    go_wp2
    go_ret
    exact ⟨by rw [HI.out]; rfl, rfl⟩

end Go.Proofs.YtgmjpdejfdldlaaDoor

namespace Go.Proofs.YtgmjpdejfdldlaaDoor
open Go.RowKit

set_option maxHeartbeats 400000 in
theorem hasForm_any (p : Int) (w : World) : Calls Tryd.prog 84 #[.int .i64 p] w fun e w' => e = .returned (.bool (okPt p)) ∧ w = w' := by
  have hnot : ∀ (x : Bool) (w : World), (Op.unary .not (.bool x)).run Tryd.prog w = .ok (.bool (!x)) w := fun _ _ => rfl
  have HO : Hid (okPt p = (isPt p && !isHi p && !isLo p)) := ok_parts p
  cases h1 : isPt p
  · go_enter Tryd.func84, Tryd.ntmps84
    go_wp2_with (go_at_call 85; refine (isPoint_any _ _).mono ?_; rintro e w' ⟨rfl, rfl⟩; rw [h1])
    go_ret
    exact ⟨by rw [HO.out, h1]; rfl, rfl⟩
  · cases h2 : isHi p
    · cases h3 : isLo p
      all_goals
        go_enter Tryd.func84, Tryd.ntmps84
        go_wp2_with (first
          | (go_at_call 85; refine (isPoint_any _ _).mono ?_; rintro e w' ⟨rfl, rfl⟩; rw [h1])
          | (go_at_call 86; refine (isHigh_any _ _).mono ?_; rintro e w' ⟨rfl, rfl⟩; rw [h2])
          | (go_at_call 87; refine (isLow_any _ _).mono ?_; rintro e w' ⟨rfl, rfl⟩; rw [h3]))
        go_ret
        exact ⟨by rw [HO.out, h1, h2, h3]; rfl, rfl⟩
    · go_enter Tryd.func84, Tryd.ntmps84
      go_wp2_with (first
        | (go_at_call 85; refine (isPoint_any _ _).mono ?_; rintro e w' ⟨rfl, rfl⟩; rw [h1])
        | (go_at_call 86; refine (isHigh_any _ _).mono ?_; rintro e w' ⟨rfl, rfl⟩; rw [h2]))
      go_ret
      exact ⟨by rw [HO.out, h1, h2]; rfl, rfl⟩

end Go.Proofs.YtgmjpdejfdldlaaDoor

namespace Go.Proofs.YtgmjpdejfdldlaaDoor
open Go.RowKit

/-- The table of the forms' ends, as it lies in block 0. -/
structure Tab (w : World) : Prop where
  c0 : w.cell? ⟨0, 0, none⟩ = some (.int .i32 0)
  c1 : w.cell? ⟨0, 1, none⟩ = some (.int .i32 128)
  c2 : w.cell? ⟨0, 2, none⟩ = some (.int .i32 2048)
  c3 : w.cell? ⟨0, 3, none⟩ = some (.int .i32 65536)
  c4 : w.cell? ⟨0, 4, none⟩ = some (.int .i32 2097152)
theorem Tab.keep {w w' : World} (h : Tab w) (hg : w.grownBy w' none) : Tab w' :=
  ⟨hg.cell h.c0 (by simp), hg.cell h.c1 (by simp), hg.cell h.c2 (by simp), hg.cell h.c3 (by simp), hg.cell h.c4 (by simp)⟩
theorem Tab.pos {w : World} (h : Tab w) : 0 < w.heap.size := World.block_lt_of_cell? w _ h.c0
theorem Tab.below {B : Nat} {w w' : World} (h : Tab w) (hg : Below B w w') (hB : 0 < B) : Tab w' :=
  ⟨(hg.cell hB).trans h.c0, (hg.cell hB).trans h.c1, (hg.cell hB).trans h.c2, (hg.cell hB).trans h.c3, (hg.cell hB).trans h.c4⟩

end Go.Proofs.YtgmjpdejfdldlaaDoor

