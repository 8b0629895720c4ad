import Derived.Test.YtdcajkgmhimffabDoorEnc
import Derived.Test.YtdcajkgmhimffabDoorIsPt
import Derived.Test.YtdcajkgmhimffabDoorIsHi
import Derived.Test.YtdcajkgmhimffabDoorIsLo
namespace Go.Proofs.YtdcajkgmhimffabDoor
open Go.RowKit

set_option maxHeartbeats 400000 in
theorem hasForm_any (p : Int) (w : World) : Calls Tryd.prog 28 #[.int .i64 p] w fun e w' => e = .returned (.bool (okPt p)) ∧ w = w' := by
  have hnot : ∀ (x : Bool) (w : World), (Op.unary .not (.bool x)).run Tryd.prog w = .ok (.bool (!x)) w := fun _ _ => rfl
  have HO : Hid (okPt p = (isPt p && !isHi p && !isLo p)) := ok_parts p
  cases h1 : isPt p
  · go_enter Tryd.func28, Tryd.ntmps28
    go_wp2_with (go_at_call 23; refine (isPoint_any _ _).mono ?_; rintro e w' ⟨rfl, rfl⟩; rw [h1])
    go_ret
    exact ⟨by rw [HO.out, h1]; rfl, rfl⟩
  · cases h2 : isHi p
    · cases h3 : isLo p
      all_goals
        go_enter Tryd.func28, Tryd.ntmps28
        go_wp2_with (first
          | (go_at_call 23; refine (isPoint_any _ _).mono ?_; rintro e w' ⟨rfl, rfl⟩; rw [h1])
          | (go_at_call 21; refine (isHigh_any _ _).mono ?_; rintro e w' ⟨rfl, rfl⟩; rw [h2])
          | (go_at_call 22; refine (isLow_any _ _).mono ?_; rintro e w' ⟨rfl, rfl⟩; rw [h3]))
        go_ret
        exact ⟨by rw [HO.out, h1, h2, h3]; rfl, rfl⟩
    · go_enter Tryd.func28, Tryd.ntmps28
      go_wp2_with (first
        | (go_at_call 23; refine (isPoint_any _ _).mono ?_; rintro e w' ⟨rfl, rfl⟩; rw [h1])
        | (go_at_call 21; refine (isHigh_any _ _).mono ?_; rintro e w' ⟨rfl, rfl⟩; rw [h2]))
      go_ret
      exact ⟨by rw [HO.out, h1, h2]; rfl, rfl⟩

end Go.Proofs.YtdcajkgmhimffabDoor
