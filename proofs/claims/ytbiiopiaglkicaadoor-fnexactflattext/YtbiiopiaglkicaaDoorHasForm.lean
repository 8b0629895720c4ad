import Derived.Test.YtbiiopiaglkicaaDoorEnc
import Derived.Test.YtbiiopiaglkicaaDoorIsPt
import Derived.Test.YtbiiopiaglkicaaDoorIsHi
import Derived.Test.YtbiiopiaglkicaaDoorIsLo
namespace Go.Proofs.YtbiiopiaglkicaaDoor
open Go.RowKit

set_option maxHeartbeats 400000 in
theorem hasForm_any (p : Int) (w : World) : Calls Tryd.prog 110 #[.int .i64 p] w fun e w' => e = .returned (.bool (okPt p)) ∧ w = w' := by
  have hnot : ∀ (x : Bool) (w : World), (Op.unary .not (.bool x)).run Tryd.prog w = .ok (.bool (!x)) w := fun _ _ => rfl
  have HO : Hid (okPt p = (isPt p && !isHi p && !isLo p)) := ok_parts p
  cases h1 : isPt p
  · go_enter Tryd.func110, Tryd.ntmps110
    go_wp2_with (go_at_call 111; refine (isPoint_any _ _).mono ?_; rintro e w' ⟨rfl, rfl⟩; rw [h1])
    go_ret
    exact ⟨by rw [HO.out, h1]; rfl, rfl⟩
  · cases h2 : isHi p
    · cases h3 : isLo p
      all_goals
        go_enter Tryd.func110, Tryd.ntmps110
        go_wp2_with (first
          | (go_at_call 111; refine (isPoint_any _ _).mono ?_; rintro e w' ⟨rfl, rfl⟩; rw [h1])
          | (go_at_call 112; refine (isHigh_any _ _).mono ?_; rintro e w' ⟨rfl, rfl⟩; rw [h2])
          | (go_at_call 113; refine (isLow_any _ _).mono ?_; rintro e w' ⟨rfl, rfl⟩; rw [h3]))
        go_ret
        exact ⟨by rw [HO.out, h1, h2, h3]; rfl, rfl⟩
    · go_enter Tryd.func110, Tryd.ntmps110
      go_wp2_with (first
        | (go_at_call 111; refine (isPoint_any _ _).mono ?_; rintro e w' ⟨rfl, rfl⟩; rw [h1])
        | (go_at_call 112; refine (isHigh_any _ _).mono ?_; rintro e w' ⟨rfl, rfl⟩; rw [h2]))
      go_ret
      exact ⟨by rw [HO.out, h1, h2]; rfl, rfl⟩

end Go.Proofs.YtbiiopiaglkicaaDoor
