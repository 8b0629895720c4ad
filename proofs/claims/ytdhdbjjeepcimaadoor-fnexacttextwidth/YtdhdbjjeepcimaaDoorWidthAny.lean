import Derived.Test.YtdhdbjjeepcimaaDoorToB
import Derived.Test.YtdhdbjjeepcimaaDoorEqB
import Derived.Test.YtdhdbjjeepcimaaDoorWidthImpl
namespace Go.Proofs.YtdhdbjjeepcimaaDoor
open Go.RowKit

set_option maxHeartbeats 1000000 in
set_option maxRecDepth 100000 in
theorem width_short (a : Option Addr) (cap : Nat) (zs : List Int) (w : World) (hv : RdB w.heap.size w (.slice a zs.length cap) zs) (hl : zs.length ≤ 1048576) (hT : Tab w) (hby : Bys zs) :
    Calls Tryd.prog 3 #[.slice a zs.length cap] w fun e w' => e = .returned (.bool true) ∧ Below w.heap.size w w' := by
  have hnot : ∀ (x : Bool) (w : World), (Op.unary .not (.bool x)).run Tryd.prog w = .ok (.bool (!x)) w := fun _ _ => rfl
  have hcc : (widthR zs != widthR zs) = false := by simp
  go_enter Tryd.func3, Tryd.ntmps3
  go_wp2_with fail
  refine (toByteS_any _ zs _ hv (by omega)).mono ?_
  rintro e w1 ⟨x1, rfl, o1, g1⟩
  go_wp2_with fail
  refine (specTextWidth_any _ zs _ o1.rd hby hl).mono ?_
  rintro e w2 ⟨rfl, g2⟩
  have a2 := (hv.keep g1).keep g2
  have t2 := grown_trans g1 g2
  clear o1 g1 g2 hv
  go_wp2_with fail
  refine (toByteS_any _ zs _ a2.now (by omega)).mono ?_
  rintro e w3 ⟨x3, rfl, o3, g3⟩
  have a3 := a2.keep g3
  have t3 := grown_trans t2 g3
  clear a2 g3 t2
  go_wp2_with fail
  refine (implTextWidth_any _ zs _ o3.rd hby hl o3.sl (hT.keep t3)).mono ?_
  rintro e w4 ⟨rfl, g4⟩
  have a4 := a3.keep g4
  have o4 := Ow.later o3 g4
  have t4 := grown_trans t3 g4
  clear a3 o3 t3 g4
  go_wp2_with fail
  refine (toByteS_any _ zs _ a4.now (by omega)).mono ?_
  rintro e w5 ⟨x5, rfl, o5, g5⟩
  have p5 := Ow.later o4 g5
  have t5 := grown_trans t4 g5
  clear a4 o4 t4 g5
  go_wp2_with fail
  refine (eqByteS_same _ _ zs _ p5.rd o5.rd (by omega)).mono ?_
  rintro e w6 ⟨rfl, g6⟩
  have t6 := grown_trans t5 g6
  clear p5 o5 t5 g6
  go_wp2
  go_ret
  exact ⟨rfl, below_of_grown t6⟩

set_option maxHeartbeats 400000 in
theorem width_long (a : Option Addr) (cap n : Nat) (w : World) (h : 1048576 < n) (hm : n ≤ 9223372036854775807) :
    Calls Tryd.prog 3 #[.slice a n cap] w fun e w' => e = .returned (.bool true) ∧ Below w.heap.size w w' := by
  go_enter Tryd.func3, Tryd.ntmps3
  go_wp2
  go_ret
  exact ⟨rfl, Below.refl _ _⟩

theorem textWidth_law (a : Option Addr) (cap : Nat) (zs : List Int) (w : World) (hv : RdB w.heap.size w (.slice a zs.length cap) zs) (hm : zs.length ≤ 9223372036854775807) (hT : Tab w) (hby : Bys zs) :
    Calls Tryd.prog 3 #[.slice a zs.length cap] w fun e w' => e = .returned (.bool true) ∧ Below w.heap.size w w' := by
  by_cases hl : zs.length ≤ 1048576
  · exact width_short a cap zs w hv hl hT hby
  · exact width_long a cap zs.length w (by omega) hm

end Go.Proofs.YtdhdbjjeepcimaaDoor
