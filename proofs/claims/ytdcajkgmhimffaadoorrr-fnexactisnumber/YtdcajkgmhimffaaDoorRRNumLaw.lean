import Derived.Test.YtdcajkgmhimffaaDoorRRToB
import Derived.Test.YtdcajkgmhimffaaDoorRREqB
namespace Go.Proofs.YtdcajkgmhimffaaDoorRR
open Go.RowKit

set_option maxHeartbeats 1000000 in
set_option maxRecDepth 100000 in
theorem num_short (T : World → Prop) (a : Option Addr) (cap : Nat) (zs : List Int) (R : Bool) (w : World) (hv : Rd .u8 w.heap.size w (.slice a zs.length cap) zs) (hl : zs.length ≤ 1048576) (hT : ∀ w', w.grownBy w' none → T w')
    (hS : ∀ (v : Value) (w : World), Rd .u8 w.heap.size w v zs → Calls Tryd.prog 5 #[v] w fun e w' => e = .returned (.bool R) ∧ w.grownBy w' none)
    (hI : ∀ (B : Nat) (v : Value) (w : World), Ow .u8 5 B w v zs → T w → Calls Tryd.prog 7 #[v] w fun e w' => e = .returned (.bool R) ∧ w.grownBy w' none) :
    Calls Tryd.prog 3 #[.slice a zs.length cap] w fun e w' => e = .returned (.bool true) ∧ Below w.heap.size w w' := by
  have hnot : ∀ (x : Bool) (w : World), (Op.unary .not (.bool x)).run Tryd.prog w = .ok (.bool (!x)) w := fun _ _ => rfl
  have hcc : (R != R) = false := by simp
  go_enter Tryd.func3, Tryd.ntmps3
  go_wp2_with fail
  refine (toByteS_any _ zs _ hv (by omega)).mono ?_
  rintro e w1 ⟨x1, rfl, o1, g1⟩
  go_wp2_with fail
  refine (hS _ _ o1.rd).mono ?_
  rintro e w2 ⟨rfl, g2⟩
  have a2 := (hv.keep g1).keep g2
  have t2 := grown_trans g1 g2
  have b12 := g1.size
  have b2 := g2.size
  clear o1 g1 g2 hv
  go_wp2_with fail
  refine (toByteS_any _ zs _ a2.now (by omega)).mono ?_
  rintro e w3 ⟨x3, rfl, o3, g3⟩
  have a3 := a2.keep g3
  have t3 := grown_trans t2 g3
  clear a2 g3 t2
  go_wp2_with fail
  refine (hI _ _ _ o3 (hT _ t3)).mono ?_
  rintro e w4 ⟨rfl, g4⟩
  have a4 := a3.keep g4
  have q4 := o3.later g4
  have t4 := grown_trans t3 g4
  clear a3 o3 t3 g4
  go_wp2_with fail
  refine (toByteS_any _ zs _ a4.now (by omega)).mono ?_
  rintro e w6 ⟨x6, rfl, o6, g6⟩
  have q6 := q4.later g6
  have t6 := grown_trans t4 g6
  clear a4 q4 t4 g6
  go_wp2_with fail
  refine (eqByteS_same _ _ zs _ q6.rd o6.rd (by omega)).mono ?_
  rintro e w7 ⟨rfl, g7⟩
  have t7 := grown_trans t6 g7
  clear q6 o6 t6 g7
  go_wp2
  go_ret
  exact ⟨rfl, below_of_grown t7⟩

set_option maxHeartbeats 400000 in
theorem num_long (a : Option Addr) (cap n : Nat) (w : World) (h : 1048576 < n) (hm : n ≤ 9223372036854775807) :
    Calls Tryd.prog 3 #[.slice a n cap] w fun e w' => e = .returned (.bool true) ∧ Below w.heap.size w w' := by
  go_enter Tryd.func3, Tryd.ntmps3
  go_wp2
  go_ret
  exact ⟨rfl, Below.refl _ _⟩

end Go.Proofs.YtdcajkgmhimffaaDoorRR
