import Derived.Test.YtdcajkgmhimffaaDoorRRToI
import Derived.Test.YtdcajkgmhimffaaDoorRREqI
import Derived.Test.YtdcajkgmhimffaaDoorRRMarkI
import Derived.Test.YtdcajkgmhimffaaDoorRRHeldB
import Derived.Test.YtdcajkgmhimffaaDoorRREqB
import Derived.Test.YtdcajkgmhimffaaDoorRRMarkB
namespace Go.Proofs.YtdcajkgmhimffaaDoorRR
open Go.RowKit

set_option maxHeartbeats 1000000 in
set_option maxRecDepth 100000 in
theorem qu_short (T : World → Prop) (a : Option Addr) (cap : Nat) (zs R : List Int) (c : Int) (w : World) (hv : Rd .i64 w.heap.size w (.slice a zs.length cap) zs) (hl : zs.length ≤ 1048576) (hR : R.length ≤ 8388608) (hT : ∀ w', w.grownBy w' none → T w')
    (hS : ∀ (v : Value) (w : World), Rd .i64 w.heap.size w v zs → Calls Tryd.prog 9 #[v] w fun e w' => ∃ v', e = .returned (.tuple #[v', .int .i64 c]) ∧ Ow .u8 5 w.heap.size w' v' R ∧ w.grownBy w' none)
    (hI : ∀ (B : Nat) (v : Value) (w : World), Ow .i64 3 B w v zs → T w → Calls Tryd.prog 11 #[v] w fun e w' => ∃ v', e = .returned (.tuple #[v', .int .i64 c]) ∧ Ow .u8 5 w.heap.size w' v' R ∧ w.grownBy w' none) :
    Calls Tryd.prog 4 #[.slice a zs.length cap] w fun e w' => e = .returned (.bool true) ∧ Below w.heap.size w w' := by
  have hnot : ∀ (x : Bool) (w : World), (Op.unary .not (.bool x)).run Tryd.prog w = .ok (.bool (!x)) w := fun _ _ => rfl
  have hcc : (c != c) = false := by simp
  have hmm : (((1 : Int) + (R.length : Int)) != (1 + (R.length : Int))) = false := by simp
  go_enter Tryd.func4, Tryd.ntmps4
  go_wp2_with fail
  refine (toIntS_any _ zs _ hv (by omega)).mono ?_
  rintro e w1 ⟨x1, rfl, o1, g1⟩
  go_wp2_with fail
  refine (hS _ _ o1.rd).mono ?_
  rintro e w2 ⟨s2, rfl, o2, g2⟩
  have a2 := (hv.keep g1).keep g2
  have t2 := grown_trans g1 g2
  have b12 := g1.size
  have b2 := g2.size
  clear o1 g1 g2 hv
  go_wp2_with fail
  refine (toIntS_any _ zs _ a2.now (by omega)).mono ?_
  rintro e w3 ⟨x3, rfl, o3, g3⟩
  have a3 := a2.keep g3
  have p3 := Ow.later o2 g3
  have t3 := grown_trans t2 g3
  have b3 := g3.size
  have l2 := World.ownsRow.lt o2
  have l3 := World.ownsRow.lt o3
  clear a2 g3 t2 o2
  go_wp2_with fail
  refine (hI _ _ _ o3 (hT _ t3)).mono ?_
  rintro e w4 ⟨y4, rfl, o4, g4⟩
  have a4 := a3.keep g4
  have p4 := p3.later g4
  have q4 := o3.later g4
  have t4 := grown_trans t3 g4
  have l4 := World.ownsRow.lt o4
  clear a3 p3 o3 t3 g4
  go_wp2_with fail
  refine (eqByteS_same _ _ R _ o4.rd p4.rd hR).mono ?_
  rintro e w5 ⟨rfl, g5⟩
  have a5 := a4.keep g5
  have p5 := p4.later g5
  have q5 := q4.later g5
  have o5 := o4.later g5
  have t5 := grown_trans t4 g5
  clear a4 p4 q4 o4 t4 g5
  go_wp2_with fail
  refine (toIntS_any _ zs _ a5.now (by omega)).mono ?_
  rintro e w6 ⟨x6, rfl, o6, g6⟩
  have a6 := a5.keep g6
  have p6 := p5.later g6
  have q6 := q5.later g6
  have r6 := o5.later g6
  have t6 := grown_trans t5 g6
  clear a5 p5 q5 o5 t5 g6
  go_wp2_with fail
  refine (eqIntS_same _ _ zs _ q6.rd o6.rd (by omega)).mono ?_
  rintro e w7 ⟨rfl, g7⟩
  have a7 := a6.keep g7
  have p7 := p6.later g7
  have q7 := q6.later g7
  have r7 := r6.later g7
  have t7 := grown_trans t6 g7
  clear a6 p6 q6 r6 o6 t6 g7
  go_wp2_with fail
  refine (markIntS_any _ _ zs 1 _ q7 (by omega) (by omega) (by omega)).mono ?_
  rintro e w8 ⟨rfl, q8, g8⟩
  have a8 := a7.beside g8 (fun k hk => by have := l3 k hk; omega)
  have p8 := p7.beside g8 (fun k hk j hj => by have := l2 k hk; have := l3 j hj; omega)
  have r8 := r7.beside g8 (fun k hk j hj => by have := l4 k hk; have := l3 j hj; omega)
  have t8 := grown_new t7 g8 (fun j hj => by have := l3 j hj; omega)
  clear a7 p7 q7 r7 t7 g8 q8
  go_wp2_with fail
  refine (eqByteS_same _ _ R _ r8.rd p8.rd hR).mono ?_
  rintro e w9 ⟨rfl, g9⟩
  have a9 := a8.keep g9
  have p9 := p8.later g9
  have r9 := r8.later g9
  have t9 := grown_trans t8 g9
  clear a8 p8 r8 t8 g9
  go_wp2_with fail
  refine (markByteS_any _ _ R 1 _ r9 hR (by omega) (by omega)).mono ?_
  rintro e w10 ⟨rfl, r10, g10⟩
  have a10 := a9.beside g10 (fun k hk => by have := l4 k hk; omega)
  have p10 := p9.beside g10 (fun k hk j hj => by have := l2 k hk; have := l4 j hj; omega)
  have t10 := grown_new t9 g10 (fun j hj => by have := l4 j hj; omega)
  clear a9 p9 r9 t9 g10
  go_wp2_with fail
  refine (heldByteS_any _ R.length 1 _ r10.rd hR (by omega) (by omega)).mono ?_
  rintro e w11 ⟨rfl, rfl⟩
  go_wp2_with fail
  refine (toIntS_any _ zs _ a10.now (by omega)).mono ?_
  rintro e w12 ⟨x12, rfl, o12, g12⟩
  have p12 := p10.later g12
  have t12 := grown_trans t10 g12
  clear a10 p10 t10 r10 g12
  go_wp2_with fail
  refine (hI _ _ _ o12 (hT _ t12)).mono ?_
  rintro e w13 ⟨y13, rfl, o13, g13⟩
  have p13 := p12.later g13
  have t13 := grown_trans t12 g13
  clear p12 t12 o12 g13
  go_wp2_with fail
  refine (eqByteS_same _ _ R _ o13.rd p13.rd hR).mono ?_
  rintro e w14 ⟨rfl, g14⟩
  have t14 := grown_trans t13 g14
  clear o13 p13 t13 g14
  go_wp2
  go_ret
  exact ⟨rfl, below_of_grown t14⟩

set_option maxHeartbeats 400000 in
theorem qu_long (a : Option Addr) (cap n : Nat) (w : World) (h : 1048576 < n) (hm : n ≤ 9223372036854775807) :
    Calls Tryd.prog 4 #[.slice a n cap] w fun e w' => e = .returned (.bool true) ∧ Below w.heap.size w w' := by
  go_enter Tryd.func4, Tryd.ntmps4
  go_wp2
  go_ret
  exact ⟨rfl, Below.refl _ _⟩

end Go.Proofs.YtdcajkgmhimffaaDoorRR
