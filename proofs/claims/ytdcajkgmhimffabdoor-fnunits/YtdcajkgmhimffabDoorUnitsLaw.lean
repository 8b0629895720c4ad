import Derived.Test.YtdcajkgmhimffabDoorSameN
import Derived.Test.YtdcajkgmhimffabDoorSameB
import Derived.Test.YtdcajkgmhimffabDoorTuImpl
import Derived.Test.YtdcajkgmhimffabDoorFuSpec
import Derived.Test.YtdcajkgmhimffabDoorFuImpl
import Derived.Test.YtdcajkgmhimffabDoorEncImpl
import Derived.Test.YtdcajkgmhimffabDoorDecSpec
import Derived.Test.YtdcajkgmhimffabDoorDecImpl
import Derived.Test.YtdcajkgmhimffabDoorUnitsPure
import Derived.Test.YtdcajkgmhimffabDoorUtfPure
import Derived.Test.YtdcajkgmhimffabDoorDraw6
namespace Go.Proofs.YtdcajkgmhimffabDoor
open Go.RowKit

set_option maxHeartbeats 4000000 in
set_option maxRecDepth 100000 in
theorem units_111 (a : Option Addr) (cap : Nat) (zs U P Q E C D : List Int) (e1 e2 e3 at3 : Int) (w : World) (hv : RdB w.heap.size w (.slice a zs.length cap) zs) (hm : zs.length ≤ 1048576) (hlc : zs.length ≤ cap) (hcm : cap ≤ 9223372036854775807) (hT : Tab w) (hby : Bys zs)
    (hU : dfu zs = U) (hP : fuR U = (P, e1)) (hQ : det zs = Q) (hE : encR Q = (E, e2)) (hC : ddt zs = C) (hD : decR C = (D, e3, at3)) (lU : U.length ≤ 12) (lQ : Q.length ≤ 12) (lC : C.length ≤ 60) (bC : Bys C)
    (k1 : e1 = 0) (k2 : e2 = 0) (k3 : e3 = 0) :
    Calls Tryd.prog 3 #[.slice a zs.length cap] w fun e w' => e = .returned (.bool true) ∧ Below w.heap.size w w' := by
  have hnot : ∀ (x : Bool) (w : World), (Op.unary .not (.bool x)).run Tryd.prog w = .ok (.bool (!x)) w := fun _ _ => rfl
  have lP : P.length ≤ 12 := by have := fuR_len U; rw [hP] at this; simpa using Nat.le_trans this lU
  have lE : E.length ≤ 48 := by have := encR_len Q; rw [hE] at this; simp at this; omega
  have bE : Bys E := by have := encR_bys Q; rw [hE] at this; exact this
  have lD : D.length ≤ 60 := by have := decR_len C; rw [hD] at this; simp at this; omega
  have D1 := fun W (h : RdB W.heap.size W (.slice a zs.length cap) zs) => drawFromUnits_any a cap zs W h hby hm hlc hcm
  have D2 := fun W (h : RdB W.heap.size W (.slice a zs.length cap) zs) => drawEncodeText_any a cap zs W h hby hm hlc hcm
  have D3 := fun W (h : RdB W.heap.size W (.slice a zs.length cap) zs) => drawDecodeText_any a cap zs W h hby hm hlc hcm
  rw [hU] at D1
  rw [hQ] at D2
  rw [hC] at D3
  have F1 := fun v W h => specFromUnits_any v U W h (by omega)
  have F2 := fun v W h => implFromUnits_any v U W h (by omega)
  rw [hP] at F1 F2
  have G1 := fun v W h => specEncodeText_any v Q W h (by omega)
  have G2 := fun v W h hT => implEncodeText_any v Q W h (by omega) hT
  rw [hE] at G1 G2
  have K1 := fun v W h => specDecodeText_any v C W h bC (by omega)
  have K2 := fun v W h hs hT => implDecodeText_any v C W h bC (by omega) hs hT
  rw [hD] at K1 K2
  have T1 : tuR P = (U, 0) := units_back (by rw [hP, k1])
  have M1 := fun v W h => implToUnits_any v P W h (by omega)
  rw [T1] at M1
  subst k1
  have hok : Q.all okPt = true := by
    cases h : Q.all okPt
    · rw [encR_bad Q h] at hE; simp at hE; omega
    · rfl
  have hTB : decR E = (Q, 0, 0) := by have := text_back hok; rw [hE] at this; exact this
  have hWB : widthR E = (Q.length : Int) := by have := width_back hok; rw [hE] at this; exact this
  have hPB := points_back hok
  have lV : (tuR Q).1.length ≤ 24 := by have := tuR_len Q; omega
  have M2 := fun v W h => implToUnits_any v Q W h (by omega)
  have M3 := fun v W h => implFromUnits_any v (tuR Q).1 W h (by omega)
  rw [hPB.2] at M3
  rw [hPB.1] at M2
  have M4 := fun v W h hs hT => implDecodeText_any v E W h bE (by omega) hs hT
  rw [hTB] at M4
  have M5 := fun v W h hs hT => implTextWidth_any v E W h bE (by omega) hs hT
  rw [hWB] at M5
  have qw : ((Q.length : Int) != (Q.length : Int)) = false := by simp
  generalize (tuR Q).1 = V at M2 M3 lV
  subst k2
  clear hok hTB hWB hPB
  have hBB : encR D = (C, 0) := by have := bytes_back bC (by rw [hD]; exact k3); rw [hD] at this; exact this
  have M6 := fun v W h hT => implEncodeText_any v D W h (by omega) hT
  rw [hBB] at M6
  subst k3
  clear hBB
  have qa : (at3 != at3) = false := by simp
  clear hU hP hQ hE hC hD
  go_enter Tryd.func3, Tryd.ntmps3
  go_wp2_with fail
  refine (D1 w hv).mono ?_
  rintro e w1 ⟨u1, rfl, o1, t1⟩
  have A1 := hv.keep t1
  go_wp2_with fail
  refine (F1 u1 w1 o1.rd).mono ?_
  rintro e w2 ⟨x2, rfl, _, g2⟩
  have A2 := A1.keep g2
  have t2 := grown_trans t1 g2
  have o2 := Ow.later o1 g2
  clear A1 g2 t1 o1
  go_wp2_with fail
  refine (D1 w2 A2.now).mono ?_
  rintro e w3 ⟨u3, rfl, p3, g3⟩
  have A3 := A2.keep g3
  have t3 := grown_trans t2 g3
  have o3 := Ow.later o2 g3
  clear A2 g3 t2 o2
  go_wp2_with fail
  refine (F2 u3 w3 p3.rd).mono ?_
  rintro e w4 ⟨x4, rfl, p4, g4⟩
  have A4 := A3.keep g4
  have t4 := grown_trans t3 g4
  have o4 := Ow.later o3 g4
  clear A3 g4 t3 o3 p3 D1 F1 F2
  go_wp2_with fail
  refine (M1 x4 w4 p4.rd).mono ?_
  rintro e w5 ⟨x5, rfl, p5, g5⟩
  have A5 := A4.keep g5
  have t5 := grown_trans t4 g5
  have o5 := Ow.later o4 g5
  clear A4 g5 t4 o4 p4 M1
  go_wp2_with fail
  refine (sameN_same _ _ U _ p5.rd o5.rd (by omega)).mono ?_
  rintro e w6 ⟨rfl, g6⟩
  have A6 := A5.keep g6
  have t6 := grown_trans t5 g6
  clear A5 g6 t5 o5 p5
  go_wp2_with fail
  refine (D2 w6 A6.now).mono ?_
  rintro e w7 ⟨u7, rfl, o7, g7⟩
  have A7 := A6.keep g7
  have t7 := grown_trans t6 g7
  clear A6 g7 t6
  go_wp2_with fail
  refine (G1 u7 w7 o7.rd).mono ?_
  rintro e w8 ⟨x8, rfl, _, g8⟩
  have A8 := A7.keep g8
  have t8 := grown_trans t7 g8
  have o8 := Ow.later o7 g8
  clear A7 g8 t7 o7
  go_wp2_with fail
  refine (D2 w8 A8.now).mono ?_
  rintro e w9 ⟨u9, rfl, p9, g9⟩
  have A9 := A8.keep g9
  have t9 := grown_trans t8 g9
  have o9 := Ow.later o8 g9
  clear A8 g9 t8 o8
  go_wp2_with fail
  refine (G2 u9 w9 p9.rd (hT.keep t9)).mono ?_
  rintro e w10 ⟨b10, rfl, p10, g10⟩
  have A10 := A9.keep g10
  have t10 := grown_trans t9 g10
  have o10 := Ow.later o9 g10
  clear A9 g10 t9 o9 p9 D2 G1 G2
  obtain ⟨aq, capq, hq, _⟩ := o10.rd
  rw [hq] at o10 ⊢
  clear hq
  go_wp2_with fail
  refine (M4 b10 w10 p10.rd p10.sl (hT.keep t10)).mono ?_
  rintro e w11 ⟨r11, rfl, m11, g11⟩
  have A11 := A10.keep g11
  have t11 := grown_trans t10 g11
  have o11 := Ow.later o10 g11
  have p11 := Ow.later p10 g11
  clear A10 g11 t10 o10 p10 M4
  go_wp2_with fail
  refine (M2 _ w11 o11.rd).mono ?_
  rintro e w12 ⟨v12, rfl, n12, g12⟩
  have A12 := A11.keep g12
  have t12 := grown_trans t11 g12
  have o12 := Ow.later o11 g12
  have p12 := Ow.later p11 g12
  have m12 := Ow.later m11 g12
  clear A11 g12 t11 o11 p11 m11 M2
  go_wp2_with fail
  refine (M3 v12 w12 n12.rd).mono ?_
  rintro e w13 ⟨s13, rfl, n13, g13⟩
  have A13 := A12.keep g13
  have t13 := grown_trans t12 g13
  have o13 := Ow.later o12 g13
  have p13 := Ow.later p12 g13
  have m13 := Ow.later m12 g13
  clear A12 g13 t12 o12 p12 m12 n12 M3
  go_wp2_with fail
  refine (sameN_same _ _ Q _ m13.rd o13.rd (by omega)).mono ?_
  rintro e w14 ⟨rfl, g14⟩
  have A14 := A13.keep g14
  have t14 := grown_trans t13 g14
  have o14 := Ow.later o13 g14
  have p14 := Ow.later p13 g14
  have n14 := Ow.later n13 g14
  clear A13 g14 t13 o13 p13 m13 n13
  go_wp2_with fail
  refine (sameN_same _ _ Q _ n14.rd o14.rd (by omega)).mono ?_
  rintro e w15 ⟨rfl, g15⟩
  have A15 := A14.keep g15
  have t15 := grown_trans t14 g15
  have p15 := Ow.later p14 g15
  clear A14 g15 t14 o14 p14 n14
  go_wp2_with fail
  refine (M5 b10 w15 p15.rd p15.sl (hT.keep t15)).mono ?_
  rintro e w16 ⟨rfl, g16⟩
  have A16 := A15.keep g16
  have t16 := grown_trans t15 g16
  clear A15 g16 t15 p15 M5
  go_wp2_with fail
  refine (D3 w16 A16.now).mono ?_
  rintro e w17 ⟨u17, rfl, o17, g17⟩
  have A17 := A16.keep g17
  have t17 := grown_trans t16 g17
  clear A16 g17 t16
  go_wp2_with fail
  refine (K1 u17 w17 o17.rd).mono ?_
  rintro e w18 ⟨x18, rfl, _, g18⟩
  have A18 := A17.keep g18
  have t18 := grown_trans t17 g18
  have o18 := Ow.later o17 g18
  clear A17 g18 t17 o17
  go_wp2_with fail
  refine (D3 w18 A18.now).mono ?_
  rintro e w19 ⟨u19, rfl, p19, g19⟩
  have t19 := grown_trans t18 g19
  have o19 := Ow.later o18 g19
  clear A18 g19 t18 o18
  go_wp2_with fail
  refine (K2 u19 w19 p19.rd p19.sl (hT.keep t19)).mono ?_
  rintro e w20 ⟨d20, rfl, p20, g20⟩
  have t20 := grown_trans t19 g20
  have o20 := Ow.later o19 g20
  clear g20 t19 o19 p19 D3 K1 K2
  go_wp2_with fail
  refine (M6 d20 w20 p20.rd (hT.keep t20)).mono ?_
  rintro e w21 ⟨x21, rfl, p21, g21⟩
  have t21 := grown_trans t20 g21
  have o21 := Ow.later o20 g21
  clear g21 t20 o20 p20 M6
  go_wp2_with fail
  refine (sameB_same _ _ C _ p21.rd o21.rd (by omega)).mono ?_
  rintro e w22 ⟨rfl, g22⟩
  have t22 := grown_trans t21 g22
  clear o21 p21 g22 t21
  go_wp2
  go_ret
  exact ⟨rfl, below_of_grown t22⟩

set_option maxHeartbeats 4000000 in
set_option maxRecDepth 100000 in
theorem units_110 (a : Option Addr) (cap : Nat) (zs U P Q E C D : List Int) (e1 e2 e3 at3 : Int) (w : World) (hv : RdB w.heap.size w (.slice a zs.length cap) zs) (hm : zs.length ≤ 1048576) (hlc : zs.length ≤ cap) (hcm : cap ≤ 9223372036854775807) (hT : Tab w) (hby : Bys zs)
    (hU : dfu zs = U) (hP : fuR U = (P, e1)) (hQ : det zs = Q) (hE : encR Q = (E, e2)) (hC : ddt zs = C) (hD : decR C = (D, e3, at3)) (lU : U.length ≤ 12) (lQ : Q.length ≤ 12) (lC : C.length ≤ 60) (bC : Bys C)
    (k1 : e1 = 0) (k2 : e2 = 0) (k3 : e3 ≠ 0) :
    Calls Tryd.prog 3 #[.slice a zs.length cap] w fun e w' => e = .returned (.bool true) ∧ Below w.heap.size w w' := by
  have hnot : ∀ (x : Bool) (w : World), (Op.unary .not (.bool x)).run Tryd.prog w = .ok (.bool (!x)) w := fun _ _ => rfl
  have lP : P.length ≤ 12 := by have := fuR_len U; rw [hP] at this; simpa using Nat.le_trans this lU
  have lE : E.length ≤ 48 := by have := encR_len Q; rw [hE] at this; simp at this; omega
  have bE : Bys E := by have := encR_bys Q; rw [hE] at this; exact this
  have lD : D.length ≤ 60 := by have := decR_len C; rw [hD] at this; simp at this; omega
  have D1 := fun W (h : RdB W.heap.size W (.slice a zs.length cap) zs) => drawFromUnits_any a cap zs W h hby hm hlc hcm
  have D2 := fun W (h : RdB W.heap.size W (.slice a zs.length cap) zs) => drawEncodeText_any a cap zs W h hby hm hlc hcm
  have D3 := fun W (h : RdB W.heap.size W (.slice a zs.length cap) zs) => drawDecodeText_any a cap zs W h hby hm hlc hcm
  rw [hU] at D1
  rw [hQ] at D2
  rw [hC] at D3
  have F1 := fun v W h => specFromUnits_any v U W h (by omega)
  have F2 := fun v W h => implFromUnits_any v U W h (by omega)
  rw [hP] at F1 F2
  have G1 := fun v W h => specEncodeText_any v Q W h (by omega)
  have G2 := fun v W h hT => implEncodeText_any v Q W h (by omega) hT
  rw [hE] at G1 G2
  have K1 := fun v W h => specDecodeText_any v C W h bC (by omega)
  have K2 := fun v W h hs hT => implDecodeText_any v C W h bC (by omega) hs hT
  rw [hD] at K1 K2
  have T1 : tuR P = (U, 0) := units_back (by rw [hP, k1])
  have M1 := fun v W h => implToUnits_any v P W h (by omega)
  rw [T1] at M1
  subst k1
  have hok : Q.all okPt = true := by
    cases h : Q.all okPt
    · rw [encR_bad Q h] at hE; simp at hE; omega
    · rfl
  have hTB : decR E = (Q, 0, 0) := by have := text_back hok; rw [hE] at this; exact this
  have hWB : widthR E = (Q.length : Int) := by have := width_back hok; rw [hE] at this; exact this
  have hPB := points_back hok
  have lV : (tuR Q).1.length ≤ 24 := by have := tuR_len Q; omega
  have M2 := fun v W h => implToUnits_any v Q W h (by omega)
  have M3 := fun v W h => implFromUnits_any v (tuR Q).1 W h (by omega)
  rw [hPB.2] at M3
  rw [hPB.1] at M2
  have M4 := fun v W h hs hT => implDecodeText_any v E W h bE (by omega) hs hT
  rw [hTB] at M4
  have M5 := fun v W h hs hT => implTextWidth_any v E W h bE (by omega) hs hT
  rw [hWB] at M5
  have qw : ((Q.length : Int) != (Q.length : Int)) = false := by simp
  generalize (tuR Q).1 = V at M2 M3 lV
  subst k2
  clear hok hTB hWB hPB
  have hWN : widthR C = -1 := width_bad (by rw [hD]; exact k3)
  have M7 := fun v W h hs hT => implTextWidth_any v C W h bC (by omega) hs hT
  rw [hWN] at M7
  have q3 : (e3 != 0) = true := by simp [k3]
  have q3n : (e3 != e3) = false := by simp
  clear k3 hWN
  have qa : (at3 != at3) = false := by simp
  clear hU hP hQ hE hC hD
  go_enter Tryd.func3, Tryd.ntmps3
  go_wp2_with fail
  refine (D1 w hv).mono ?_
  rintro e w1 ⟨u1, rfl, o1, t1⟩
  have A1 := hv.keep t1
  go_wp2_with fail
  refine (F1 u1 w1 o1.rd).mono ?_
  rintro e w2 ⟨x2, rfl, _, g2⟩
  have A2 := A1.keep g2
  have t2 := grown_trans t1 g2
  have o2 := Ow.later o1 g2
  clear A1 g2 t1 o1
  go_wp2_with fail
  refine (D1 w2 A2.now).mono ?_
  rintro e w3 ⟨u3, rfl, p3, g3⟩
  have A3 := A2.keep g3
  have t3 := grown_trans t2 g3
  have o3 := Ow.later o2 g3
  clear A2 g3 t2 o2
  go_wp2_with fail
  refine (F2 u3 w3 p3.rd).mono ?_
  rintro e w4 ⟨x4, rfl, p4, g4⟩
  have A4 := A3.keep g4
  have t4 := grown_trans t3 g4
  have o4 := Ow.later o3 g4
  clear A3 g4 t3 o3 p3 D1 F1 F2
  go_wp2_with fail
  refine (M1 x4 w4 p4.rd).mono ?_
  rintro e w5 ⟨x5, rfl, p5, g5⟩
  have A5 := A4.keep g5
  have t5 := grown_trans t4 g5
  have o5 := Ow.later o4 g5
  clear A4 g5 t4 o4 p4 M1
  go_wp2_with fail
  refine (sameN_same _ _ U _ p5.rd o5.rd (by omega)).mono ?_
  rintro e w6 ⟨rfl, g6⟩
  have A6 := A5.keep g6
  have t6 := grown_trans t5 g6
  clear A5 g6 t5 o5 p5
  go_wp2_with fail
  refine (D2 w6 A6.now).mono ?_
  rintro e w7 ⟨u7, rfl, o7, g7⟩
  have A7 := A6.keep g7
  have t7 := grown_trans t6 g7
  clear A6 g7 t6
  go_wp2_with fail
  refine (G1 u7 w7 o7.rd).mono ?_
  rintro e w8 ⟨x8, rfl, _, g8⟩
  have A8 := A7.keep g8
  have t8 := grown_trans t7 g8
  have o8 := Ow.later o7 g8
  clear A7 g8 t7 o7
  go_wp2_with fail
  refine (D2 w8 A8.now).mono ?_
  rintro e w9 ⟨u9, rfl, p9, g9⟩
  have A9 := A8.keep g9
  have t9 := grown_trans t8 g9
  have o9 := Ow.later o8 g9
  clear A8 g9 t8 o8
  go_wp2_with fail
  refine (G2 u9 w9 p9.rd (hT.keep t9)).mono ?_
  rintro e w10 ⟨b10, rfl, p10, g10⟩
  have A10 := A9.keep g10
  have t10 := grown_trans t9 g10
  have o10 := Ow.later o9 g10
  clear A9 g10 t9 o9 p9 D2 G1 G2
  obtain ⟨aq, capq, hq, _⟩ := o10.rd
  rw [hq] at o10 ⊢
  clear hq
  go_wp2_with fail
  refine (M4 b10 w10 p10.rd p10.sl (hT.keep t10)).mono ?_
  rintro e w11 ⟨r11, rfl, m11, g11⟩
  have A11 := A10.keep g11
  have t11 := grown_trans t10 g11
  have o11 := Ow.later o10 g11
  have p11 := Ow.later p10 g11
  clear A10 g11 t10 o10 p10 M4
  go_wp2_with fail
  refine (M2 _ w11 o11.rd).mono ?_
  rintro e w12 ⟨v12, rfl, n12, g12⟩
  have A12 := A11.keep g12
  have t12 := grown_trans t11 g12
  have o12 := Ow.later o11 g12
  have p12 := Ow.later p11 g12
  have m12 := Ow.later m11 g12
  clear A11 g12 t11 o11 p11 m11 M2
  go_wp2_with fail
  refine (M3 v12 w12 n12.rd).mono ?_
  rintro e w13 ⟨s13, rfl, n13, g13⟩
  have A13 := A12.keep g13
  have t13 := grown_trans t12 g13
  have o13 := Ow.later o12 g13
  have p13 := Ow.later p12 g13
  have m13 := Ow.later m12 g13
  clear A12 g13 t12 o12 p12 m12 n12 M3
  go_wp2_with fail
  refine (sameN_same _ _ Q _ m13.rd o13.rd (by omega)).mono ?_
  rintro e w14 ⟨rfl, g14⟩
  have A14 := A13.keep g14
  have t14 := grown_trans t13 g14
  have o14 := Ow.later o13 g14
  have p14 := Ow.later p13 g14
  have n14 := Ow.later n13 g14
  clear A13 g14 t13 o13 p13 m13 n13
  go_wp2_with fail
  refine (sameN_same _ _ Q _ n14.rd o14.rd (by omega)).mono ?_
  rintro e w15 ⟨rfl, g15⟩
  have A15 := A14.keep g15
  have t15 := grown_trans t14 g15
  have p15 := Ow.later p14 g15
  clear A14 g15 t14 o14 p14 n14
  go_wp2_with fail
  refine (M5 b10 w15 p15.rd p15.sl (hT.keep t15)).mono ?_
  rintro e w16 ⟨rfl, g16⟩
  have A16 := A15.keep g16
  have t16 := grown_trans t15 g16
  clear A15 g16 t15 p15 M5
  go_wp2_with fail
  refine (D3 w16 A16.now).mono ?_
  rintro e w17 ⟨u17, rfl, o17, g17⟩
  have A17 := A16.keep g17
  have t17 := grown_trans t16 g17
  clear A16 g17 t16
  go_wp2_with fail
  refine (K1 u17 w17 o17.rd).mono ?_
  rintro e w18 ⟨x18, rfl, _, g18⟩
  have A18 := A17.keep g18
  have t18 := grown_trans t17 g18
  have o18 := Ow.later o17 g18
  clear A17 g18 t17 o17
  go_wp2_with fail
  refine (D3 w18 A18.now).mono ?_
  rintro e w19 ⟨u19, rfl, p19, g19⟩
  have t19 := grown_trans t18 g19
  have o19 := Ow.later o18 g19
  clear A18 g19 t18 o18
  go_wp2_with fail
  refine (K2 u19 w19 p19.rd p19.sl (hT.keep t19)).mono ?_
  rintro e w20 ⟨d20, rfl, p20, g20⟩
  have t20 := grown_trans t19 g20
  have o20 := Ow.later o19 g20
  clear g20 t19 o19 p19 D3 K1 K2
  go_wp2_with fail
  refine (M7 u17 w20 o20.rd o20.sl (hT.keep t20)).mono ?_
  rintro e w21 ⟨rfl, g21⟩
  have t21 := grown_trans t20 g21
  clear g21 t20 o20 p20 M7
  go_wp2
  go_ret
  exact ⟨rfl, below_of_grown t21⟩

set_option maxHeartbeats 4000000 in
set_option maxRecDepth 100000 in
theorem units_101 (a : Option Addr) (cap : Nat) (zs U P Q E C D : List Int) (e1 e2 e3 at3 : Int) (w : World) (hv : RdB w.heap.size w (.slice a zs.length cap) zs) (hm : zs.length ≤ 1048576) (hlc : zs.length ≤ cap) (hcm : cap ≤ 9223372036854775807) (hT : Tab w) (hby : Bys zs)
    (hU : dfu zs = U) (hP : fuR U = (P, e1)) (hQ : det zs = Q) (hE : encR Q = (E, e2)) (hC : ddt zs = C) (hD : decR C = (D, e3, at3)) (lU : U.length ≤ 12) (lQ : Q.length ≤ 12) (lC : C.length ≤ 60) (bC : Bys C)
    (k1 : e1 = 0) (k2 : e2 ≠ 0) (k3 : e3 = 0) :
    Calls Tryd.prog 3 #[.slice a zs.length cap] w fun e w' => e = .returned (.bool true) ∧ Below w.heap.size w w' := by
  have hnot : ∀ (x : Bool) (w : World), (Op.unary .not (.bool x)).run Tryd.prog w = .ok (.bool (!x)) w := fun _ _ => rfl
  have lP : P.length ≤ 12 := by have := fuR_len U; rw [hP] at this; simpa using Nat.le_trans this lU
  have lE : E.length ≤ 48 := by have := encR_len Q; rw [hE] at this; simp at this; omega
  have bE : Bys E := by have := encR_bys Q; rw [hE] at this; exact this
  have lD : D.length ≤ 60 := by have := decR_len C; rw [hD] at this; simp at this; omega
  have D1 := fun W (h : RdB W.heap.size W (.slice a zs.length cap) zs) => drawFromUnits_any a cap zs W h hby hm hlc hcm
  have D2 := fun W (h : RdB W.heap.size W (.slice a zs.length cap) zs) => drawEncodeText_any a cap zs W h hby hm hlc hcm
  have D3 := fun W (h : RdB W.heap.size W (.slice a zs.length cap) zs) => drawDecodeText_any a cap zs W h hby hm hlc hcm
  rw [hU] at D1
  rw [hQ] at D2
  rw [hC] at D3
  have F1 := fun v W h => specFromUnits_any v U W h (by omega)
  have F2 := fun v W h => implFromUnits_any v U W h (by omega)
  rw [hP] at F1 F2
  have G1 := fun v W h => specEncodeText_any v Q W h (by omega)
  have G2 := fun v W h hT => implEncodeText_any v Q W h (by omega) hT
  rw [hE] at G1 G2
  have K1 := fun v W h => specDecodeText_any v C W h bC (by omega)
  have K2 := fun v W h hs hT => implDecodeText_any v C W h bC (by omega) hs hT
  rw [hD] at K1 K2
  have T1 : tuR P = (U, 0) := units_back (by rw [hP, k1])
  have M1 := fun v W h => implToUnits_any v P W h (by omega)
  rw [T1] at M1
  subst k1
  have q2 : (e2 == 0) = false := by simp [k2]
  have q2n : (e2 != e2) = false := by simp
  clear k2
  have hBB : encR D = (C, 0) := by have := bytes_back bC (by rw [hD]; exact k3); rw [hD] at this; exact this
  have M6 := fun v W h hT => implEncodeText_any v D W h (by omega) hT
  rw [hBB] at M6
  subst k3
  clear hBB
  have qa : (at3 != at3) = false := by simp
  clear hU hP hQ hE hC hD
  go_enter Tryd.func3, Tryd.ntmps3
  go_wp2_with fail
  refine (D1 w hv).mono ?_
  rintro e w1 ⟨u1, rfl, o1, t1⟩
  have A1 := hv.keep t1
  go_wp2_with fail
  refine (F1 u1 w1 o1.rd).mono ?_
  rintro e w2 ⟨x2, rfl, _, g2⟩
  have A2 := A1.keep g2
  have t2 := grown_trans t1 g2
  have o2 := Ow.later o1 g2
  clear A1 g2 t1 o1
  go_wp2_with fail
  refine (D1 w2 A2.now).mono ?_
  rintro e w3 ⟨u3, rfl, p3, g3⟩
  have A3 := A2.keep g3
  have t3 := grown_trans t2 g3
  have o3 := Ow.later o2 g3
  clear A2 g3 t2 o2
  go_wp2_with fail
  refine (F2 u3 w3 p3.rd).mono ?_
  rintro e w4 ⟨x4, rfl, p4, g4⟩
  have A4 := A3.keep g4
  have t4 := grown_trans t3 g4
  have o4 := Ow.later o3 g4
  clear A3 g4 t3 o3 p3 D1 F1 F2
  go_wp2_with fail
  refine (M1 x4 w4 p4.rd).mono ?_
  rintro e w5 ⟨x5, rfl, p5, g5⟩
  have A5 := A4.keep g5
  have t5 := grown_trans t4 g5
  have o5 := Ow.later o4 g5
  clear A4 g5 t4 o4 p4 M1
  go_wp2_with fail
  refine (sameN_same _ _ U _ p5.rd o5.rd (by omega)).mono ?_
  rintro e w6 ⟨rfl, g6⟩
  have A6 := A5.keep g6
  have t6 := grown_trans t5 g6
  clear A5 g6 t5 o5 p5
  go_wp2_with fail
  refine (D2 w6 A6.now).mono ?_
  rintro e w7 ⟨u7, rfl, o7, g7⟩
  have A7 := A6.keep g7
  have t7 := grown_trans t6 g7
  clear A6 g7 t6
  go_wp2_with fail
  refine (G1 u7 w7 o7.rd).mono ?_
  rintro e w8 ⟨x8, rfl, _, g8⟩
  have A8 := A7.keep g8
  have t8 := grown_trans t7 g8
  have o8 := Ow.later o7 g8
  clear A7 g8 t7 o7
  go_wp2_with fail
  refine (D2 w8 A8.now).mono ?_
  rintro e w9 ⟨u9, rfl, p9, g9⟩
  have A9 := A8.keep g9
  have t9 := grown_trans t8 g9
  have o9 := Ow.later o8 g9
  clear A8 g9 t8 o8
  go_wp2_with fail
  refine (G2 u9 w9 p9.rd (hT.keep t9)).mono ?_
  rintro e w10 ⟨b10, rfl, p10, g10⟩
  have A10 := A9.keep g10
  have t10 := grown_trans t9 g10
  have o10 := Ow.later o9 g10
  clear A9 g10 t9 o9 p9 D2 G1 G2
  have A16 := A10
  have t16 := t10
  clear A10 t10 o10 p10
  go_wp2_with fail
  refine (D3 w10 A16.now).mono ?_
  rintro e w17 ⟨u17, rfl, o17, g17⟩
  have A17 := A16.keep g17
  have t17 := grown_trans t16 g17
  clear A16 g17 t16
  go_wp2_with fail
  refine (K1 u17 w17 o17.rd).mono ?_
  rintro e w18 ⟨x18, rfl, _, g18⟩
  have A18 := A17.keep g18
  have t18 := grown_trans t17 g18
  have o18 := Ow.later o17 g18
  clear A17 g18 t17 o17
  go_wp2_with fail
  refine (D3 w18 A18.now).mono ?_
  rintro e w19 ⟨u19, rfl, p19, g19⟩
  have t19 := grown_trans t18 g19
  have o19 := Ow.later o18 g19
  clear A18 g19 t18 o18
  go_wp2_with fail
  refine (K2 u19 w19 p19.rd p19.sl (hT.keep t19)).mono ?_
  rintro e w20 ⟨d20, rfl, p20, g20⟩
  have t20 := grown_trans t19 g20
  have o20 := Ow.later o19 g20
  clear g20 t19 o19 p19 D3 K1 K2
  go_wp2_with fail
  refine (M6 d20 w20 p20.rd (hT.keep t20)).mono ?_
  rintro e w21 ⟨x21, rfl, p21, g21⟩
  have t21 := grown_trans t20 g21
  have o21 := Ow.later o20 g21
  clear g21 t20 o20 p20 M6
  go_wp2_with fail
  refine (sameB_same _ _ C _ p21.rd o21.rd (by omega)).mono ?_
  rintro e w22 ⟨rfl, g22⟩
  have t22 := grown_trans t21 g22
  clear o21 p21 g22 t21
  go_wp2
  go_ret
  exact ⟨rfl, below_of_grown t22⟩

set_option maxHeartbeats 4000000 in
set_option maxRecDepth 100000 in
theorem units_100 (a : Option Addr) (cap : Nat) (zs U P Q E C D : List Int) (e1 e2 e3 at3 : Int) (w : World) (hv : RdB w.heap.size w (.slice a zs.length cap) zs) (hm : zs.length ≤ 1048576) (hlc : zs.length ≤ cap) (hcm : cap ≤ 9223372036854775807) (hT : Tab w) (hby : Bys zs)
    (hU : dfu zs = U) (hP : fuR U = (P, e1)) (hQ : det zs = Q) (hE : encR Q = (E, e2)) (hC : ddt zs = C) (hD : decR C = (D, e3, at3)) (lU : U.length ≤ 12) (lQ : Q.length ≤ 12) (lC : C.length ≤ 60) (bC : Bys C)
    (k1 : e1 = 0) (k2 : e2 ≠ 0) (k3 : e3 ≠ 0) :
    Calls Tryd.prog 3 #[.slice a zs.length cap] w fun e w' => e = .returned (.bool true) ∧ Below w.heap.size w w' := by
  have hnot : ∀ (x : Bool) (w : World), (Op.unary .not (.bool x)).run Tryd.prog w = .ok (.bool (!x)) w := fun _ _ => rfl
  have lP : P.length ≤ 12 := by have := fuR_len U; rw [hP] at this; simpa using Nat.le_trans this lU
  have lE : E.length ≤ 48 := by have := encR_len Q; rw [hE] at this; simp at this; omega
  have bE : Bys E := by have := encR_bys Q; rw [hE] at this; exact this
  have lD : D.length ≤ 60 := by have := decR_len C; rw [hD] at this; simp at this; omega
  have D1 := fun W (h : RdB W.heap.size W (.slice a zs.length cap) zs) => drawFromUnits_any a cap zs W h hby hm hlc hcm
  have D2 := fun W (h : RdB W.heap.size W (.slice a zs.length cap) zs) => drawEncodeText_any a cap zs W h hby hm hlc hcm
  have D3 := fun W (h : RdB W.heap.size W (.slice a zs.length cap) zs) => drawDecodeText_any a cap zs W h hby hm hlc hcm
  rw [hU] at D1
  rw [hQ] at D2
  rw [hC] at D3
  have F1 := fun v W h => specFromUnits_any v U W h (by omega)
  have F2 := fun v W h => implFromUnits_any v U W h (by omega)
  rw [hP] at F1 F2
  have G1 := fun v W h => specEncodeText_any v Q W h (by omega)
  have G2 := fun v W h hT => implEncodeText_any v Q W h (by omega) hT
  rw [hE] at G1 G2
  have K1 := fun v W h => specDecodeText_any v C W h bC (by omega)
  have K2 := fun v W h hs hT => implDecodeText_any v C W h bC (by omega) hs hT
  rw [hD] at K1 K2
  have T1 : tuR P = (U, 0) := units_back (by rw [hP, k1])
  have M1 := fun v W h => implToUnits_any v P W h (by omega)
  rw [T1] at M1
  subst k1
  have q2 : (e2 == 0) = false := by simp [k2]
  have q2n : (e2 != e2) = false := by simp
  clear k2
  have hWN : widthR C = -1 := width_bad (by rw [hD]; exact k3)
  have M7 := fun v W h hs hT => implTextWidth_any v C W h bC (by omega) hs hT
  rw [hWN] at M7
  have q3 : (e3 != 0) = true := by simp [k3]
  have q3n : (e3 != e3) = false := by simp
  clear k3 hWN
  have qa : (at3 != at3) = false := by simp
  clear hU hP hQ hE hC hD
  go_enter Tryd.func3, Tryd.ntmps3
  go_wp2_with fail
  refine (D1 w hv).mono ?_
  rintro e w1 ⟨u1, rfl, o1, t1⟩
  have A1 := hv.keep t1
  go_wp2_with fail
  refine (F1 u1 w1 o1.rd).mono ?_
  rintro e w2 ⟨x2, rfl, _, g2⟩
  have A2 := A1.keep g2
  have t2 := grown_trans t1 g2
  have o2 := Ow.later o1 g2
  clear A1 g2 t1 o1
  go_wp2_with fail
  refine (D1 w2 A2.now).mono ?_
  rintro e w3 ⟨u3, rfl, p3, g3⟩
  have A3 := A2.keep g3
  have t3 := grown_trans t2 g3
  have o3 := Ow.later o2 g3
  clear A2 g3 t2 o2
  go_wp2_with fail
  refine (F2 u3 w3 p3.rd).mono ?_
  rintro e w4 ⟨x4, rfl, p4, g4⟩
  have A4 := A3.keep g4
  have t4 := grown_trans t3 g4
  have o4 := Ow.later o3 g4
  clear A3 g4 t3 o3 p3 D1 F1 F2
  go_wp2_with fail
  refine (M1 x4 w4 p4.rd).mono ?_
  rintro e w5 ⟨x5, rfl, p5, g5⟩
  have A5 := A4.keep g5
  have t5 := grown_trans t4 g5
  have o5 := Ow.later o4 g5
  clear A4 g5 t4 o4 p4 M1
  go_wp2_with fail
  refine (sameN_same _ _ U _ p5.rd o5.rd (by omega)).mono ?_
  rintro e w6 ⟨rfl, g6⟩
  have A6 := A5.keep g6
  have t6 := grown_trans t5 g6
  clear A5 g6 t5 o5 p5
  go_wp2_with fail
  refine (D2 w6 A6.now).mono ?_
  rintro e w7 ⟨u7, rfl, o7, g7⟩
  have A7 := A6.keep g7
  have t7 := grown_trans t6 g7
  clear A6 g7 t6
  go_wp2_with fail
  refine (G1 u7 w7 o7.rd).mono ?_
  rintro e w8 ⟨x8, rfl, _, g8⟩
  have A8 := A7.keep g8
  have t8 := grown_trans t7 g8
  have o8 := Ow.later o7 g8
  clear A7 g8 t7 o7
  go_wp2_with fail
  refine (D2 w8 A8.now).mono ?_
  rintro e w9 ⟨u9, rfl, p9, g9⟩
  have A9 := A8.keep g9
  have t9 := grown_trans t8 g9
  have o9 := Ow.later o8 g9
  clear A8 g9 t8 o8
  go_wp2_with fail
  refine (G2 u9 w9 p9.rd (hT.keep t9)).mono ?_
  rintro e w10 ⟨b10, rfl, p10, g10⟩
  have A10 := A9.keep g10
  have t10 := grown_trans t9 g10
  have o10 := Ow.later o9 g10
  clear A9 g10 t9 o9 p9 D2 G1 G2
  have A16 := A10
  have t16 := t10
  clear A10 t10 o10 p10
  go_wp2_with fail
  refine (D3 w10 A16.now).mono ?_
  rintro e w17 ⟨u17, rfl, o17, g17⟩
  have A17 := A16.keep g17
  have t17 := grown_trans t16 g17
  clear A16 g17 t16
  go_wp2_with fail
  refine (K1 u17 w17 o17.rd).mono ?_
  rintro e w18 ⟨x18, rfl, _, g18⟩
  have A18 := A17.keep g18
  have t18 := grown_trans t17 g18
  have o18 := Ow.later o17 g18
  clear A17 g18 t17 o17
  go_wp2_with fail
  refine (D3 w18 A18.now).mono ?_
  rintro e w19 ⟨u19, rfl, p19, g19⟩
  have t19 := grown_trans t18 g19
  have o19 := Ow.later o18 g19
  clear A18 g19 t18 o18
  go_wp2_with fail
  refine (K2 u19 w19 p19.rd p19.sl (hT.keep t19)).mono ?_
  rintro e w20 ⟨d20, rfl, p20, g20⟩
  have t20 := grown_trans t19 g20
  have o20 := Ow.later o19 g20
  clear g20 t19 o19 p19 D3 K1 K2
  go_wp2_with fail
  refine (M7 u17 w20 o20.rd o20.sl (hT.keep t20)).mono ?_
  rintro e w21 ⟨rfl, g21⟩
  have t21 := grown_trans t20 g21
  clear g21 t20 o20 p20 M7
  go_wp2
  go_ret
  exact ⟨rfl, below_of_grown t21⟩

set_option maxHeartbeats 4000000 in
set_option maxRecDepth 100000 in
theorem units_011 (a : Option Addr) (cap : Nat) (zs U P Q E C D : List Int) (e1 e2 e3 at3 : Int) (w : World) (hv : RdB w.heap.size w (.slice a zs.length cap) zs) (hm : zs.length ≤ 1048576) (hlc : zs.length ≤ cap) (hcm : cap ≤ 9223372036854775807) (hT : Tab w) (hby : Bys zs)
    (hU : dfu zs = U) (hP : fuR U = (P, e1)) (hQ : det zs = Q) (hE : encR Q = (E, e2)) (hC : ddt zs = C) (hD : decR C = (D, e3, at3)) (lU : U.length ≤ 12) (lQ : Q.length ≤ 12) (lC : C.length ≤ 60) (bC : Bys C)
    (k1 : e1 ≠ 0) (k2 : e2 = 0) (k3 : e3 = 0) :
    Calls Tryd.prog 3 #[.slice a zs.length cap] w fun e w' => e = .returned (.bool true) ∧ Below w.heap.size w w' := by
  have hnot : ∀ (x : Bool) (w : World), (Op.unary .not (.bool x)).run Tryd.prog w = .ok (.bool (!x)) w := fun _ _ => rfl
  have lP : P.length ≤ 12 := by have := fuR_len U; rw [hP] at this; simpa using Nat.le_trans this lU
  have lE : E.length ≤ 48 := by have := encR_len Q; rw [hE] at this; simp at this; omega
  have bE : Bys E := by have := encR_bys Q; rw [hE] at this; exact this
  have lD : D.length ≤ 60 := by have := decR_len C; rw [hD] at this; simp at this; omega
  have D1 := fun W (h : RdB W.heap.size W (.slice a zs.length cap) zs) => drawFromUnits_any a cap zs W h hby hm hlc hcm
  have D2 := fun W (h : RdB W.heap.size W (.slice a zs.length cap) zs) => drawEncodeText_any a cap zs W h hby hm hlc hcm
  have D3 := fun W (h : RdB W.heap.size W (.slice a zs.length cap) zs) => drawDecodeText_any a cap zs W h hby hm hlc hcm
  rw [hU] at D1
  rw [hQ] at D2
  rw [hC] at D3
  have F1 := fun v W h => specFromUnits_any v U W h (by omega)
  have F2 := fun v W h => implFromUnits_any v U W h (by omega)
  rw [hP] at F1 F2
  have G1 := fun v W h => specEncodeText_any v Q W h (by omega)
  have G2 := fun v W h hT => implEncodeText_any v Q W h (by omega) hT
  rw [hE] at G1 G2
  have K1 := fun v W h => specDecodeText_any v C W h bC (by omega)
  have K2 := fun v W h hs hT => implDecodeText_any v C W h bC (by omega) hs hT
  rw [hD] at K1 K2
  have q1 : (e1 == 0) = false := by simp [k1]
  have q1n : (e1 != e1) = false := by simp
  clear k1
  have hok : Q.all okPt = true := by
    cases h : Q.all okPt
    · rw [encR_bad Q h] at hE; simp at hE; omega
    · rfl
  have hTB : decR E = (Q, 0, 0) := by have := text_back hok; rw [hE] at this; exact this
  have hWB : widthR E = (Q.length : Int) := by have := width_back hok; rw [hE] at this; exact this
  have hPB := points_back hok
  have lV : (tuR Q).1.length ≤ 24 := by have := tuR_len Q; omega
  have M2 := fun v W h => implToUnits_any v Q W h (by omega)
  have M3 := fun v W h => implFromUnits_any v (tuR Q).1 W h (by omega)
  rw [hPB.2] at M3
  rw [hPB.1] at M2
  have M4 := fun v W h hs hT => implDecodeText_any v E W h bE (by omega) hs hT
  rw [hTB] at M4
  have M5 := fun v W h hs hT => implTextWidth_any v E W h bE (by omega) hs hT
  rw [hWB] at M5
  have qw : ((Q.length : Int) != (Q.length : Int)) = false := by simp
  generalize (tuR Q).1 = V at M2 M3 lV
  subst k2
  clear hok hTB hWB hPB
  have hBB : encR D = (C, 0) := by have := bytes_back bC (by rw [hD]; exact k3); rw [hD] at this; exact this
  have M6 := fun v W h hT => implEncodeText_any v D W h (by omega) hT
  rw [hBB] at M6
  subst k3
  clear hBB
  have qa : (at3 != at3) = false := by simp
  clear hU hP hQ hE hC hD
  go_enter Tryd.func3, Tryd.ntmps3
  go_wp2_with fail
  refine (D1 w hv).mono ?_
  rintro e w1 ⟨u1, rfl, o1, t1⟩
  have A1 := hv.keep t1
  go_wp2_with fail
  refine (F1 u1 w1 o1.rd).mono ?_
  rintro e w2 ⟨x2, rfl, _, g2⟩
  have A2 := A1.keep g2
  have t2 := grown_trans t1 g2
  have o2 := Ow.later o1 g2
  clear A1 g2 t1 o1
  go_wp2_with fail
  refine (D1 w2 A2.now).mono ?_
  rintro e w3 ⟨u3, rfl, p3, g3⟩
  have A3 := A2.keep g3
  have t3 := grown_trans t2 g3
  have o3 := Ow.later o2 g3
  clear A2 g3 t2 o2
  go_wp2_with fail
  refine (F2 u3 w3 p3.rd).mono ?_
  rintro e w4 ⟨x4, rfl, p4, g4⟩
  have A4 := A3.keep g4
  have t4 := grown_trans t3 g4
  have o4 := Ow.later o3 g4
  clear A3 g4 t3 o3 p3 D1 F1 F2
  clear o4 p4
  go_wp2_with fail
  refine (D2 w4 A4.now).mono ?_
  rintro e w7 ⟨u7, rfl, o7, g7⟩
  have A7 := A4.keep g7
  have t7 := grown_trans t4 g7
  clear A4 g7 t4
  go_wp2_with fail
  refine (G1 u7 w7 o7.rd).mono ?_
  rintro e w8 ⟨x8, rfl, _, g8⟩
  have A8 := A7.keep g8
  have t8 := grown_trans t7 g8
  have o8 := Ow.later o7 g8
  clear A7 g8 t7 o7
  go_wp2_with fail
  refine (D2 w8 A8.now).mono ?_
  rintro e w9 ⟨u9, rfl, p9, g9⟩
  have A9 := A8.keep g9
  have t9 := grown_trans t8 g9
  have o9 := Ow.later o8 g9
  clear A8 g9 t8 o8
  go_wp2_with fail
  refine (G2 u9 w9 p9.rd (hT.keep t9)).mono ?_
  rintro e w10 ⟨b10, rfl, p10, g10⟩
  have A10 := A9.keep g10
  have t10 := grown_trans t9 g10
  have o10 := Ow.later o9 g10
  clear A9 g10 t9 o9 p9 D2 G1 G2
  obtain ⟨aq, capq, hq, _⟩ := o10.rd
  rw [hq] at o10 ⊢
  clear hq
  go_wp2_with fail
  refine (M4 b10 w10 p10.rd p10.sl (hT.keep t10)).mono ?_
  rintro e w11 ⟨r11, rfl, m11, g11⟩
  have A11 := A10.keep g11
  have t11 := grown_trans t10 g11
  have o11 := Ow.later o10 g11
  have p11 := Ow.later p10 g11
  clear A10 g11 t10 o10 p10 M4
  go_wp2_with fail
  refine (M2 _ w11 o11.rd).mono ?_
  rintro e w12 ⟨v12, rfl, n12, g12⟩
  have A12 := A11.keep g12
  have t12 := grown_trans t11 g12
  have o12 := Ow.later o11 g12
  have p12 := Ow.later p11 g12
  have m12 := Ow.later m11 g12
  clear A11 g12 t11 o11 p11 m11 M2
  go_wp2_with fail
  refine (M3 v12 w12 n12.rd).mono ?_
  rintro e w13 ⟨s13, rfl, n13, g13⟩
  have A13 := A12.keep g13
  have t13 := grown_trans t12 g13
  have o13 := Ow.later o12 g13
  have p13 := Ow.later p12 g13
  have m13 := Ow.later m12 g13
  clear A12 g13 t12 o12 p12 m12 n12 M3
  go_wp2_with fail
  refine (sameN_same _ _ Q _ m13.rd o13.rd (by omega)).mono ?_
  rintro e w14 ⟨rfl, g14⟩
  have A14 := A13.keep g14
  have t14 := grown_trans t13 g14
  have o14 := Ow.later o13 g14
  have p14 := Ow.later p13 g14
  have n14 := Ow.later n13 g14
  clear A13 g14 t13 o13 p13 m13 n13
  go_wp2_with fail
  refine (sameN_same _ _ Q _ n14.rd o14.rd (by omega)).mono ?_
  rintro e w15 ⟨rfl, g15⟩
  have A15 := A14.keep g15
  have t15 := grown_trans t14 g15
  have p15 := Ow.later p14 g15
  clear A14 g15 t14 o14 p14 n14
  go_wp2_with fail
  refine (M5 b10 w15 p15.rd p15.sl (hT.keep t15)).mono ?_
  rintro e w16 ⟨rfl, g16⟩
  have A16 := A15.keep g16
  have t16 := grown_trans t15 g16
  clear A15 g16 t15 p15 M5
  go_wp2_with fail
  refine (D3 w16 A16.now).mono ?_
  rintro e w17 ⟨u17, rfl, o17, g17⟩
  have A17 := A16.keep g17
  have t17 := grown_trans t16 g17
  clear A16 g17 t16
  go_wp2_with fail
  refine (K1 u17 w17 o17.rd).mono ?_
  rintro e w18 ⟨x18, rfl, _, g18⟩
  have A18 := A17.keep g18
  have t18 := grown_trans t17 g18
  have o18 := Ow.later o17 g18
  clear A17 g18 t17 o17
  go_wp2_with fail
  refine (D3 w18 A18.now).mono ?_
  rintro e w19 ⟨u19, rfl, p19, g19⟩
  have t19 := grown_trans t18 g19
  have o19 := Ow.later o18 g19
  clear A18 g19 t18 o18
  go_wp2_with fail
  refine (K2 u19 w19 p19.rd p19.sl (hT.keep t19)).mono ?_
  rintro e w20 ⟨d20, rfl, p20, g20⟩
  have t20 := grown_trans t19 g20
  have o20 := Ow.later o19 g20
  clear g20 t19 o19 p19 D3 K1 K2
  go_wp2_with fail
  refine (M6 d20 w20 p20.rd (hT.keep t20)).mono ?_
  rintro e w21 ⟨x21, rfl, p21, g21⟩
  have t21 := grown_trans t20 g21
  have o21 := Ow.later o20 g21
  clear g21 t20 o20 p20 M6
  go_wp2_with fail
  refine (sameB_same _ _ C _ p21.rd o21.rd (by omega)).mono ?_
  rintro e w22 ⟨rfl, g22⟩
  have t22 := grown_trans t21 g22
  clear o21 p21 g22 t21
  go_wp2
  go_ret
  exact ⟨rfl, below_of_grown t22⟩

set_option maxHeartbeats 4000000 in
set_option maxRecDepth 100000 in
theorem units_010 (a : Option Addr) (cap : Nat) (zs U P Q E C D : List Int) (e1 e2 e3 at3 : Int) (w : World) (hv : RdB w.heap.size w (.slice a zs.length cap) zs) (hm : zs.length ≤ 1048576) (hlc : zs.length ≤ cap) (hcm : cap ≤ 9223372036854775807) (hT : Tab w) (hby : Bys zs)
    (hU : dfu zs = U) (hP : fuR U = (P, e1)) (hQ : det zs = Q) (hE : encR Q = (E, e2)) (hC : ddt zs = C) (hD : decR C = (D, e3, at3)) (lU : U.length ≤ 12) (lQ : Q.length ≤ 12) (lC : C.length ≤ 60) (bC : Bys C)
    (k1 : e1 ≠ 0) (k2 : e2 = 0) (k3 : e3 ≠ 0) :
    Calls Tryd.prog 3 #[.slice a zs.length cap] w fun e w' => e = .returned (.bool true) ∧ Below w.heap.size w w' := by
  have hnot : ∀ (x : Bool) (w : World), (Op.unary .not (.bool x)).run Tryd.prog w = .ok (.bool (!x)) w := fun _ _ => rfl
  have lP : P.length ≤ 12 := by have := fuR_len U; rw [hP] at this; simpa using Nat.le_trans this lU
  have lE : E.length ≤ 48 := by have := encR_len Q; rw [hE] at this; simp at this; omega
  have bE : Bys E := by have := encR_bys Q; rw [hE] at this; exact this
  have lD : D.length ≤ 60 := by have := decR_len C; rw [hD] at this; simp at this; omega
  have D1 := fun W (h : RdB W.heap.size W (.slice a zs.length cap) zs) => drawFromUnits_any a cap zs W h hby hm hlc hcm
  have D2 := fun W (h : RdB W.heap.size W (.slice a zs.length cap) zs) => drawEncodeText_any a cap zs W h hby hm hlc hcm
  have D3 := fun W (h : RdB W.heap.size W (.slice a zs.length cap) zs) => drawDecodeText_any a cap zs W h hby hm hlc hcm
  rw [hU] at D1
  rw [hQ] at D2
  rw [hC] at D3
  have F1 := fun v W h => specFromUnits_any v U W h (by omega)
  have F2 := fun v W h => implFromUnits_any v U W h (by omega)
  rw [hP] at F1 F2
  have G1 := fun v W h => specEncodeText_any v Q W h (by omega)
  have G2 := fun v W h hT => implEncodeText_any v Q W h (by omega) hT
  rw [hE] at G1 G2
  have K1 := fun v W h => specDecodeText_any v C W h bC (by omega)
  have K2 := fun v W h hs hT => implDecodeText_any v C W h bC (by omega) hs hT
  rw [hD] at K1 K2
  have q1 : (e1 == 0) = false := by simp [k1]
  have q1n : (e1 != e1) = false := by simp
  clear k1
  have hok : Q.all okPt = true := by
    cases h : Q.all okPt
    · rw [encR_bad Q h] at hE; simp at hE; omega
    · rfl
  have hTB : decR E = (Q, 0, 0) := by have := text_back hok; rw [hE] at this; exact this
  have hWB : widthR E = (Q.length : Int) := by have := width_back hok; rw [hE] at this; exact this
  have hPB := points_back hok
  have lV : (tuR Q).1.length ≤ 24 := by have := tuR_len Q; omega
  have M2 := fun v W h => implToUnits_any v Q W h (by omega)
  have M3 := fun v W h => implFromUnits_any v (tuR Q).1 W h (by omega)
  rw [hPB.2] at M3
  rw [hPB.1] at M2
  have M4 := fun v W h hs hT => implDecodeText_any v E W h bE (by omega) hs hT
  rw [hTB] at M4
  have M5 := fun v W h hs hT => implTextWidth_any v E W h bE (by omega) hs hT
  rw [hWB] at M5
  have qw : ((Q.length : Int) != (Q.length : Int)) = false := by simp
  generalize (tuR Q).1 = V at M2 M3 lV
  subst k2
  clear hok hTB hWB hPB
  have hWN : widthR C = -1 := width_bad (by rw [hD]; exact k3)
  have M7 := fun v W h hs hT => implTextWidth_any v C W h bC (by omega) hs hT
  rw [hWN] at M7
  have q3 : (e3 != 0) = true := by simp [k3]
  have q3n : (e3 != e3) = false := by simp
  clear k3 hWN
  have qa : (at3 != at3) = false := by simp
  clear hU hP hQ hE hC hD
  go_enter Tryd.func3, Tryd.ntmps3
  go_wp2_with fail
  refine (D1 w hv).mono ?_
  rintro e w1 ⟨u1, rfl, o1, t1⟩
  have A1 := hv.keep t1
  go_wp2_with fail
  refine (F1 u1 w1 o1.rd).mono ?_
  rintro e w2 ⟨x2, rfl, _, g2⟩
  have A2 := A1.keep g2
  have t2 := grown_trans t1 g2
  have o2 := Ow.later o1 g2
  clear A1 g2 t1 o1
  go_wp2_with fail
  refine (D1 w2 A2.now).mono ?_
  rintro e w3 ⟨u3, rfl, p3, g3⟩
  have A3 := A2.keep g3
  have t3 := grown_trans t2 g3
  have o3 := Ow.later o2 g3
  clear A2 g3 t2 o2
  go_wp2_with fail
  refine (F2 u3 w3 p3.rd).mono ?_
  rintro e w4 ⟨x4, rfl, p4, g4⟩
  have A4 := A3.keep g4
  have t4 := grown_trans t3 g4
  have o4 := Ow.later o3 g4
  clear A3 g4 t3 o3 p3 D1 F1 F2
  clear o4 p4
  go_wp2_with fail
  refine (D2 w4 A4.now).mono ?_
  rintro e w7 ⟨u7, rfl, o7, g7⟩
  have A7 := A4.keep g7
  have t7 := grown_trans t4 g7
  clear A4 g7 t4
  go_wp2_with fail
  refine (G1 u7 w7 o7.rd).mono ?_
  rintro e w8 ⟨x8, rfl, _, g8⟩
  have A8 := A7.keep g8
  have t8 := grown_trans t7 g8
  have o8 := Ow.later o7 g8
  clear A7 g8 t7 o7
  go_wp2_with fail
  refine (D2 w8 A8.now).mono ?_
  rintro e w9 ⟨u9, rfl, p9, g9⟩
  have A9 := A8.keep g9
  have t9 := grown_trans t8 g9
  have o9 := Ow.later o8 g9
  clear A8 g9 t8 o8
  go_wp2_with fail
  refine (G2 u9 w9 p9.rd (hT.keep t9)).mono ?_
  rintro e w10 ⟨b10, rfl, p10, g10⟩
  have A10 := A9.keep g10
  have t10 := grown_trans t9 g10
  have o10 := Ow.later o9 g10
  clear A9 g10 t9 o9 p9 D2 G1 G2
  obtain ⟨aq, capq, hq, _⟩ := o10.rd
  rw [hq] at o10 ⊢
  clear hq
  go_wp2_with fail
  refine (M4 b10 w10 p10.rd p10.sl (hT.keep t10)).mono ?_
  rintro e w11 ⟨r11, rfl, m11, g11⟩
  have A11 := A10.keep g11
  have t11 := grown_trans t10 g11
  have o11 := Ow.later o10 g11
  have p11 := Ow.later p10 g11
  clear A10 g11 t10 o10 p10 M4
  go_wp2_with fail
  refine (M2 _ w11 o11.rd).mono ?_
  rintro e w12 ⟨v12, rfl, n12, g12⟩
  have A12 := A11.keep g12
  have t12 := grown_trans t11 g12
  have o12 := Ow.later o11 g12
  have p12 := Ow.later p11 g12
  have m12 := Ow.later m11 g12
  clear A11 g12 t11 o11 p11 m11 M2
  go_wp2_with fail
  refine (M3 v12 w12 n12.rd).mono ?_
  rintro e w13 ⟨s13, rfl, n13, g13⟩
  have A13 := A12.keep g13
  have t13 := grown_trans t12 g13
  have o13 := Ow.later o12 g13
  have p13 := Ow.later p12 g13
  have m13 := Ow.later m12 g13
  clear A12 g13 t12 o12 p12 m12 n12 M3
  go_wp2_with fail
  refine (sameN_same _ _ Q _ m13.rd o13.rd (by omega)).mono ?_
  rintro e w14 ⟨rfl, g14⟩
  have A14 := A13.keep g14
  have t14 := grown_trans t13 g14
  have o14 := Ow.later o13 g14
  have p14 := Ow.later p13 g14
  have n14 := Ow.later n13 g14
  clear A13 g14 t13 o13 p13 m13 n13
  go_wp2_with fail
  refine (sameN_same _ _ Q _ n14.rd o14.rd (by omega)).mono ?_
  rintro e w15 ⟨rfl, g15⟩
  have A15 := A14.keep g15
  have t15 := grown_trans t14 g15
  have p15 := Ow.later p14 g15
  clear A14 g15 t14 o14 p14 n14
  go_wp2_with fail
  refine (M5 b10 w15 p15.rd p15.sl (hT.keep t15)).mono ?_
  rintro e w16 ⟨rfl, g16⟩
  have A16 := A15.keep g16
  have t16 := grown_trans t15 g16
  clear A15 g16 t15 p15 M5
  go_wp2_with fail
  refine (D3 w16 A16.now).mono ?_
  rintro e w17 ⟨u17, rfl, o17, g17⟩
  have A17 := A16.keep g17
  have t17 := grown_trans t16 g17
  clear A16 g17 t16
  go_wp2_with fail
  refine (K1 u17 w17 o17.rd).mono ?_
  rintro e w18 ⟨x18, rfl, _, g18⟩
  have A18 := A17.keep g18
  have t18 := grown_trans t17 g18
  have o18 := Ow.later o17 g18
  clear A17 g18 t17 o17
  go_wp2_with fail
  refine (D3 w18 A18.now).mono ?_
  rintro e w19 ⟨u19, rfl, p19, g19⟩
  have t19 := grown_trans t18 g19
  have o19 := Ow.later o18 g19
  clear A18 g19 t18 o18
  go_wp2_with fail
  refine (K2 u19 w19 p19.rd p19.sl (hT.keep t19)).mono ?_
  rintro e w20 ⟨d20, rfl, p20, g20⟩
  have t20 := grown_trans t19 g20
  have o20 := Ow.later o19 g20
  clear g20 t19 o19 p19 D3 K1 K2
  go_wp2_with fail
  refine (M7 u17 w20 o20.rd o20.sl (hT.keep t20)).mono ?_
  rintro e w21 ⟨rfl, g21⟩
  have t21 := grown_trans t20 g21
  clear g21 t20 o20 p20 M7
  go_wp2
  go_ret
  exact ⟨rfl, below_of_grown t21⟩

set_option maxHeartbeats 4000000 in
set_option maxRecDepth 100000 in
theorem units_001 (a : Option Addr) (cap : Nat) (zs U P Q E C D : List Int) (e1 e2 e3 at3 : Int) (w : World) (hv : RdB w.heap.size w (.slice a zs.length cap) zs) (hm : zs.length ≤ 1048576) (hlc : zs.length ≤ cap) (hcm : cap ≤ 9223372036854775807) (hT : Tab w) (hby : Bys zs)
    (hU : dfu zs = U) (hP : fuR U = (P, e1)) (hQ : det zs = Q) (hE : encR Q = (E, e2)) (hC : ddt zs = C) (hD : decR C = (D, e3, at3)) (lU : U.length ≤ 12) (lQ : Q.length ≤ 12) (lC : C.length ≤ 60) (bC : Bys C)
    (k1 : e1 ≠ 0) (k2 : e2 ≠ 0) (k3 : e3 = 0) :
    Calls Tryd.prog 3 #[.slice a zs.length cap] w fun e w' => e = .returned (.bool true) ∧ Below w.heap.size w w' := by
  have hnot : ∀ (x : Bool) (w : World), (Op.unary .not (.bool x)).run Tryd.prog w = .ok (.bool (!x)) w := fun _ _ => rfl
  have lP : P.length ≤ 12 := by have := fuR_len U; rw [hP] at this; simpa using Nat.le_trans this lU
  have lE : E.length ≤ 48 := by have := encR_len Q; rw [hE] at this; simp at this; omega
  have bE : Bys E := by have := encR_bys Q; rw [hE] at this; exact this
  have lD : D.length ≤ 60 := by have := decR_len C; rw [hD] at this; simp at this; omega
  have D1 := fun W (h : RdB W.heap.size W (.slice a zs.length cap) zs) => drawFromUnits_any a cap zs W h hby hm hlc hcm
  have D2 := fun W (h : RdB W.heap.size W (.slice a zs.length cap) zs) => drawEncodeText_any a cap zs W h hby hm hlc hcm
  have D3 := fun W (h : RdB W.heap.size W (.slice a zs.length cap) zs) => drawDecodeText_any a cap zs W h hby hm hlc hcm
  rw [hU] at D1
  rw [hQ] at D2
  rw [hC] at D3
  have F1 := fun v W h => specFromUnits_any v U W h (by omega)
  have F2 := fun v W h => implFromUnits_any v U W h (by omega)
  rw [hP] at F1 F2
  have G1 := fun v W h => specEncodeText_any v Q W h (by omega)
  have G2 := fun v W h hT => implEncodeText_any v Q W h (by omega) hT
  rw [hE] at G1 G2
  have K1 := fun v W h => specDecodeText_any v C W h bC (by omega)
  have K2 := fun v W h hs hT => implDecodeText_any v C W h bC (by omega) hs hT
  rw [hD] at K1 K2
  have q1 : (e1 == 0) = false := by simp [k1]
  have q1n : (e1 != e1) = false := by simp
  clear k1
  have q2 : (e2 == 0) = false := by simp [k2]
  have q2n : (e2 != e2) = false := by simp
  clear k2
  have hBB : encR D = (C, 0) := by have := bytes_back bC (by rw [hD]; exact k3); rw [hD] at this; exact this
  have M6 := fun v W h hT => implEncodeText_any v D W h (by omega) hT
  rw [hBB] at M6
  subst k3
  clear hBB
  have qa : (at3 != at3) = false := by simp
  clear hU hP hQ hE hC hD
  go_enter Tryd.func3, Tryd.ntmps3
  go_wp2_with fail
  refine (D1 w hv).mono ?_
  rintro e w1 ⟨u1, rfl, o1, t1⟩
  have A1 := hv.keep t1
  go_wp2_with fail
  refine (F1 u1 w1 o1.rd).mono ?_
  rintro e w2 ⟨x2, rfl, _, g2⟩
  have A2 := A1.keep g2
  have t2 := grown_trans t1 g2
  have o2 := Ow.later o1 g2
  clear A1 g2 t1 o1
  go_wp2_with fail
  refine (D1 w2 A2.now).mono ?_
  rintro e w3 ⟨u3, rfl, p3, g3⟩
  have A3 := A2.keep g3
  have t3 := grown_trans t2 g3
  have o3 := Ow.later o2 g3
  clear A2 g3 t2 o2
  go_wp2_with fail
  refine (F2 u3 w3 p3.rd).mono ?_
  rintro e w4 ⟨x4, rfl, p4, g4⟩
  have A4 := A3.keep g4
  have t4 := grown_trans t3 g4
  have o4 := Ow.later o3 g4
  clear A3 g4 t3 o3 p3 D1 F1 F2
  clear o4 p4
  go_wp2_with fail
  refine (D2 w4 A4.now).mono ?_
  rintro e w7 ⟨u7, rfl, o7, g7⟩
  have A7 := A4.keep g7
  have t7 := grown_trans t4 g7
  clear A4 g7 t4
  go_wp2_with fail
  refine (G1 u7 w7 o7.rd).mono ?_
  rintro e w8 ⟨x8, rfl, _, g8⟩
  have A8 := A7.keep g8
  have t8 := grown_trans t7 g8
  have o8 := Ow.later o7 g8
  clear A7 g8 t7 o7
  go_wp2_with fail
  refine (D2 w8 A8.now).mono ?_
  rintro e w9 ⟨u9, rfl, p9, g9⟩
  have A9 := A8.keep g9
  have t9 := grown_trans t8 g9
  have o9 := Ow.later o8 g9
  clear A8 g9 t8 o8
  go_wp2_with fail
  refine (G2 u9 w9 p9.rd (hT.keep t9)).mono ?_
  rintro e w10 ⟨b10, rfl, p10, g10⟩
  have A10 := A9.keep g10
  have t10 := grown_trans t9 g10
  have o10 := Ow.later o9 g10
  clear A9 g10 t9 o9 p9 D2 G1 G2
  have A16 := A10
  have t16 := t10
  clear A10 t10 o10 p10
  go_wp2_with fail
  refine (D3 w10 A16.now).mono ?_
  rintro e w17 ⟨u17, rfl, o17, g17⟩
  have A17 := A16.keep g17
  have t17 := grown_trans t16 g17
  clear A16 g17 t16
  go_wp2_with fail
  refine (K1 u17 w17 o17.rd).mono ?_
  rintro e w18 ⟨x18, rfl, _, g18⟩
  have A18 := A17.keep g18
  have t18 := grown_trans t17 g18
  have o18 := Ow.later o17 g18
  clear A17 g18 t17 o17
  go_wp2_with fail
  refine (D3 w18 A18.now).mono ?_
  rintro e w19 ⟨u19, rfl, p19, g19⟩
  have t19 := grown_trans t18 g19
  have o19 := Ow.later o18 g19
  clear A18 g19 t18 o18
  go_wp2_with fail
  refine (K2 u19 w19 p19.rd p19.sl (hT.keep t19)).mono ?_
  rintro e w20 ⟨d20, rfl, p20, g20⟩
  have t20 := grown_trans t19 g20
  have o20 := Ow.later o19 g20
  clear g20 t19 o19 p19 D3 K1 K2
  go_wp2_with fail
  refine (M6 d20 w20 p20.rd (hT.keep t20)).mono ?_
  rintro e w21 ⟨x21, rfl, p21, g21⟩
  have t21 := grown_trans t20 g21
  have o21 := Ow.later o20 g21
  clear g21 t20 o20 p20 M6
  go_wp2_with fail
  refine (sameB_same _ _ C _ p21.rd o21.rd (by omega)).mono ?_
  rintro e w22 ⟨rfl, g22⟩
  have t22 := grown_trans t21 g22
  clear o21 p21 g22 t21
  go_wp2
  go_ret
  exact ⟨rfl, below_of_grown t22⟩

set_option maxHeartbeats 4000000 in
set_option maxRecDepth 100000 in
theorem units_000 (a : Option Addr) (cap : Nat) (zs U P Q E C D : List Int) (e1 e2 e3 at3 : Int) (w : World) (hv : RdB w.heap.size w (.slice a zs.length cap) zs) (hm : zs.length ≤ 1048576) (hlc : zs.length ≤ cap) (hcm : cap ≤ 9223372036854775807) (hT : Tab w) (hby : Bys zs)
    (hU : dfu zs = U) (hP : fuR U = (P, e1)) (hQ : det zs = Q) (hE : encR Q = (E, e2)) (hC : ddt zs = C) (hD : decR C = (D, e3, at3)) (lU : U.length ≤ 12) (lQ : Q.length ≤ 12) (lC : C.length ≤ 60) (bC : Bys C)
    (k1 : e1 ≠ 0) (k2 : e2 ≠ 0) (k3 : e3 ≠ 0) :
    Calls Tryd.prog 3 #[.slice a zs.length cap] w fun e w' => e = .returned (.bool true) ∧ Below w.heap.size w w' := by
  have hnot : ∀ (x : Bool) (w : World), (Op.unary .not (.bool x)).run Tryd.prog w = .ok (.bool (!x)) w := fun _ _ => rfl
  have lP : P.length ≤ 12 := by have := fuR_len U; rw [hP] at this; simpa using Nat.le_trans this lU
  have lE : E.length ≤ 48 := by have := encR_len Q; rw [hE] at this; simp at this; omega
  have bE : Bys E := by have := encR_bys Q; rw [hE] at this; exact this
  have lD : D.length ≤ 60 := by have := decR_len C; rw [hD] at this; simp at this; omega
  have D1 := fun W (h : RdB W.heap.size W (.slice a zs.length cap) zs) => drawFromUnits_any a cap zs W h hby hm hlc hcm
  have D2 := fun W (h : RdB W.heap.size W (.slice a zs.length cap) zs) => drawEncodeText_any a cap zs W h hby hm hlc hcm
  have D3 := fun W (h : RdB W.heap.size W (.slice a zs.length cap) zs) => drawDecodeText_any a cap zs W h hby hm hlc hcm
  rw [hU] at D1
  rw [hQ] at D2
  rw [hC] at D3
  have F1 := fun v W h => specFromUnits_any v U W h (by omega)
  have F2 := fun v W h => implFromUnits_any v U W h (by omega)
  rw [hP] at F1 F2
  have G1 := fun v W h => specEncodeText_any v Q W h (by omega)
  have G2 := fun v W h hT => implEncodeText_any v Q W h (by omega) hT
  rw [hE] at G1 G2
  have K1 := fun v W h => specDecodeText_any v C W h bC (by omega)
  have K2 := fun v W h hs hT => implDecodeText_any v C W h bC (by omega) hs hT
  rw [hD] at K1 K2
  have q1 : (e1 == 0) = false := by simp [k1]
  have q1n : (e1 != e1) = false := by simp
  clear k1
  have q2 : (e2 == 0) = false := by simp [k2]
  have q2n : (e2 != e2) = false := by simp
  clear k2
  have hWN : widthR C = -1 := width_bad (by rw [hD]; exact k3)
  have M7 := fun v W h hs hT => implTextWidth_any v C W h bC (by omega) hs hT
  rw [hWN] at M7
  have q3 : (e3 != 0) = true := by simp [k3]
  have q3n : (e3 != e3) = false := by simp
  clear k3 hWN
  have qa : (at3 != at3) = false := by simp
  clear hU hP hQ hE hC hD
  go_enter Tryd.func3, Tryd.ntmps3
  go_wp2_with fail
  refine (D1 w hv).mono ?_
  rintro e w1 ⟨u1, rfl, o1, t1⟩
  have A1 := hv.keep t1
  go_wp2_with fail
  refine (F1 u1 w1 o1.rd).mono ?_
  rintro e w2 ⟨x2, rfl, _, g2⟩
  have A2 := A1.keep g2
  have t2 := grown_trans t1 g2
  have o2 := Ow.later o1 g2
  clear A1 g2 t1 o1
  go_wp2_with fail
  refine (D1 w2 A2.now).mono ?_
  rintro e w3 ⟨u3, rfl, p3, g3⟩
  have A3 := A2.keep g3
  have t3 := grown_trans t2 g3
  have o3 := Ow.later o2 g3
  clear A2 g3 t2 o2
  go_wp2_with fail
  refine (F2 u3 w3 p3.rd).mono ?_
  rintro e w4 ⟨x4, rfl, p4, g4⟩
  have A4 := A3.keep g4
  have t4 := grown_trans t3 g4
  have o4 := Ow.later o3 g4
  clear A3 g4 t3 o3 p3 D1 F1 F2
  clear o4 p4
  go_wp2_with fail
  refine (D2 w4 A4.now).mono ?_
  rintro e w7 ⟨u7, rfl, o7, g7⟩
  have A7 := A4.keep g7
  have t7 := grown_trans t4 g7
  clear A4 g7 t4
  go_wp2_with fail
  refine (G1 u7 w7 o7.rd).mono ?_
  rintro e w8 ⟨x8, rfl, _, g8⟩
  have A8 := A7.keep g8
  have t8 := grown_trans t7 g8
  have o8 := Ow.later o7 g8
  clear A7 g8 t7 o7
  go_wp2_with fail
  refine (D2 w8 A8.now).mono ?_
  rintro e w9 ⟨u9, rfl, p9, g9⟩
  have A9 := A8.keep g9
  have t9 := grown_trans t8 g9
  have o9 := Ow.later o8 g9
  clear A8 g9 t8 o8
  go_wp2_with fail
  refine (G2 u9 w9 p9.rd (hT.keep t9)).mono ?_
  rintro e w10 ⟨b10, rfl, p10, g10⟩
  have A10 := A9.keep g10
  have t10 := grown_trans t9 g10
  have o10 := Ow.later o9 g10
  clear A9 g10 t9 o9 p9 D2 G1 G2
  have A16 := A10
  have t16 := t10
  clear A10 t10 o10 p10
  go_wp2_with fail
  refine (D3 w10 A16.now).mono ?_
  rintro e w17 ⟨u17, rfl, o17, g17⟩
  have A17 := A16.keep g17
  have t17 := grown_trans t16 g17
  clear A16 g17 t16
  go_wp2_with fail
  refine (K1 u17 w17 o17.rd).mono ?_
  rintro e w18 ⟨x18, rfl, _, g18⟩
  have A18 := A17.keep g18
  have t18 := grown_trans t17 g18
  have o18 := Ow.later o17 g18
  clear A17 g18 t17 o17
  go_wp2_with fail
  refine (D3 w18 A18.now).mono ?_
  rintro e w19 ⟨u19, rfl, p19, g19⟩
  have t19 := grown_trans t18 g19
  have o19 := Ow.later o18 g19
  clear A18 g19 t18 o18
  go_wp2_with fail
  refine (K2 u19 w19 p19.rd p19.sl (hT.keep t19)).mono ?_
  rintro e w20 ⟨d20, rfl, p20, g20⟩
  have t20 := grown_trans t19 g20
  have o20 := Ow.later o19 g20
  clear g20 t19 o19 p19 D3 K1 K2
  go_wp2_with fail
  refine (M7 u17 w20 o20.rd o20.sl (hT.keep t20)).mono ?_
  rintro e w21 ⟨rfl, g21⟩
  have t21 := grown_trans t20 g21
  clear g21 t20 o20 p20 M7
  go_wp2
  go_ret
  exact ⟨rfl, below_of_grown t21⟩

set_option maxHeartbeats 400000 in
set_option maxRecDepth 100000 in
theorem units_long (a : Option Addr) (cap n : Nat) (w : World) (h : 1048576 < n) (hm : n ≤ 9223372036854775807) :
    Calls Tryd.prog 3 #[.slice a n cap] w fun e w' => e = .returned (.bool true) ∧ Below w.heap.size w w' := by
  go_enter Tryd.func3, Tryd.ntmps3
  go_wp2
  go_ret
  exact ⟨rfl, Below.refl _ _⟩

theorem units_law (a : Option Addr) (cap : Nat) (zs : List Int) (w : World) (hv : RdB w.heap.size w (.slice a zs.length cap) zs) (hm : zs.length ≤ 9223372036854775807) (hT : Tab w) (hby : Bys zs) (hlc : zs.length ≤ cap) (hcm : cap ≤ 9223372036854775807) :
    Calls Tryd.prog 3 #[.slice a zs.length cap] w fun e w' => e = .returned (.bool true) ∧ Below w.heap.size w w' := by
  by_cases hl : zs.length ≤ 1048576
  · have hC := ddt_ok hby
    by_cases k1 : (fuR (dfu zs)).2 = 0
    · by_cases k2 : (encR (det zs)).2 = 0
      · by_cases k3 : (decR (ddt zs)).2.1 = 0
        · exact units_111 a cap zs _ _ _ _ _ _ _ _ _ _ w hv hl hlc hcm hT hby rfl rfl rfl rfl rfl rfl (dfu_len hby) (det_len hby) hC.2 hC.1 k1 k2 k3
        · exact units_110 a cap zs _ _ _ _ _ _ _ _ _ _ w hv hl hlc hcm hT hby rfl rfl rfl rfl rfl rfl (dfu_len hby) (det_len hby) hC.2 hC.1 k1 k2 k3
      · by_cases k3 : (decR (ddt zs)).2.1 = 0
        · exact units_101 a cap zs _ _ _ _ _ _ _ _ _ _ w hv hl hlc hcm hT hby rfl rfl rfl rfl rfl rfl (dfu_len hby) (det_len hby) hC.2 hC.1 k1 k2 k3
        · exact units_100 a cap zs _ _ _ _ _ _ _ _ _ _ w hv hl hlc hcm hT hby rfl rfl rfl rfl rfl rfl (dfu_len hby) (det_len hby) hC.2 hC.1 k1 k2 k3
    · by_cases k2 : (encR (det zs)).2 = 0
      · by_cases k3 : (decR (ddt zs)).2.1 = 0
        · exact units_011 a cap zs _ _ _ _ _ _ _ _ _ _ w hv hl hlc hcm hT hby rfl rfl rfl rfl rfl rfl (dfu_len hby) (det_len hby) hC.2 hC.1 k1 k2 k3
        · exact units_010 a cap zs _ _ _ _ _ _ _ _ _ _ w hv hl hlc hcm hT hby rfl rfl rfl rfl rfl rfl (dfu_len hby) (det_len hby) hC.2 hC.1 k1 k2 k3
      · by_cases k3 : (decR (ddt zs)).2.1 = 0
        · exact units_001 a cap zs _ _ _ _ _ _ _ _ _ _ w hv hl hlc hcm hT hby rfl rfl rfl rfl rfl rfl (dfu_len hby) (det_len hby) hC.2 hC.1 k1 k2 k3
        · exact units_000 a cap zs _ _ _ _ _ _ _ _ _ _ w hv hl hlc hcm hT hby rfl rfl rfl rfl rfl rfl (dfu_len hby) (det_len hby) hC.2 hC.1 k1 k2 k3
  · exact units_long a cap zs.length w (by omega) hm

end Go.Proofs.YtdcajkgmhimffabDoor
