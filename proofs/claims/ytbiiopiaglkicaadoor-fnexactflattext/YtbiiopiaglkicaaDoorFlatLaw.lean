import Derived.Test.YtbiiopiaglkicaaDoorFlatImpl
import Derived.Test.YtbiiopiaglkicaaDoorEqP
import Derived.Test.YtbiiopiaglkicaaDoorMarkAll
namespace Go.Proofs.YtbiiopiaglkicaaDoor
open Go.RowKit

set_option maxHeartbeats 2000000 in
set_option maxRecDepth 100000 in
theorem flatText_law (v : Value) (doc : List Pc) (w : World) (hv : RdP w.heap.size w v doc) (hby : ∀ p ∈ doc, Bys p.t) (hT : Tab w) :
    Calls Tryd.prog 8 #[v] w fun e w' => e = .returned (.bool true) ∧ Below w.heap.size w w' := by
  obtain ⟨a, cap, hv0, _⟩ := id hv
  have hsz := szPieceS_any v doc 1048576 w hv (by omega) (by omega)
  by_cases h0 : szDoc doc 1048576 < 0
  · subst hv0
    generalize szDoc doc 1048576 = s at *
    clear hv hT
    go_enter Tryd.func8, Tryd.ntmps8
    go_wp2_with fail
    refine hsz.mono ?_
    rintro e w1 ⟨rfl, g1⟩
    go_wp2
    go_ret
    exact ⟨rfl, below_of_grown g1⟩
  · have hle := szDoc_le doc (by omega)
    have hsm := sum_mem doc
    have hd : Doc doc := by
      refine ⟨?_, ?_, ?_, hby⟩
      · by_cases hdz : doc = []
        · rw [hdz]; simp
        · obtain ⟨p, hp⟩ := List.exists_mem_of_ne_nil doc hdz
          have := hsm p hp; omega
      · intro p hp; have := hsm p hp; omega
      · omega
    have HD : Hid (Doc doc) := hd
    have HT : Hid (Tab w) := hT
    have hR0 := flatL_len doc
    have hnot : ∀ (x : Bool) (w : World), (Op.unary .not (.bool x)).run Tryd.prog w = .ok (.bool (!x)) w := fun _ _ => rfl
    have hspec : Hid (∀ (v : Value) (w : World), RdP w.heap.size w v doc → Calls Tryd.prog 36 #[v] w fun e w' => ∃ v', e = .returned (.tuple #[v', .bool (flatB doc)]) ∧ OwB w.heap.size w' v' (flatL doc) ∧ w.grownBy w' none) := fun v w h => specFlat_any v doc w h hd
    have himpl : Hid (∀ (v : Value) (w : World), RdP w.heap.size w v doc → Tab w → Calls Tryd.prog 29 #[v] w fun e w' => ∃ v', e = .returned (.tuple #[v', .bool (flatB doc)]) ∧ OwB w.heap.size w' v' (flatL doc) ∧ w.grownBy w' none) := fun v w h ht => implFlat_any v doc w h hd ht
    generalize flatL doc = R at *
    generalize flatB doc = bb at *
    have hne : (bb != bb) = false := by simp
    have hmm : (((1 : Int) + (R.length : Int)) != (1 + (R.length : Int))) = false := by simp
    have HV : Hid (RdP w.heap.size w v doc) := hv
    subst hv0
    generalize szDoc doc 1048576 = s at *
    clear hT hsm hle hd hv
    go_enter Tryd.func8, Tryd.ntmps8
    go_wp2_with fail
    refine hsz.mono ?_
    rintro e w1 ⟨rfl, g1⟩
    have a1 := HV.out.keep g1
    have s1 := g1.size
    clear hsz
    go_wp2_with fail
    refine (toPieceS_any _ doc _ (a1.wide s1) HD.out.len HD.out.tlen).mono ?_
    rintro e w2 ⟨x2, rfl, o2, g2⟩
    have a2 := a1.keep g2
    have t2 := grown_trans g1 g2
    clear a1 g1 g2 s1
    go_wp2_with fail
    refine (hspec.out _ _ o2.rd).mono ?_
    rintro e w3 ⟨s3, rfl, p3, g3⟩
    have a3 := a2.keep g3
    have t3 := grown_trans t2 g3
    have ls := World.ownsRow.lt p3
    have b23 := g3.size
    clear a2 g3 t2 o2
    go_wp2_with fail
    refine (toPieceS_any _ doc _ (a3.wide t3.size) HD.out.len HD.out.tlen).mono ?_
    rintro e w4 ⟨x4, rfl, o4, g4⟩
    have a4 := a3.keep g4
    have p4 := p3.later g4
    have t4 := grown_trans t3 g4
    have q4 := o4.high
    have b34 := g4.size
    have bw3 := t3.size
    clear a3 g4 p3
    go_wp2_with fail
    refine (himpl.out _ _ o4.rd (HT.out.keep t4)).mono ?_
    rintro e w5 ⟨y5, rfl, o5, g5⟩
    have a5 := a4.keep g5
    have p5 := p4.later g5
    have q5 := q4.later g5
    have t5 := grown_trans t4 g5
    have ly := World.ownsRow.lt o5
    have b45 := g5.size
    clear a4 g5 t4 o4 p4 q4
    go_wp2_with fail
    refine (eqByteS_same _ _ R _ o5.rd p5.rd (by omega)).mono ?_
    rintro e w6 ⟨rfl, g6⟩
    have a6 := a5.keep g6
    have p6 := p5.later g6
    have q6 := q5.later g6
    have r6 := o5.later g6
    have t6 := grown_trans t5 g6
    clear a5 g6 t5 o5 p5 q5
    go_wp2_with fail
    refine (toPieceS_any _ doc _ (a6.wide t6.size) HD.out.len HD.out.tlen).mono ?_
    rintro e w7 ⟨x7, rfl, o7, g7⟩
    have a7 := a6.keep g7
    have p7 := p6.later g7
    have q7 := q6.later g7
    have r7 := r6.later g7
    have t7 := grown_trans t6 g7
    clear a6 g7 t6 p6 q6 r6
    go_wp2_with fail
    refine (eqPieceS_same _ _ doc _ q7.low.rd o7.rd HD.out.len HD.out.tlen).mono ?_
    rintro e w8 ⟨rfl, g8⟩
    have a8 := a7.keep g8
    have p8 := p7.later g8
    have q8 := q7.later g8
    have r8 := r7.later g8
    have t8 := grown_trans t7 g8
    clear a7 g8 t7 p7 q7 r7 o7
    go_wp2_with fail
    refine (markPieceS_any _ _ _ doc _ q8 HD.out.len HD.out.sum HD.out.tlen).mono ?_
    rintro e w9 ⟨k9, rfl, hk9, f9⟩
    have bl9 : Below w3.heap.size w8 w9 := f9.below (by have := World.ownsRow.lt r8; have := t8.size; have := (World.ownsRow.lt r8); have hh := q8.low.rd; obtain ⟨gq, tq, hvq, _, hoq, _⟩ := q8.low; have := World.ownsRow.lt hoq gq (by rw [hvq]; rfl); omega)
    have a9 := a8.belowB (bl9.mono bw3)
    have p9 : OwB w2.heap.size w9 s3 R := f9.row p8 (fun g hg => .inl (ls g hg).2)
    have r9 : OwB w4.heap.size w9 y5 R := f9.row r8 (fun g hg => .inr (ly g hg).1)
    have t9 := (below_of_grown t8).trans (bl9.mono bw3)
    clear a8 t8 p8 q8 r8 f9 bl9
    go_wp2_with fail
    refine (eqByteS_same _ _ R _ r9.rd p9.rd (by omega)).mono ?_
    rintro e w10 ⟨rfl, g10⟩
    have a10 := a9.keep g10
    have p10 := p9.later g10
    have r10 := r9.later g10
    have t10 := t9.grown g10 t9.size (fun k e => by cases e)
    clear a9 g10 t9 p9 r9
    go_wp2_with fail
    refine (markByteS_any _ _ R 1 _ r10 (by omega) (by omega) (by omega)).mono ?_
    rintro e w11 ⟨rfl, r11, g11⟩
    have a11 := a10.beside g11 (fun k hk => by have := ly k hk; omega)
    have p11 := p10.beside g11 (fun k hk j hj => by have := ls k hk; have := ly j hj; omega)
    have t11 := t10.grown g11 t10.size (fun k hk => by have := ly k hk; omega)
    clear a10 p10 r10 t10 g11
    go_wp2_with fail
    refine (heldByteS_any _ R.length 1 _ r11.rd (by omega) (by omega) (by omega)).mono ?_
    rintro e w12 ⟨rfl, rfl⟩
    go_wp2_with fail
    refine (toPieceS_any _ doc _ (a11.wide t11.size) HD.out.len HD.out.tlen).mono ?_
    rintro e w13 ⟨x13, rfl, o13, g13⟩
    have p13 := p11.later g13
    have t13 := t11.grown g13 t11.size (fun k e => by cases e)
    clear a11 p11 t11 r11 g13
    go_wp2_with fail
    refine (himpl.out _ _ o13.rd (HT.out.below t13 HT.out.pos)).mono ?_
    rintro e w14 ⟨y14, rfl, o14, g14⟩
    have p14 := p13.later g14
    have t14 := t13.grown g14 t13.size (fun k e => by cases e)
    clear p13 t13 o13 g14
    go_wp2_with fail
    refine (eqByteS_same _ _ R _ o14.rd p14.rd (by omega)).mono ?_
    rintro e w15 ⟨rfl, g15⟩
    have t15 := t14.grown g15 t14.size (fun k e => by cases e)
    clear o14 p14 t14 g15
    go_wp2
    go_ret
    exact ⟨rfl, t15⟩

end Go.Proofs.YtbiiopiaglkicaaDoor
