import Derived.Test.YtbiiopiaglkicaaDoorToP
import Derived.Test.YtbiiopiaglkicaaDoorEqP
import Derived.Test.YtbiiopiaglkicaaDoorSzP
import Derived.Test.YtbiiopiaglkicaaDoorLeadImpl
namespace Go.Proofs.YtbiiopiaglkicaaDoor
open Go.RowKit

set_option maxHeartbeats 1000000 in
set_option maxRecDepth 100000 in
theorem leadWidth_law (v : Value) (doc : List Pc) (w : World) (hv : RdP w.heap.size w v doc) (hby : ∀ p ∈ doc, Bys p.t) (hT : Tab w) :
    Calls Tryd.prog 7 #[v] w fun e w' => e = .returned (.bool true) ∧ Below w.heap.size w w' := by
  obtain ⟨a, cap, hv0, _⟩ := id hv
  have hsz := szPieceS_any v doc 1048576 w hv (by omega) (by omega)
  by_cases h0 : szDoc doc 1048576 < 0
  · subst hv0
    generalize szDoc doc 1048576 = s at *
    clear hv hT
    go_enter Tryd.func7, Tryd.ntmps7
    go_wp2_with fail
    refine hsz.mono ?_
    rintro e w1 ⟨rfl, g1⟩
    go_wp2
    go_ret
    exact ⟨rfl, below_of_grown g1⟩
  · have hle := szDoc_le doc (by omega)
    have hsm := sum_mem doc
    have hd : Doc doc := by
      refine ⟨?_, ?_, ?_, hby⟩
      · by_cases hdz : doc = []
        · rw [hdz]; simp
        · obtain ⟨p, hp⟩ := List.exists_mem_of_ne_nil doc hdz
          have := hsm p hp; omega
      · intro p hp; have := hsm p hp; omega
      · omega
    have HD : Hid (Doc doc) := hd
    have HT : Hid (Tab w) := hT
    have hne : ((leadR doc) != (leadR doc)) = false := by simp
    have hnot : ∀ (x : Bool) (w : World), (Op.unary .not (.bool x)).run Tryd.prog w = .ok (.bool (!x)) w := fun _ _ => rfl
    have hspec : Hid (∀ (v : Value) (w : World), RdP w.heap.size w v doc → Calls Tryd.prog 34 #[v] w fun e w' => e = .returned (.int .i64 (leadR doc)) ∧ w.grownBy w' none) := fun v w h => specLead_any v doc w h hd
    have himpl : Hid (∀ (v : Value) (w : World), RdP w.heap.size w v doc → Tab w → Calls Tryd.prog 35 #[v] w fun e w' => e = .returned (.int .i64 (leadR doc)) ∧ w.grownBy w' none) := fun v w h ht => implLead_any v doc w h hd ht
    generalize leadR doc = rr at *
    subst hv0
    generalize szDoc doc 1048576 = s at *
    clear hT hsm hle hd
    go_enter Tryd.func7, Tryd.ntmps7
    go_wp2_with fail
    refine hsz.mono ?_
    rintro e w1 ⟨rfl, g1⟩
    have a1 := hv.keep g1
    have s1 := g1.size
    clear hv hsz
    go_wp2_with fail
    refine (toPieceS_any _ doc _ (a1.wide s1) HD.out.len HD.out.tlen).mono ?_
    rintro e w2 ⟨x2, rfl, o2, g2⟩
    have a2 := a1.keep g2
    have t2 := grown_trans g1 g2
    clear a1 g1 g2 s1
    go_wp2_with fail
    refine (hspec.out _ _ o2.rd).mono ?_
    rintro e w3 ⟨rfl, g3⟩
    have a3 := a2.keep g3
    have t3 := grown_trans t2 g3
    clear a2 g3 t2 o2
    go_wp2_with fail
    refine (toPieceS_any _ doc _ (a3.wide t3.size) HD.out.len HD.out.tlen).mono ?_
    rintro e w4 ⟨x4, rfl, o4, g4⟩
    have a4 := a3.keep g4
    have t4 := grown_trans t3 g4
    clear a3 g4 t3
    go_wp2_with fail
    refine (himpl.out _ _ o4.rd (HT.out.keep t4)).mono ?_
    rintro e w5 ⟨rfl, g5⟩
    have a5 := a4.keep g5
    have o5 := o4.later g5
    have t5 := grown_trans t4 g5
    clear a4 g5 t4 o4
    go_wp2_with fail
    refine (toPieceS_any _ doc _ (a5.wide t5.size) HD.out.len HD.out.tlen).mono ?_
    rintro e w6 ⟨x6, rfl, o6, g6⟩
    have o5' := o5.later g6
    have t6 := grown_trans t5 g6
    clear a5 g6 t5 o5
    go_wp2_with fail
    refine (eqPieceS_same _ _ doc _ o5'.rd o6.rd HD.out.len HD.out.tlen).mono ?_
    rintro e w7 ⟨rfl, g7⟩
    have t7 := grown_trans t6 g7
    clear t6 g7 o5' o6
    go_wp2
    go_ret
    exact ⟨rfl, below_of_grown t7⟩

end Go.Proofs.YtbiiopiaglkicaaDoor
