import Derived.Test.YtbiiopiaglkicaaDoorL2lead
namespace Go.Proofs.YtbiiopiaglkicaaDoor
open Go.RowKit

/-- The width of the first line, -1 for a document that is not valid. -/
def leadR (doc : List Pc) : Int := if specV doc = true then (match bd doc [] with | some [T] => (leadT T).1 | _ => -1) else -1

set_option maxHeartbeats 2000000 in
set_option maxRecDepth 100000 in
theorem specLead_any (v : Value) (doc : List Pc) (w : World) (hv : RdP w.heap.size w v doc) (hd : Doc doc) :
    Calls Tryd.prog 34 #[v] w fun e w' => e = .returned (.int .i64 (leadR doc)) ∧ w.grownBy w' none := by
  have hV := specValid_any v doc w hv hd
  obtain ⟨a, cap, hv0, _⟩ := id hv
  rcases valid_eq doc with ⟨h1, _, T, n, h3, _, h5⟩ | ⟨h1, _⟩
  · have HF : Hid (leadR doc = (leadT T).1) := by unfold Hid leadR; rw [if_pos h1, h3]
    have hsz := spec_sz doc h1 T h3
    have HL : Hid (∀ (va sv : Value) (B : Nat), LeadSays va sv B doc (startsOf doc) T doc.length) := fun va sv B => l2lead_any va sv B doc (startsOf doc) hd T 0 doc.length h5 hsz
    have hl := hd.len
    have HV : Hid (RdP w.heap.size w v doc) := hv
    rw [h1] at hV
    clear h3 h5 h1 hv
    have HST : Hid (∀ (w : World), RdP w.heap.size w v doc → Calls Tryd.prog 57 #[v] w fun e w' => ∃ v', e = .returned v' ∧ OwI w.heap.size w' v' (startsOf doc) ∧ w.grownBy w' none) := fun w h => l2starts_any v doc w h hl
    subst hv0
    go_enter Tryd.func34, Tryd.ntmps34
    go_wp2_with fail
    refine hV.mono ?_
    rintro e w1 ⟨rfl, g1⟩
    have hst := HST.out w1 ((HV.out.keep g1).wide g1.size)
    clear hV
    go_wp2_with fail
    refine hst.mono ?_
    rintro e w2 ⟨sv, rfl, o2, g2⟩
    have t2 := grown_trans g1 g2
    have hlead := HL.out (.slice a doc.length cap) sv w2.heap.size w2 (Nat.le_refl _) ((HV.out.keep t2).wide t2.size) o2.rd
    obtain ⟨sa, scap, hsv, _, _⟩ := row_form o2
    subst hsv
    clear o2 HV hst
    go_wp2_with fail
    refine hlead.mono ?_
    rintro e w3 ⟨rfl, g3⟩
    go_wp2
    go_ret
    exact ⟨by rw [HF.out]; rfl, grown_trans t2 g3⟩
  · have HF : Hid (leadR doc = -1) := by unfold Hid leadR; rw [if_neg (by rw [h1]; simp)]
    rw [h1] at hV
    subst hv0
    clear hv h1
    go_enter Tryd.func34, Tryd.ntmps34
    go_wp2_with fail
    refine hV.mono ?_
    rintro e w1 ⟨rfl, g1⟩
    go_wp2
    go_ret
    exact ⟨by rw [HF.out]; rfl, g1⟩

end Go.Proofs.YtbiiopiaglkicaaDoor
