import Derived.Test.YtbiiopiaglkicaaDoorDecSpec
namespace Go.Proofs.YtbiiopiaglkicaaDoor
open Go.RowKit

set_option maxHeartbeats 400000 in
set_option maxRecDepth 100000 in
theorem specTextWidth_any (v : Value) (zs : List Int) (w : World) (hv : RdB w.heap.size w v zs) (hby : Bys zs) (hn : zs.length ≤ 1048576) :
    Calls Tryd.prog 55 #[v] w fun e w' => e = .returned (.int .i64 (widthR zs)) ∧ w.grownBy w' none := by
  have hl := decR_len zs
  by_cases h0 : (decR zs).2.1 = 0
  · have HW : Hid (widthR zs = ((decR zs).1.length : Int)) := by unfold Hid widthR; rw [if_pos h0]
    go_enter Tryd.func55, Tryd.ntmps55
    go_wp2_with fail
    refine (specDecodeText_any v zs w hv hby hn).mono ?_
    rintro e w1 ⟨v1, rfl, o1, g1⟩
    obtain ⟨a1, cap1, hv1, _⟩ := o1.rd
    rw [hv1]
    clear hv1 o1 hv
    go_wp2
    go_ret
    exact ⟨by rw [HW.out]; rfl, g1⟩
  · have HW : Hid (widthR zs = -1) := by unfold Hid widthR; rw [if_neg h0]
    have hne : ((decR zs).2.1 != 0) = true := by simp [h0]
    go_enter Tryd.func55, Tryd.ntmps55
    go_wp2_with fail
    refine (specDecodeText_any v zs w hv hby hn).mono ?_
    rintro e w1 ⟨v1, rfl, o1, g1⟩
    clear o1 hv h0
    go_wp2
    go_ret
    exact ⟨by rw [HW.out]; rfl, g1⟩

end Go.Proofs.YtbiiopiaglkicaaDoor
