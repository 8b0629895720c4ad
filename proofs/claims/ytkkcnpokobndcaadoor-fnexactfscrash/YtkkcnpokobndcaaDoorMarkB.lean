import Derived.Test.YtkkcnpokobndcaaDoorBase
namespace Go.Proofs.YtkkcnpokobndcaaDoor
open Go.RowKit

set_option maxHeartbeats 400000 in
set_option maxRecDepth 100000 in
theorem markByteS_any (B : Nat) (v : Value) (zs : List Int) (s : Int) (w : World) (hv : OwB B w v zs) (hn : zs.length ≤ 4194304) (h0 : 0 ≤ s) (h1 : s ≤ 4611686018427387904) :
    Calls Tryd.prog 16 #[v, .int .i64 s] w fun e w' => e = .returned (.int .i64 (s + zs.length)) ∧ OwB B w' v (upto (markB s) zs.length) ∧ w.grownBy w' v.ownBlock := by
  rcases hv.2 with ⟨rfl, hz⟩ | ⟨g, cap, cur, rfl, hb, hg, hnc, hcm, hcs, ht⟩
  · have : zs = [] := List.eq_nil_of_length_eq_zero hz
    subst this
    go_enter Tryd.func16, Tryd.ntmps16
    go_wp2
    refine wp_loop_rounds 1 ?_
    rw [rounds_succ]
    go_wp2
    go_ret
    exact ⟨by simp, hv, World.grownBy.refl _ _⟩
  · clear hg hnc hcm hcs ht
    go_enter Tryd.func16, Tryd.ntmps16
    go_wp2
    go_loopw [1, 5] (fun t i wr => ∃ k : Nat, k ≤ zs.length ∧ i = .int .i64 k ∧ t = .int .i64 (s + k) ∧ wr.ownsRow B 5 1 (.slice (some ⟨g, 0, none⟩) zs.length cap) zs.length ((upto (markB s) k ++ zs.drop k).map (Value.int .u8)) ∧ w.grownBy wr (some g))
      (fun _ i _ => zs.length - (intOf i).toNat)
    case atStart =>
      exact ⟨0, Nat.zero_le _, rfl, by simp, by simpa [upto_zero, Ow] using hv, World.grownBy.refl _ _⟩
    case round =>
      obtain ⟨k, hk, rfl, rfl, hown, hgr⟩ := hrel
      by_cases hlt : k < zs.length
      · have hoc : wr.cell? ⟨g, k, none⟩ = some (.int .u8 (zs[k]?.getD 0)) := by
          rw [World.ownsRow.cellAt hown k (by omega)]; simp [upto_length, List.getElem?_append, hlt]
        have hof := World.ownsRow.frozenAt hown k
        have hst := World.ownsRow.stored hown k (.int .u8 (markB s k))
        rw [mark_step _ (markB s) zs k hlt] at hst
        have hg2 := grown_trans hgr hst.2
        have hst1 := hst.1
        clear hst hv hown
        unfold markB at hst1 hg2
        go_wp2
        go_roundw
        case rel => exact ⟨k + 1, by omega, by go_num, by go_num, hst1, hg2⟩
        case measure => simp [intOf]; omega
      · go_wp2
        go_ret
        have hkn : k = zs.length := by omega
        subst hkn
        refine ⟨rfl, ?_, hgr⟩
        have := hown
        simp only [List.drop_length, List.append_nil] at this
        unfold OwB Ow
        rw [upto_length]
        exact this

end Go.Proofs.YtkkcnpokobndcaaDoor
