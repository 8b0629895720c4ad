import Derived.Test.YtdcajkgmhimffabDoorHasForm
import Derived.Test.YtdcajkgmhimffabDoorAppForm
namespace Go.Proofs.YtdcajkgmhimffabDoor
open Go.RowKit

set_option maxHeartbeats 1000000 in
set_option maxRecDepth 100000 in
theorem implEncodeText_any (v : Value) (zs : List Int) (w : World) (hv : RdI w.heap.size w v zs) (hn : zs.length ≤ 1048576) (hT : Tab w) :
    Calls Tryd.prog 11 #[v] w fun e w' => ∃ v', e = .returned (.tuple #[v', .int .i64 (encR zs).2]) ∧ OwB w.heap.size w' v' (encR zs).1 ∧ w.grownBy w' none := by
  obtain ⟨i0, hi, hz0, hz1, hz2⟩ := info_parts info5
  obtain ⟨a, cap, rfl, hr⟩ := hv
  have hnot : ∀ (x : Bool) (w : World), (Op.unary .not (.bool x)).run Tryd.prog w = .ok (.bool (!x)) w := fun _ _ => rfl
  go_enter Tryd.func11, Tryd.ntmps11
  go_wp2_with (at_make; refine wpList_make_own _ rfl _ _ 22 rfl w.heap.size 5 i0 (.int .u8 0) 1 Tryd.underlying22 hi hz0 hz1 _ _ _ zs.length rfl rfl (by omega) ?b2 ?b3 (Nat.le_refl _) ?_)
  case b2 => rw [hz2]; omega
  case b3 => unfold maxLen; omega
  intro w0 hown0 hgrow0
  go_wp2
  go_loopw [4, 12] (fun v i wr => ∃ k : Nat, k ≤ zs.length ∧ i = .int .i64 k ∧ OwB w.heap.size wr v (encAll (zs.take k)) ∧ (zs.take k).all okPt = true ∧ Below w.heap.size w wr)
    (fun _ i _ => zs.length - (intOf i).toNat)
  case atStart => exact ⟨0, Nat.zero_le _, rfl, hown0, rfl, below_of_grown hgrow0⟩
  case round =>
    obtain ⟨k, hk, rfl, hown, hall, hnx⟩ := hrel
    have hlen := encAll_len (zs.take k)
    rw [List.length_take_of_le hk] at hlen
    clear hown0 hgrow0
    by_cases hlt : k < zs.length
    · obtain ⟨b, off, rfl, hb, hc⟩ := hr (fun h => by simp [h] at hlt)
      have hcx : wr.cell? ⟨b, off + k, none⟩ = some (.int .i64 (zs[k]?.getD 0)) := (hnx.cell (by exact hb)).trans (hc k hlt)
      have hst := encAll_step zs k hlt
      have hal := all_snoc zs okPt k hlt hall
      have han := all_not zs okPt k hlt
      generalize zs[k]?.getD 0 = p at hcx hst hal han
      clear hc hr
      cases ho : okPt p
      · have HF : Hid (zs.all okPt = false) := han ho
        clear hst hal han
        go_wp2_with (go_at_call 28; refine (hasForm_any _ _).mono ?_; rintro e w' ⟨rfl, rfl⟩; rw [ho])
        go_ret2
        exact ⟨_, by rw [encR_bad _ HF.out]; rfl, by rw [encR_bad _ HF.out]; exact World.ownsRow_nil _ _ _ _, grown_of_below hnx⟩
      · have HE : Hid (encAll (zs.take (k + 1)) = encAll (zs.take k) ++ enc p) := hst
        have hal' := hal ho
        obtain ⟨⟨hp0, hp1⟩, _⟩ := ok_bd ho
        have HTr : Tab wr := hT.below hnx hT.pos
        clear hst hal han
        go_wp2_with (go_at_call 28; refine (hasForm_any _ _).mono ?_; rintro e w' ⟨rfl, rfl⟩; rw [ho])
        refine (appendForm_any w.heap.size _ _ p _ hnx.size HTr hown (by omega) hp0 hp1).mono ?_
        rintro e w1 ⟨v', rfl, o1, b1⟩
        rw [← HE.out] at o1
        have hnx1 := hnx.trans b1
        clear hown hnx b1 HTr
        go_wp2
        go_roundw
        case rel => exact ⟨k + 1, by omega, by go_num, o1, hal', hnx1⟩
        case measure => simp [intOf]; omega
    · have HF : Hid (encR zs = (encAll zs, 0)) := by
        unfold Hid
        rw [List.take_of_length_le (by omega)] at hall
        exact encR_ok _ hall
      have hkn : k = zs.length := by omega
      rw [hkn, List.take_length] at hown
      clear hr hall hkn
      go_wp2
      go_ret2
      exact ⟨_, by rw [HF.out]; rfl, by rw [HF.out]; exact hown, grown_of_below hnx⟩

end Go.Proofs.YtdcajkgmhimffabDoor
