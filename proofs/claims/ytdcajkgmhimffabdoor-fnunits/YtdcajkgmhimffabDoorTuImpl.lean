import Derived.Test.YtdcajkgmhimffabDoorAppUn
import Derived.Test.YtdcajkgmhimffabDoorIsPt
namespace Go.Proofs.YtdcajkgmhimffabDoor
open Go.RowKit

set_option maxHeartbeats 1000000 in
set_option maxRecDepth 100000 in
theorem implToUnits_any (v : Value) (zs : List Int) (w : World) (hv : RdI w.heap.size w v zs) (hn : zs.length ≤ 2097152) :
    Calls Tryd.prog 7 #[v] w fun e w' => ∃ v', e = .returned (.tuple #[v', .int .i64 (tuR zs).2]) ∧ OwI w.heap.size w' v' (tuR zs).1 ∧ w.grownBy w' none := by
  obtain ⟨i0, hi, hz0, hz1, hz2⟩ := info_parts info3
  obtain ⟨a, cap, rfl, hr⟩ := hv
  have hnot : ∀ (x : Bool) (w : World), (Op.unary .not (.bool x)).run Tryd.prog w = .ok (.bool (!x)) w := fun _ _ => rfl
  go_enter Tryd.func7, Tryd.ntmps7
  go_wp2_with (at_make; refine wpList_make_own _ rfl _ _ 23 rfl w.heap.size 3 i0 (.int .i64 0) 1 Tryd.underlying23 hi hz0 hz1 _ _ _ zs.length rfl rfl (by omega) ?b2 ?b3 (Nat.le_refl _) ?_)
  case b2 => rw [hz2]; omega
  case b3 => unfold maxLen; omega
  intro w0 hown0 hgrow0
  go_wp2
  go_loopw [4, 12] (fun v i wr => ∃ k : Nat, k ≤ zs.length ∧ i = .int .i64 k ∧ OwI w.heap.size wr v (tuAll (zs.take k)) ∧ (zs.take k).all isPt = true ∧ Below w.heap.size w wr)
    (fun _ i _ => zs.length - (intOf i).toNat)
  case atStart => exact ⟨0, Nat.zero_le _, rfl, hown0, rfl, below_of_grown hgrow0⟩
  case round =>
    obtain ⟨k, hk, rfl, hown, hall, hnx⟩ := hrel
    have hlen := tuAll_len (zs.take k)
    rw [List.length_take_of_le hk] at hlen
    clear hown0 hgrow0
    by_cases hlt : k < zs.length
    · obtain ⟨b, off, rfl, hb, hc⟩ := hr (fun h => by simp [h] at hlt)
      have hcx : wr.cell? ⟨b, off + k, none⟩ = some (.int .i64 (zs[k]?.getD 0)) := (hnx.cell (by exact hb)).trans (hc k hlt)
      have hlo := tuAll_one zs k hlt
      have hal := all_snoc zs isPt k hlt hall
      have han := all_not zs isPt k hlt
      generalize zs[k]?.getD 0 = p at hcx hlo hal han
      by_cases hp : 0 ≤ p ∧ p ≤ 1114111
      · have hpt : isPt p = true := by simp [isPt, hp]
        have hal' := hal hpt
        obtain ⟨hp0, hp1⟩ := hp
        have HE : Hid (tuAll (zs.take (k + 1)) = tuAll (zs.take k) ++ tuOne p) := hlo
        clear hlo hal han hc hr
        go_wp2_with (first
          | (go_at_call 23; refine (isPoint_any _ _).mono ?_; rintro e w' ⟨rfl, rfl⟩; rw [hpt])
          | (go_at_call 24; refine (appendUnits_any _ _ _ p _ hnx.size hown (by omega) hp0 hp1).mono ?_; rintro e w1 ⟨v', rfl, hown', hgrow⟩))
        have R := below_own hnx.size hown hgrow
        rw [← HE.out] at hown'
        clear hgrow hown
        go_roundw
        case rel => exact ⟨k + 1, by omega, by go_num, hown', hal', hnx.trans R⟩
        case measure => simp [intOf]; omega
      · have hpt : isPt p = false := by simp [isPt, hp]
        have HF : Hid (zs.all isPt = false) := han hpt
        clear hlo hal han hc hr
        go_wp2_with (go_at_call 23; refine (isPoint_any _ _).mono ?_; rintro e w' ⟨rfl, rfl⟩; rw [hpt])
        go_ret2
        exact ⟨_, by rw [tuR_bad _ HF.out]; rfl, by rw [tuR_bad _ HF.out]; exact World.ownsRow_nil _ _ _ _, grown_of_below hnx⟩
    · have HF : Hid (tuR zs = (tuAll zs, 0)) := by
        unfold Hid
        rw [List.take_of_length_le (by omega)] at hall
        exact tuR_ok _ hall
      have hkn : k = zs.length := by omega
      rw [hkn, List.take_length] at hown
      clear hr hall hkn
      go_wp2
      go_ret2
      exact ⟨_, by rw [HF.out]; rfl, by rw [HF.out]; exact hown, grown_of_below hnx⟩

end Go.Proofs.YtdcajkgmhimffabDoor
