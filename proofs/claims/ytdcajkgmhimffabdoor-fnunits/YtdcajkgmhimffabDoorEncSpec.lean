import Derived.Test.YtdcajkgmhimffabDoorEncode1
namespace Go.Proofs.YtdcajkgmhimffabDoor
open Go.RowKit

theorem need_zero (p : Int) : need p = 0 ↔ okPt p = false := by
  constructor
  · intro h
    cases ho : okPt p
    · rfl
    · have := need_ge p ho; omega
  · intro h; simp [need, h]

set_option maxHeartbeats 1000000 in
set_option maxRecDepth 100000 in
theorem specEncodeText_any (v : Value) (zs : List Int) (w : World) (hv : RdI w.heap.size w v zs) (hn : zs.length ≤ 1048576) :
    Calls Tryd.prog 10 #[v] w fun e w' => ∃ v', e = .returned (.tuple #[v', .int .i64 (encR zs).2]) ∧ OwB w.heap.size w' v' (encR zs).1 ∧ w.grownBy w' none := by
  obtain ⟨i0, hi, hz0, hz1, hz2⟩ := info_parts info5
  obtain ⟨a, cap, rfl, hr⟩ := hv
  go_enter Tryd.func10, Tryd.ntmps10
  go_wp2
  go_loopw [4, 5] (fun v i wr => ∃ k : Nat, k ≤ zs.length ∧ i = .int .i64 k ∧ OwB w.heap.size wr v (encAll (zs.take k)) ∧ (zs.take k).all okPt = true ∧ Below w.heap.size w wr)
    (fun _ i _ => zs.length - (intOf i).toNat)
  case atStart => exact ⟨0, Nat.zero_le _, rfl, World.ownsRow_nil _ _ _ _, rfl, Below.refl _ _⟩
  case round =>
    obtain ⟨k, hk, rfl, hown, hall, hnx⟩ := hrel
    have hlen := encAll_len (zs.take k)
    rw [List.length_take_of_le hk] at hlen
    by_cases hlt : k < zs.length
    · obtain ⟨b, off, rfl, hb, hc⟩ := hr (fun h => by simp [h] at hlt)
      have hcx : wr.cell? ⟨b, off + k, none⟩ = some (.int .i64 (zs[k]?.getD 0)) := (hnx.cell (by exact hb)).trans (hc k hlt)
      have hst := encAll_step zs k hlt
      have hal := all_snoc zs okPt k hlt hall
      have han := all_not zs okPt k hlt
      generalize zs[k]?.getD 0 = p at hcx hst hal han
      clear hc hr
      cases ho : okPt p
      · have HF : Hid (zs.all okPt = false) := han ho
        have HN : Hid (need p = 0) := (need_zero p).2 ho
        clear hst hal han
        go_wp2_with (go_at_call 26; refine (l1need_any _ _).mono ?_; rintro e w' ⟨rfl, rfl⟩; rw [HN.out])
        go_ret2
        exact ⟨_, by rw [encR_bad _ HF.out]; rfl, by rw [encR_bad _ HF.out]; exact World.ownsRow_nil _ _ _ _, grown_of_below hnx⟩
      · have HE : Hid (encAll (zs.take (k + 1)) = encAll (zs.take k) ++ enc p) := hst
        have hal' := hal ho
        have hne : (need p == 0) = false := by have := need_ge p ho; simp; omega
        have hel := enc_len p
        clear hst hal han
        go_wp2_with (first
          | (go_at_call 26; refine (l1need_any _ _).mono ?_; rintro e w' ⟨rfl, rfl⟩)
          | fail)
        refine (l1encode_any p _ ho).mono ?_
        rintro e w1 ⟨t1, rfl, o1, b1⟩
        have hown1 : OwB w.heap.size w1 u4 (encAll (zs.take k)) := Ow.later hown (grown_of_below b1)
        have hnx1 := hnx.trans (b1.mono hnx.size)
        have hl1 := World.ownsRow.lt o1
        have hex : ∃ g cap, ∃ t', t' = Value.slice (some ⟨g, 0, none⟩) (enc p).length cap ∧ t' = t1 := by
          rcases o1.2 with ⟨_, h⟩ | ⟨g, cap, cur, h, _⟩
          · omega
          · exact ⟨g, cap, _, rfl, h.symm⟩
        obtain ⟨g, cap1, t', ht', hu4⟩ := hex
        rw [← hu4] at o1
        rw [← hu4, ht']
        rw [ht'] at o1
        have hcs := World.ownsRow.cells o1 (g := g) rfl
        clear hu4 ht' hown hnx b1
        go_wp2_with (at_builtin; refine wpList_append_own _ rfl _ _ 22 rfl w.heap.size 5 i0 (.int .u8 0) 1 1 Tryd.underlying22 hi hz0 hz1 hz2 rfl (by decide) _ _ _ rfl hown1 ⟨g, 0, none⟩ (enc p).length cap1 ((enc p).map (Value.int .u8)) rfl (by simp) hcs (ints_oneCell _ _) (by unfold maxLen; omega) (by omega) hnx1.size ?_; intro v' w2 hown' hgrow _)
        have R1 : OwB w.heap.size w2 v' (encAll (zs.take (k + 1))) := by
          rw [HE.out]; unfold OwB Ow; rw [List.length_append, List.map_append]; exact hown'
        have R2 := hnx1.grown hgrow hnx1.size (fun j hj => (World.ownsRow.lt hown1 j hj).1)
        clear hown' hgrow hown1 hcs o1 hl1
        go_wp2
        go_roundw
        case rel => exact ⟨k + 1, by omega, by go_num, R1, hal', R2⟩
        case measure => simp [intOf]; omega
    · have HF : Hid (encR zs = (encAll zs, 0)) := by
        unfold Hid
        rw [List.take_of_length_le (by omega)] at hall
        exact encR_ok _ hall
      have hkn : k = zs.length := by omega
      rw [hkn, List.take_length] at hown
      clear hr hall hkn
      go_wp2
      go_ret2
      exact ⟨_, by rw [HF.out]; rfl, by rw [HF.out]; exact hown, grown_of_below hnx⟩

end Go.Proofs.YtdcajkgmhimffabDoor
