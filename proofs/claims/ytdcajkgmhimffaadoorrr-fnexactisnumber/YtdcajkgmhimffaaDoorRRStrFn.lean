import Derived.Test.YtdcajkgmhimffaaDoorRRHexS
import Derived.Test.YtdcajkgmhimffaaDoorRRScBytes
namespace Go.Proofs.YtdcajkgmhimffaaDoorRR
open Go.RowKit

attribute [-go_sem] run_index_string

/-- The byte at place k of the string of zs. -/
theorem str_at {zs : List Int} (hb : Bys zs) {k : Nat} (hk : k < zs.length) (W : World) :
    (Instr.index 9 (.string (strOfNums zs)) (.int .i64 (k : Int))).run Tryd.prog W = .ok (.int .u8 (zs[k]?.getD 0)) W := by
  rw [run_index_string W 9 (strOfNums zs) .i64 (k : Int) Tryd.underlying9]
  have hs : (strOfNums zs).size = zs.length := strOfNums_size zs
  rw [dif_pos ⟨by omega, by rw [hs]; omega⟩]
  have hz := hb _ (List.getElem_mem hk)
  congr 2
  simp only [Int.toNat_natCast]
  have : ((strOfNums zs)[k]'(by rw [hs]; exact hk)) = UInt8.ofNat (zs[k]).toNat := by
    simp [strOfNums, ByteArray.getElem_eq_getElem_data]
  rw [this]
  simp [hk]
  omega

set_option maxHeartbeats 1000000 in
set_option maxRecDepth 100000 in
theorem allDigits_any (zs : List Int) (w : World) (hb : Bys zs) (hl : zs.length ≤ 1048576) :
    Calls Tryd.prog 27 #[.string (strOfNums zs)] w fun e w' => e = .returned (.bool (allDig zs)) ∧ w = w' := by
  have hnot : ∀ (x : Bool) (w : World), (Op.unary .not (.bool x)).run Tryd.prog w = .ok (.bool (!x)) w := fun _ _ => rfl
  have hsz : (strOfNums zs).size = zs.length := strOfNums_size zs
  go_enter Tryd.func27, Tryd.ntmps27
  go_wp2
  go_loopw [3] (fun i wr => ∃ k : Nat, k ≤ zs.length ∧ i = .int .i64 k ∧ (zs.take k).all isDig = true ∧ w = wr)
    (fun i _ => zs.length - (intOf i).toNat)
  case atStart => exact ⟨0, Nat.zero_le _, rfl, rfl, rfl⟩
  case round =>
    obtain ⟨k, hk, rfl, hall, rfl⟩ := hrel
    by_cases hlt : k < zs.length
    · have hal := hide (all_snoc zs isDig k hlt hall)
      have han := hide (all_not zs isDig k hlt)
      have hix := str_at hb hlt w
      have hpb := hb.get k
      generalize zs[k]?.getD 0 = p at hix hal han hpb
      obtain ⟨hp0, hp1⟩ := hpb
      cases h1 : isDig p
      · have HF : Hid (allDig zs = false) := han.out h1
        go_wp2_with (go_at_call 39; refine (l4digit_any _ _).mono ?_; rintro e w' ⟨rfl, rfl⟩; rw [h1])
        go_ret
        exact ⟨by rw [HF.out]; rfl, rfl⟩
      · have HT : Hid ((zs.take (k + 1)).all isDig = true) := hal.out h1
        go_wp2_with (go_at_call 39; refine (l4digit_any _ _).mono ?_; rintro e w' ⟨rfl, rfl⟩; rw [h1])
        go_roundw
        case rel => exact ⟨k + 1, by omega, by go_num, HT.out, trivial⟩
        case measure => simp [intOf]; omega
    · have HF : Hid (allDig zs = true) := by
        rw [List.take_of_length_le (by omega)] at hall
        exact hall
      clear hall
      go_wp2
      go_ret
      exact ⟨by rw [HF.out]; rfl, rfl⟩

set_option maxHeartbeats 1000000 in
set_option maxRecDepth 100000 in
theorem allHex_any (zs : List Int) (w : World) (hb : Bys zs) (hl : zs.length ≤ 1048576) :
    Calls Tryd.prog 25 #[.string (strOfNums zs)] w fun e w' => e = .returned (.bool (zs.all isHex && decide (0 < zs.length))) ∧ w = w' := by
  have hnot : ∀ (x : Bool) (w : World), (Op.unary .not (.bool x)).run Tryd.prog w = .ok (.bool (!x)) w := fun _ _ => rfl
  have hsz : (strOfNums zs).size = zs.length := strOfNums_size zs
  go_enter Tryd.func25, Tryd.ntmps25
  go_wp2
  go_loopw [3] (fun i wr => ∃ k : Nat, k ≤ zs.length ∧ i = .int .i64 k ∧ (zs.take k).all isHex = true ∧ w = wr)
    (fun i _ => zs.length - (intOf i).toNat)
  case atStart => exact ⟨0, Nat.zero_le _, rfl, rfl, rfl⟩
  case round =>
    obtain ⟨k, hk, rfl, hall, rfl⟩ := hrel
    by_cases hlt : k < zs.length
    · have hal := hide (all_snoc zs isHex k hlt hall)
      have han := hide (all_not zs isHex k hlt)
      have hix := str_at hb hlt w
      have hpb := hb.get k
      generalize zs[k]?.getD 0 = p at hix hal han hpb
      obtain ⟨hp0, hp1⟩ := hpb
      by_cases h1 : 0 ≤ hexV p
      · have HT : Hid ((zs.take (k + 1)).all isHex = true) := hal.out (by simp [isHex, h1])
        clear hal han
        go_wp2_with (go_at_call 38; refine (l4hex_any _ _).mono ?_; rintro e w' ⟨rfl, rfl⟩)
        go_roundw
        case rel => exact ⟨k + 1, by omega, by go_num, HT.out, trivial⟩
        case measure => simp [intOf]; omega
      · have HF : Hid ((zs.all isHex && decide (0 < zs.length)) = false) := by rw [Hid, han.out (by simp [isHex]; omega)]; rfl
        clear hal han
        go_wp2_with (go_at_call 38; refine (l4hex_any _ _).mono ?_; rintro e w' ⟨rfl, rfl⟩)
        go_ret
        exact ⟨by rw [HF.out]; rfl, rfl⟩
    · have HF : Hid ((zs.all isHex && decide (0 < zs.length)) = decide (0 < zs.length)) := by
        rw [List.take_of_length_le (by omega)] at hall
        rw [Hid, hall]; rfl
      clear hall
      go_wp2
      go_ret
      exact ⟨by rw [HF.out]; rfl, rfl⟩

end Go.Proofs.YtdcajkgmhimffaaDoorRR
