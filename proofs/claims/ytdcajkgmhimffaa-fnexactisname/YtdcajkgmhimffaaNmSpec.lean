import Derived.Test.YtdcajkgmhimffaaLetS
import Derived.Test.YtdcajkgmhimffaaDigS
namespace Go.Proofs.Ytdcajkgmhimffaa
open Go.RowKit

set_option maxHeartbeats 1000000 in
set_option maxRecDepth 100000 in
theorem specIsName_any (v : Value) (zs : List Int) (w : World) (hv : RdI w.heap.size w v zs) (hn : zs.length ≤ 2097152) :
    Calls Try.prog 4 #[v] w fun e w' => e = .returned (.bool (nmR zs)) ∧ w = w' := by
  obtain ⟨a, cap, rfl, hr⟩ := hv
  have hnot : ∀ (x : Bool) (w : World), (Op.unary .not (.bool x)).run Try.prog w = .ok (.bool (!x)) w := fun _ _ => rfl
  go_enter Try.func4, Try.ntmps4
  go_wp2
  go_loopw [3] (fun i wr => ∃ k : Nat, k ≤ zs.length ∧ i = .int .i64 k ∧ nmUp zs k = true ∧ w = wr)
    (fun i _ => zs.length - (intOf i).toNat)
  case atStart => exact ⟨0, Nat.zero_le _, rfl, rfl, rfl⟩
  case round =>
    obtain ⟨k, hk, rfl, hall, rfl⟩ := hrel
    by_cases hlt : k < zs.length
    · obtain ⟨b, off, rfl, hb, hc⟩ := hr (fun h => by simp [h] at hlt)
      have hcx := hc k hlt
      have hal := hide (nmUp_snoc zs k hall)
      have han := hide (nmR_not zs k hlt)
      generalize zs[k]?.getD 0 = p at hcx hal han
      clear hc hr
      cases h1 : isLet p
      · by_cases hk0 : k = 0
        · have hk1 : ((k : Int) == 0) = true := by simp [hk0]
          have HF : Hid (nmR zs = false) := han.out (by simp [nmAt, h1, hk0])
          have HK := hide hk0
          clear hal han hk0
          go_wp2_with (first
            | (go_at_call 8; refine (l4letter_any _ _).mono ?_; rintro e w' ⟨rfl, rfl⟩; rw [h1]))
          go_ret
          exact ⟨by rw [HF.out]; rfl, rfl⟩
        · have hk1 : ((k : Int) == 0) = false := by simp; omega
          cases h2 : isDig p
          · have HF : Hid (nmR zs = false) := han.out (by simp [nmAt, h1, h2])
            clear hal han
            go_wp2_with (first
              | (go_at_call 8; refine (l4letter_any _ _).mono ?_; rintro e w' ⟨rfl, rfl⟩; rw [h1])
              | (go_at_call 9; refine (l4digit_any _ _).mono ?_; rintro e w' ⟨rfl, rfl⟩; rw [h2]))
            go_ret
            exact ⟨by rw [HF.out]; rfl, rfl⟩
          · have HT : Hid (nmUp zs (k + 1) = true) := hal.out (by simp [nmAt, h1, h2, hk0])
            clear hal han
            go_wp2_with (first
              | (go_at_call 8; refine (l4letter_any _ _).mono ?_; rintro e w' ⟨rfl, rfl⟩; rw [h1])
              | (go_at_call 9; refine (l4digit_any _ _).mono ?_; rintro e w' ⟨rfl, rfl⟩; rw [h2]))
            go_roundw
            case rel => exact ⟨k + 1, by omega, by go_num, HT.out, trivial⟩
            case measure => simp [intOf]; omega
      · have HT : Hid (nmUp zs (k + 1) = true) := hal.out (by simp [nmAt, h1])
        clear hal han
        go_wp2_with (first
          | (go_at_call 8; refine (l4letter_any _ _).mono ?_; rintro e w' ⟨rfl, rfl⟩; rw [h1]))
        go_roundw
        case rel => exact ⟨k + 1, by omega, by go_num, HT.out, trivial⟩
        case measure => simp [intOf]; omega
    · have hkn : k = zs.length := by omega
      rw [hkn] at hall
      have HF : Hid (nmR zs = decide (0 < zs.length)) := nmR_yes zs hall
      have HG : Hid (decide ((0 : Int) < (zs.length : Int)) = decide (0 < zs.length)) := by simp [Hid]
      clear hr hall hkn
      go_wp2
      go_ret
      exact ⟨by rw [HF.out, ← HG.out]; rfl, rfl⟩

end Go.Proofs.Ytdcajkgmhimffaa
