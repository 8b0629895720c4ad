import Derived.Test.YtkkcnpokobndcaaDoorBase
namespace Go.Proofs.YtkkcnpokobndcaaDoor
open Go.RowKit

set_option maxHeartbeats 400000 in
set_option maxRecDepth 100000 in
theorem heldByteS_any (v : Value) (n : Nat) (s : Int) (w : World) (hv : RdB w.heap.size w v (upto (markB s) n)) (hn : n ≤ 4194304) (h0 : 0 ≤ s) (h1 : s ≤ 4611686018427387904) :
    Calls Tryd.prog 17 #[v, .int .i64 s] w fun e w' => e = .returned (.int .i64 (s + n)) ∧ w = w' := by
  obtain ⟨a, cap, rfl, hr⟩ := hv
  rw [upto_length] at hr ⊢
  go_enter Tryd.func17, Tryd.ntmps17
  go_wp2
  go_loop [1, 5] (fun t i => ∃ k : Nat, k ≤ n ∧ i = .int .i64 k ∧ t = .int .i64 (s + k))
    (fun _ i => n - (intOf i).toNat)
  case atStart => exact ⟨0, Nat.zero_le _, rfl, by simp⟩
  case round =>
    obtain ⟨k, hk, rfl, rfl⟩ := hrel
    by_cases hlt : k < n
    · obtain ⟨b, off, rfl, hb, hc⟩ := hr (fun h => by have := upto_length (markB s) n; rw [h] at this; simp at this; omega)
      have hcx : w.cell? ⟨b, off + k, none⟩ = some (.int .u8 ((s + k) % 256)) := by rw [hc k hlt, upto_get _ n k hlt]; rfl
      clear hc hr hb
      go_wp2
      go_round
      case rel => exact ⟨k + 1, by omega, by go_num, by go_num⟩
      case measure => simp [intOf]; omega
    · go_wp2
      go_ret
      have hkn : k = n := by omega
      subst hkn
      exact ⟨rfl, rfl⟩

end Go.Proofs.YtkkcnpokobndcaaDoor
