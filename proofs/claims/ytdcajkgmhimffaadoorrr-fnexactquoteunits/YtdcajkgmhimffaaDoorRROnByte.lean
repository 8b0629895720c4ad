import Derived.Test.YtdcajkgmhimffaaDoorRRBits
import Derived.Test.YtdcajkgmhimffaaDoorRRTab
namespace Go.Proofs.YtdcajkgmhimffaaDoorRR
open Go.RowKit

theorem onByte_val (p : Int) (h0 : 0 ≤ p) (h1 : p ≤ 1114111) : bits .or .u8 128 (bits .and .i32 p 63 % 256) = 128 + p % 64 := by
  rw [and63 p h0 (by omega), show p % 64 % 256 = p % 64 by omega, or128 _ (by omega) (by omega)]

set_option maxHeartbeats 400000 in
theorem onByte_any (p : Int) (w : World) (h0 : 0 ≤ p) (h1 : p ≤ 1114111) : Calls Tryd.prog 46 #[.int .i32 p] w fun e w' => e = .returned (.int .u8 (128 + p % 64)) ∧ w = w' := by
  have HE : Hid (bits .or .u8 128 (bits .and .i32 p 63 % 256) = 128 + p % 64) := onByte_val p h0 h1
  go_enter Tryd.func46, Tryd.ntmps46
  go_wp2
  go_ret
  exact ⟨by rw [← HE.out]; rfl, rfl⟩

end Go.Proofs.YtdcajkgmhimffaaDoorRR
