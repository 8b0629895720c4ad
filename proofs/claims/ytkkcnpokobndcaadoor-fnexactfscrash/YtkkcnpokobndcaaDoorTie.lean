/-
  DERIVED. GIVEN WITH THE SEED: THE PROGRAM's TIES (one call each: nine closed facts by the kernel) AND EACH ROW's TIE, after the 31st guide's Derived/Test/Toyas{Tie, Card}.lean. No idea stands in it: it is a product of the set-up. Laid BY PROGRAM, IN A SANDBOX (cutbox-door.mjs). By AI agents, Wed Nov 11 2026. No macro, syntax, notation, axiom, sorry.
-/
import Derived.Test.YtkkcnpokobndcaaDoorRows
import Derived.LaidByTextLater
import Derived.SevenTiedAt
import Derived.LaidSub
import Derived.LaidOnce
namespace Go.Proofs.YtkkcnpokobndcaaDoor
open Go
set_option maxRecDepth 100000
theorem seatTie1 : Tryd.prog.laidByTextLater [("loop.example/s02863/impl.errBad", Rows.laid_loop_example_s02863_impl_errBad), ("loop.example/s02863/impl.errNone", Rows.laid_loop_example_s02863_impl_errNone), ("loop.example/s02863/impl.errFull", Rows.laid_loop_example_s02863_impl_errFull)] [.sentinel, .sentinel, .sentinel] true :=
  Program.laidByTextLater_by_one 66 8 2 (by kernel_rfl) (by kernel_rfl) (by kernel_rfl) (by kernel_rfl) (by kernel_rfl) (by kernel_rfl) (fun _ _ => by kernel_rfl)
theorem noOwnUnsafe : Tryd.pinned.checked.prog.headLifts.contains "ownunsafe" = false := by kernel_rfl
theorem tie : Tryd.prog.laidByTextLater [("loop.example/s02863/impl.errBad", Rows.laid_loop_example_s02863_impl_errBad), ("loop.example/s02863/impl.errNone", Rows.laid_loop_example_s02863_impl_errNone), ("loop.example/s02863/impl.errFull", Rows.laid_loop_example_s02863_impl_errFull)] [.sentinel, .sentinel, .sentinel] true :=
  Program.laidByTextLater.sub seatTie1 ["loop.example/s02863/impl.errBad", "loop.example/s02863/impl.errNone", "loop.example/s02863/impl.errFull"] (by kernel_rfl) (by kernel_rfl)
theorem fnExactFsRead_row_tie : Rows.fnExactFsReadRow.laidByTextAt .later Tryd.pinned [.sentinel, .sentinel, .sentinel] true :=
  OpenClaim.laidByTextAt_later rfl rfl tie noOwnUnsafe
theorem fnExactFsCrash_row_tie : Rows.fnExactFsCrashRow.laidByTextAt .later Tryd.pinned [.sentinel, .sentinel, .sentinel] true :=
  OpenClaim.laidByTextAt_later rfl rfl tie noOwnUnsafe
theorem tie2 : Tryd.prog.laidByTextLater [("loop.example/s02863/impl.errNone", Rows.laid_loop_example_s02863_impl_errNone), ("loop.example/s02863/impl.errFull", Rows.laid_loop_example_s02863_impl_errFull)] [.sentinel, .sentinel] true :=
  Program.laidByTextLater.sub seatTie1 ["loop.example/s02863/impl.errNone", "loop.example/s02863/impl.errFull"] (by kernel_rfl) (by kernel_rfl)
theorem fnExactFsWrite_row_tie : Rows.fnExactFsWriteRow.laidByTextAt .later Tryd.pinned [.sentinel, .sentinel] true :=
  OpenClaim.laidByTextAt_later rfl rfl tie2 noOwnUnsafe
theorem fnExactFsRemove_row_tie : Rows.fnExactFsRemoveRow.laidByTextAt .later Tryd.pinned [.sentinel, .sentinel] true :=
  OpenClaim.laidByTextAt_later rfl rfl tie2 noOwnUnsafe
theorem fnExactFsSync_row_tie : Rows.fnExactFsSyncRow.laidByTextAt .later Tryd.pinned [.sentinel, .sentinel] true :=
  OpenClaim.laidByTextAt_later rfl rfl tie2 noOwnUnsafe
theorem fnExactFsReadUpto_row_tie : Rows.fnExactFsReadUptoRow.laidByTextAt .later Tryd.pinned [.sentinel, .sentinel, .sentinel] true :=
  OpenClaim.laidByTextAt_later rfl rfl tie noOwnUnsafe
theorem fnExactFsCrashUpto_row_tie : Rows.fnExactFsCrashUptoRow.laidByTextAt .later Tryd.pinned [.sentinel, .sentinel, .sentinel] true :=
  OpenClaim.laidByTextAt_later rfl rfl tie noOwnUnsafe
theorem fnExactFsWriteUpto_row_tie : Rows.fnExactFsWriteUptoRow.laidByTextAt .later Tryd.pinned [.sentinel, .sentinel] true :=
  OpenClaim.laidByTextAt_later rfl rfl tie2 noOwnUnsafe
theorem fnExactFsRemoveUpto_row_tie : Rows.fnExactFsRemoveUptoRow.laidByTextAt .later Tryd.pinned [.sentinel, .sentinel] true :=
  OpenClaim.laidByTextAt_later rfl rfl tie2 noOwnUnsafe
theorem fnExactFsSyncUpto_row_tie : Rows.fnExactFsSyncUptoRow.laidByTextAt .later Tryd.pinned [.sentinel, .sentinel] true :=
  OpenClaim.laidByTextAt_later rfl rfl tie2 noOwnUnsafe
end Go.Proofs.YtkkcnpokobndcaaDoor
