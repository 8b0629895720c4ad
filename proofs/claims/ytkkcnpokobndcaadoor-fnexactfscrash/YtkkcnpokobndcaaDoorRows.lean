/-
  NARROWER THAN 'FOR EVERY INPUT', by the rows' own cells (each row's printed sentence says how): FnExactFsRead: ifaces, laid · FnExactFsCrash: ifaces, laid · FnExactFsWrite: ifaces, laid · FnExactFsRemove: ifaces, laid · FnExactFsSync: ifaces, laid.
  DERIVED. THE GIVEN ROWS OF THIS SEAT. 5 by the template 'for every input the law returns true; each argument reads behind the call as it read before'; 0 by the template 'total and deterministic' (their statements: YtkkcnpokobndcaaDoorTotals.lean).
  GIVEN WITH THE SEED: the statements are not yours to turn. If you find one false, say at which input.
  Laid BY PROGRAM, IN A SANDBOX (cutbox-rows.mjs): the forced cells as the released guide's own fill.sh prints them over the translation fdf12173d09a2408… (all of the seat's roots in one cut). By AI agents, Wed Nov 11 2026. No macro, syntax, notation, axiom, sorry.
-/
import Derived.Test.YtkkcnpokobndcaaDoorChecked
import GoSem.Claim
import GoSem.ClaimJoined
import GoSem.ClaimMapViews
import Derived.JoinedTies
import Derived.KernelRfl
namespace Go.Proofs.YtkkcnpokobndcaaDoor
/- THE CELL 'sum', in the pinned program and in every row, IS THE sha256 OF THE DUMP (.gsa) THAT YtkkcnpokobndcaaDoorProg.lean LOADS. Nothing in Lean hashes anything: it is a label: what it is worth is what the hold of that sum in a sandbox is worth. -/
noncomputable def Tryd.pinned : Pinned := { name := "ytkkcnpokobndcaadoor", sum := "fdf12173d09a24084ca398f85e0f07c925f1ae532d586b22261854b40db463f3", checked := Tryd.checked }
namespace Rows
def none {H : Type} : Left H := { results := [], args := [] }

/- WHAT THE LISTED PACKAGE-LEVEL VARIABLES READ AS WHEN THE CALL BEGINS. Each datum BY PROGRAM (the guide's laid-datum.mjs) off the statement by which the dump's own 'gosem.cut.vars' lays the variable. In a bare row this is a premise. The card (YtkkcnpokobndcaaDoorCards.lean) ties it to the program's text. -/
def laid_loop_example_s02863_impl_errBad {H : Type} : DataW H := .iface "*errors.errorString" (.ptr (.agg [.lit (.string [97, 110, 32, 97, 114, 103, 117, 109, 101, 110, 116, 32, 105, 115, 32, 110, 111, 116, 32, 118, 97, 108, 105, 100])]))
def laid_loop_example_s02863_impl_errNone {H : Type} : DataW H := .iface "*errors.errorString" (.ptr (.agg [.lit (.string [116, 104, 101, 114, 101, 32, 105, 115, 32, 110, 111, 32, 115, 117, 99, 104, 32, 102, 105, 108, 101])]))
def laid_loop_example_s02863_impl_errFull {H : Type} : DataW H := .iface "*errors.errorString" (.ptr (.agg [.lit (.string [116, 104, 101, 114, 101, 32, 105, 115, 32, 110, 111, 32, 114, 111, 111, 109, 32, 102, 111, 114, 32, 97, 32, 102, 105, 108, 101])]))

/-- 'laws.FnExactFsRead': WHATEVER THE INPUT: true; the input reads as it did. -/
def fnExactFsReadSpec : ChangeSpec := { name := "fnExactFsRead", vars := ["loop.example/s02863/impl.errBad", "loop.example/s02863/impl.errNone", "loop.example/s02863/impl.errFull"], fn := fun _ => fun
  | [d1, d2, g1, g2, g3] => { results := [.lit (.bool true)], args := [d1, d2], vars := [g1, g2, g3] }
  | _ => none }
def fnExactFsReadRow : OpenClaim := { program := "ytkkcnpokobndcaadoor", sum := "fdf12173d09a24084ca398f85e0f07c925f1ae532d586b22261854b40db463f3", func := "loop.example/s02863/laws.FnExactFsRead", spec := "fnExactFsRead", inPlace := ["internal/bytealg.Compare", "internal/reflectlite.TypeOf"], unfollowed := true, recurses := true, named := ["loop.example/s02863/impl.errBad", "loop.example/s02863/impl.errNone", "loop.example/s02863/impl.errFull"], ifaces := true, apart := false, laid := [("loop.example/s02863/impl.errBad", laid_loop_example_s02863_impl_errBad), ("loop.example/s02863/impl.errNone", laid_loop_example_s02863_impl_errNone), ("loop.example/s02863/impl.errFull", laid_loop_example_s02863_impl_errFull)] }
def FnExactFsReadSaid : Prop := fnExactFsReadRow.holds Tryd.pinned (OpenSpec.ofChange fnExactFsReadSpec)

/-- ITS FALSE NEIGHBOUR: 'it returns false'. Refute it at one input. -/
def fnExactFsReadWrong : ChangeSpec := { name := "fnExactFsRead", vars := ["loop.example/s02863/impl.errBad", "loop.example/s02863/impl.errNone", "loop.example/s02863/impl.errFull"], fn := fun _ => fun
  | [d1, d2, g1, g2, g3] => { results := [.lit (.bool false)], args := [d1, d2], vars := [g1, g2, g3] }
  | _ => none }
def FnExactFsReadWrongFalsely : Prop := fnExactFsReadRow.holds Tryd.pinned (OpenSpec.ofChange fnExactFsReadWrong)

/-- 'laws.FnExactFsCrash': WHATEVER THE INPUT: true; the input reads as it did. -/
def fnExactFsCrashSpec : ChangeSpec := { name := "fnExactFsCrash", vars := ["loop.example/s02863/impl.errBad", "loop.example/s02863/impl.errNone", "loop.example/s02863/impl.errFull"], fn := fun _ => fun
  | [d1, d2, g1, g2, g3] => { results := [.lit (.bool true)], args := [d1, d2], vars := [g1, g2, g3] }
  | _ => none }
def fnExactFsCrashRow : OpenClaim := { program := "ytkkcnpokobndcaadoor", sum := "fdf12173d09a24084ca398f85e0f07c925f1ae532d586b22261854b40db463f3", func := "loop.example/s02863/laws.FnExactFsCrash", spec := "fnExactFsCrash", inPlace := ["internal/bytealg.Compare", "internal/reflectlite.TypeOf"], unfollowed := true, recurses := true, named := ["loop.example/s02863/impl.errBad", "loop.example/s02863/impl.errNone", "loop.example/s02863/impl.errFull"], ifaces := true, apart := false, laid := [("loop.example/s02863/impl.errBad", laid_loop_example_s02863_impl_errBad), ("loop.example/s02863/impl.errNone", laid_loop_example_s02863_impl_errNone), ("loop.example/s02863/impl.errFull", laid_loop_example_s02863_impl_errFull)] }
def FnExactFsCrashSaid : Prop := fnExactFsCrashRow.holds Tryd.pinned (OpenSpec.ofChange fnExactFsCrashSpec)

/-- ITS FALSE NEIGHBOUR: 'it returns false'. Refute it at one input. -/
def fnExactFsCrashWrong : ChangeSpec := { name := "fnExactFsCrash", vars := ["loop.example/s02863/impl.errBad", "loop.example/s02863/impl.errNone", "loop.example/s02863/impl.errFull"], fn := fun _ => fun
  | [d1, d2, g1, g2, g3] => { results := [.lit (.bool false)], args := [d1, d2], vars := [g1, g2, g3] }
  | _ => none }
def FnExactFsCrashWrongFalsely : Prop := fnExactFsCrashRow.holds Tryd.pinned (OpenSpec.ofChange fnExactFsCrashWrong)

/-- 'laws.FnExactFsWrite': WHATEVER THE INPUT: true; the input reads as it did. -/
def fnExactFsWriteSpec : ChangeSpec := { name := "fnExactFsWrite", vars := ["loop.example/s02863/impl.errNone", "loop.example/s02863/impl.errFull"], fn := fun _ => fun
  | [d1, d2, d3, g1, g2] => { results := [.lit (.bool true)], args := [d1, d2, d3], vars := [g1, g2] }
  | _ => none }
def fnExactFsWriteRow : OpenClaim := { program := "ytkkcnpokobndcaadoor", sum := "fdf12173d09a24084ca398f85e0f07c925f1ae532d586b22261854b40db463f3", func := "loop.example/s02863/laws.FnExactFsWrite", spec := "fnExactFsWrite", inPlace := ["internal/bytealg.Compare", "internal/reflectlite.TypeOf"], unfollowed := true, recurses := true, named := ["loop.example/s02863/impl.errNone", "loop.example/s02863/impl.errFull"], ifaces := true, apart := false, laid := [("loop.example/s02863/impl.errNone", laid_loop_example_s02863_impl_errNone), ("loop.example/s02863/impl.errFull", laid_loop_example_s02863_impl_errFull)] }
def FnExactFsWriteSaid : Prop := fnExactFsWriteRow.holds Tryd.pinned (OpenSpec.ofChange fnExactFsWriteSpec)

/-- ITS FALSE NEIGHBOUR: 'it returns false'. Refute it at one input. -/
def fnExactFsWriteWrong : ChangeSpec := { name := "fnExactFsWrite", vars := ["loop.example/s02863/impl.errNone", "loop.example/s02863/impl.errFull"], fn := fun _ => fun
  | [d1, d2, d3, g1, g2] => { results := [.lit (.bool false)], args := [d1, d2, d3], vars := [g1, g2] }
  | _ => none }
def FnExactFsWriteWrongFalsely : Prop := fnExactFsWriteRow.holds Tryd.pinned (OpenSpec.ofChange fnExactFsWriteWrong)

/-- 'laws.FnExactFsRemove': WHATEVER THE INPUT: true; the input reads as it did. -/
def fnExactFsRemoveSpec : ChangeSpec := { name := "fnExactFsRemove", vars := ["loop.example/s02863/impl.errNone", "loop.example/s02863/impl.errFull"], fn := fun _ => fun
  | [d1, d2, g1, g2] => { results := [.lit (.bool true)], args := [d1, d2], vars := [g1, g2] }
  | _ => none }
def fnExactFsRemoveRow : OpenClaim := { program := "ytkkcnpokobndcaadoor", sum := "fdf12173d09a24084ca398f85e0f07c925f1ae532d586b22261854b40db463f3", func := "loop.example/s02863/laws.FnExactFsRemove", spec := "fnExactFsRemove", inPlace := ["internal/bytealg.Compare", "internal/reflectlite.TypeOf"], unfollowed := true, recurses := true, named := ["loop.example/s02863/impl.errNone", "loop.example/s02863/impl.errFull"], ifaces := true, apart := false, laid := [("loop.example/s02863/impl.errNone", laid_loop_example_s02863_impl_errNone), ("loop.example/s02863/impl.errFull", laid_loop_example_s02863_impl_errFull)] }
def FnExactFsRemoveSaid : Prop := fnExactFsRemoveRow.holds Tryd.pinned (OpenSpec.ofChange fnExactFsRemoveSpec)

/-- ITS FALSE NEIGHBOUR: 'it returns false'. Refute it at one input. -/
def fnExactFsRemoveWrong : ChangeSpec := { name := "fnExactFsRemove", vars := ["loop.example/s02863/impl.errNone", "loop.example/s02863/impl.errFull"], fn := fun _ => fun
  | [d1, d2, g1, g2] => { results := [.lit (.bool false)], args := [d1, d2], vars := [g1, g2] }
  | _ => none }
def FnExactFsRemoveWrongFalsely : Prop := fnExactFsRemoveRow.holds Tryd.pinned (OpenSpec.ofChange fnExactFsRemoveWrong)

/-- 'laws.FnExactFsSync': WHATEVER THE INPUT: true; the input reads as it did. -/
def fnExactFsSyncSpec : ChangeSpec := { name := "fnExactFsSync", vars := ["loop.example/s02863/impl.errNone", "loop.example/s02863/impl.errFull"], fn := fun _ => fun
  | [d1, d2, g1, g2] => { results := [.lit (.bool true)], args := [d1, d2], vars := [g1, g2] }
  | _ => none }
def fnExactFsSyncRow : OpenClaim := { program := "ytkkcnpokobndcaadoor", sum := "fdf12173d09a24084ca398f85e0f07c925f1ae532d586b22261854b40db463f3", func := "loop.example/s02863/laws.FnExactFsSync", spec := "fnExactFsSync", inPlace := ["internal/bytealg.Compare", "internal/reflectlite.TypeOf"], unfollowed := true, recurses := true, named := ["loop.example/s02863/impl.errNone", "loop.example/s02863/impl.errFull"], ifaces := true, apart := false, laid := [("loop.example/s02863/impl.errNone", laid_loop_example_s02863_impl_errNone), ("loop.example/s02863/impl.errFull", laid_loop_example_s02863_impl_errFull)] }
def FnExactFsSyncSaid : Prop := fnExactFsSyncRow.holds Tryd.pinned (OpenSpec.ofChange fnExactFsSyncSpec)

/-- ITS FALSE NEIGHBOUR: 'it returns false'. Refute it at one input. -/
def fnExactFsSyncWrong : ChangeSpec := { name := "fnExactFsSync", vars := ["loop.example/s02863/impl.errNone", "loop.example/s02863/impl.errFull"], fn := fun _ => fun
  | [d1, d2, g1, g2] => { results := [.lit (.bool false)], args := [d1, d2], vars := [g1, g2] }
  | _ => none }
def FnExactFsSyncWrongFalsely : Prop := fnExactFsSyncRow.holds Tryd.pinned (OpenSpec.ofChange fnExactFsSyncWrong)

/- THE SECOND FORM. 'bulk': how many values and letters a reading holds, each counted each time it is reached (what is shared counts as often as it is met; a slice's spare places count too). A statement '..UptoSaid' is the law's where the arguments, and the package variables that the reading takes, are together of bulk at most 1048576: NARROWER than '..Said'. Prove '..Said' where nothing that the law and all that it calls make is longer than what came in: it says more and counts as full. Else prove '..UptoSaid'. A law counts once. -/
mutual
def uptoBulk {H : Type} : DataW H → Nat
  | .lit (.string bytes) => bytes.length + 1
  | .lit _ => 1
  | .nil => 1
  | .ptr d => uptoBulk d + 1
  | .slice elems spare => uptoBulkAll elems + uptoBulkAll spare + 1
  | .agg parts => uptoBulkAll parts + 1
  | .iface _ d => uptoBulk d + 1
  | .map entries => uptoBulkEntries entries + 1
  | .held _ => 1
def uptoBulkAll {H : Type} : List (DataW H) → Nat
  | [] => 0
  | d :: r => uptoBulk d + uptoBulkAll r
def uptoBulkEntries {H : Type} : List (Lit × DataW H) → Nat
  | [] => 0
  | x :: r => uptoBulkEntry x + uptoBulkEntries r
def uptoBulkEntry {H : Type} : Lit × DataW H → Nat
  | (.string bytes, d) => bytes.length + uptoBulk d + 1
  | (_, d) => uptoBulk d + 1
 end
def uptoSmall : (H : Type) → List (DataW H) → Bool := fun _ ds => decide (uptoBulkAll ds ≤ 1048576)
def OpenSpec.upto (s : _root_.Go.ChangeSpec) : _root_.Go.OpenSpec := { _root_.Go.OpenSpec.ofChange s with cond := some uptoSmall }

/-- 'laws.FnExactFsRead', WHERE WHAT IT READS IS OF BULK AT MOST 1048576: true; the input reads as it did. -/
def fnExactFsReadUptoRow : OpenClaim := { program := "ytkkcnpokobndcaadoor", sum := "fdf12173d09a24084ca398f85e0f07c925f1ae532d586b22261854b40db463f3", func := "loop.example/s02863/laws.FnExactFsRead", spec := "fnExactFsRead", inPlace := ["internal/bytealg.Compare", "internal/reflectlite.TypeOf"], unfollowed := true, recurses := true, named := ["loop.example/s02863/impl.errBad", "loop.example/s02863/impl.errNone", "loop.example/s02863/impl.errFull"], ifaces := true, apart := false, laid := [("loop.example/s02863/impl.errBad", laid_loop_example_s02863_impl_errBad), ("loop.example/s02863/impl.errNone", laid_loop_example_s02863_impl_errNone), ("loop.example/s02863/impl.errFull", laid_loop_example_s02863_impl_errFull)], narrowed := true }
def FnExactFsReadUptoSaid : Prop := fnExactFsReadUptoRow.holds Tryd.pinned (OpenSpec.upto fnExactFsReadSpec)

/-- 'laws.FnExactFsCrash', WHERE WHAT IT READS IS OF BULK AT MOST 1048576: true; the input reads as it did. -/
def fnExactFsCrashUptoRow : OpenClaim := { program := "ytkkcnpokobndcaadoor", sum := "fdf12173d09a24084ca398f85e0f07c925f1ae532d586b22261854b40db463f3", func := "loop.example/s02863/laws.FnExactFsCrash", spec := "fnExactFsCrash", inPlace := ["internal/bytealg.Compare", "internal/reflectlite.TypeOf"], unfollowed := true, recurses := true, named := ["loop.example/s02863/impl.errBad", "loop.example/s02863/impl.errNone", "loop.example/s02863/impl.errFull"], ifaces := true, apart := false, laid := [("loop.example/s02863/impl.errBad", laid_loop_example_s02863_impl_errBad), ("loop.example/s02863/impl.errNone", laid_loop_example_s02863_impl_errNone), ("loop.example/s02863/impl.errFull", laid_loop_example_s02863_impl_errFull)], narrowed := true }
def FnExactFsCrashUptoSaid : Prop := fnExactFsCrashUptoRow.holds Tryd.pinned (OpenSpec.upto fnExactFsCrashSpec)

/-- 'laws.FnExactFsWrite', WHERE WHAT IT READS IS OF BULK AT MOST 1048576: true; the input reads as it did. -/
def fnExactFsWriteUptoRow : OpenClaim := { program := "ytkkcnpokobndcaadoor", sum := "fdf12173d09a24084ca398f85e0f07c925f1ae532d586b22261854b40db463f3", func := "loop.example/s02863/laws.FnExactFsWrite", spec := "fnExactFsWrite", inPlace := ["internal/bytealg.Compare", "internal/reflectlite.TypeOf"], unfollowed := true, recurses := true, named := ["loop.example/s02863/impl.errNone", "loop.example/s02863/impl.errFull"], ifaces := true, apart := false, laid := [("loop.example/s02863/impl.errNone", laid_loop_example_s02863_impl_errNone), ("loop.example/s02863/impl.errFull", laid_loop_example_s02863_impl_errFull)], narrowed := true }
def FnExactFsWriteUptoSaid : Prop := fnExactFsWriteUptoRow.holds Tryd.pinned (OpenSpec.upto fnExactFsWriteSpec)

/-- 'laws.FnExactFsRemove', WHERE WHAT IT READS IS OF BULK AT MOST 1048576: true; the input reads as it did. -/
def fnExactFsRemoveUptoRow : OpenClaim := { program := "ytkkcnpokobndcaadoor", sum := "fdf12173d09a24084ca398f85e0f07c925f1ae532d586b22261854b40db463f3", func := "loop.example/s02863/laws.FnExactFsRemove", spec := "fnExactFsRemove", inPlace := ["internal/bytealg.Compare", "internal/reflectlite.TypeOf"], unfollowed := true, recurses := true, named := ["loop.example/s02863/impl.errNone", "loop.example/s02863/impl.errFull"], ifaces := true, apart := false, laid := [("loop.example/s02863/impl.errNone", laid_loop_example_s02863_impl_errNone), ("loop.example/s02863/impl.errFull", laid_loop_example_s02863_impl_errFull)], narrowed := true }
def FnExactFsRemoveUptoSaid : Prop := fnExactFsRemoveUptoRow.holds Tryd.pinned (OpenSpec.upto fnExactFsRemoveSpec)

/-- 'laws.FnExactFsSync', WHERE WHAT IT READS IS OF BULK AT MOST 1048576: true; the input reads as it did. -/
def fnExactFsSyncUptoRow : OpenClaim := { program := "ytkkcnpokobndcaadoor", sum := "fdf12173d09a24084ca398f85e0f07c925f1ae532d586b22261854b40db463f3", func := "loop.example/s02863/laws.FnExactFsSync", spec := "fnExactFsSync", inPlace := ["internal/bytealg.Compare", "internal/reflectlite.TypeOf"], unfollowed := true, recurses := true, named := ["loop.example/s02863/impl.errNone", "loop.example/s02863/impl.errFull"], ifaces := true, apart := false, laid := [("loop.example/s02863/impl.errNone", laid_loop_example_s02863_impl_errNone), ("loop.example/s02863/impl.errFull", laid_loop_example_s02863_impl_errFull)], narrowed := true }
def FnExactFsSyncUptoSaid : Prop := fnExactFsSyncUptoRow.holds Tryd.pinned (OpenSpec.upto fnExactFsSyncSpec)

end Rows
end Go.Proofs.YtkkcnpokobndcaaDoor
