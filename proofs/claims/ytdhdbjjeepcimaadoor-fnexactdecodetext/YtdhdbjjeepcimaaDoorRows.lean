/-
  NARROWER THAN 'FOR EVERY INPUT', by the rows' own cells (each row's printed sentence says how): FnExactTextWidth: laid · FnExactDecodeText: laid.
  DERIVED. THE GIVEN ROWS OF THIS SEAT. 2 by the template 'for every input the law returns true; each argument reads behind the call as it read before'; 0 by the template 'total and deterministic' (their statements: YtdhdbjjeepcimaaDoorTotals.lean).
  GIVEN WITH THE SEED: the statements are not yours to turn. If you find one false, say at which input.
  Laid BY PROGRAM, IN A SANDBOX (cutbox-rows.mjs): the forced cells as the released guide's own fill.sh prints them over the translation 9ab329890c8912e6… (all of the seat's roots in one cut). By AI agents, Wed Nov 11 2026. No macro, syntax, notation, axiom, sorry.
-/
import Derived.Test.YtdhdbjjeepcimaaDoorChecked
import GoSem.Claim
import GoSem.ClaimJoined
import GoSem.ClaimMapViews
import Derived.JoinedTies
import Derived.KernelRfl
namespace Go.Proofs.YtdhdbjjeepcimaaDoor
/- THE CELL 'sum', in the pinned program and in every row, IS THE sha256 OF THE DUMP (.gsa) THAT YtdhdbjjeepcimaaDoorProg.lean LOADS. Nothing in Lean hashes anything: it is a label: what it is worth is what the hold of that sum in a sandbox is worth. -/
noncomputable def Tryd.pinned : Pinned := { name := "ytdhdbjjeepcimaadoor", sum := "9ab329890c8912e6bb9a61a00878e14489485a177a69bc12bcc71f5d022c1481", checked := Tryd.checked }
namespace Rows
def none {H : Type} : Left H := { results := [], args := [] }

/- WHAT THE LISTED PACKAGE-LEVEL VARIABLES READ AS WHEN THE CALL BEGINS. Each datum BY PROGRAM (the guide's laid-datum.mjs) off the statement by which the dump's own 'gosem.cut.vars' lays the variable. In a bare row this is a premise. The card (YtdhdbjjeepcimaaDoorCards.lean) ties it to the program's text. -/
def laid_loop_example_s02863_impl_formEnds {H : Type} : DataW H := .agg [.lit (.int .i32 0), .lit (.int .i32 128), .lit (.int .i32 2048), .lit (.int .i32 65536), .lit (.int .i32 2097152)]

/-- 'laws.FnExactTextWidth': WHATEVER THE INPUT: true; the input reads as it did. -/
def fnExactTextWidthSpec : ChangeSpec := { name := "fnExactTextWidth", vars := ["loop.example/s02863/impl.formEnds"], fn := fun _ => fun
  | [d, g1] => { results := [.lit (.bool true)], args := [d], vars := [g1] }
  | _ => none }
def fnExactTextWidthRow : OpenClaim := { program := "ytdhdbjjeepcimaadoor", sum := "9ab329890c8912e6bb9a61a00878e14489485a177a69bc12bcc71f5d022c1481", func := "loop.example/s02863/laws.FnExactTextWidth", spec := "fnExactTextWidth", unfollowed := true, recurses := true, named := ["loop.example/s02863/impl.formEnds"], apart := false, laid := [("loop.example/s02863/impl.formEnds", laid_loop_example_s02863_impl_formEnds)] }
def FnExactTextWidthSaid : Prop := fnExactTextWidthRow.holds Tryd.pinned (OpenSpec.ofChange fnExactTextWidthSpec)

/-- ITS FALSE NEIGHBOUR: 'it returns false'. Refute it at one input. -/
def fnExactTextWidthWrong : ChangeSpec := { name := "fnExactTextWidth", vars := ["loop.example/s02863/impl.formEnds"], fn := fun _ => fun
  | [d, g1] => { results := [.lit (.bool false)], args := [d], vars := [g1] }
  | _ => none }
def FnExactTextWidthWrongFalsely : Prop := fnExactTextWidthRow.holds Tryd.pinned (OpenSpec.ofChange fnExactTextWidthWrong)

/-- 'laws.FnExactDecodeText': WHATEVER THE INPUT: true; the input reads as it did. -/
def fnExactDecodeTextSpec : ChangeSpec := { name := "fnExactDecodeText", vars := ["loop.example/s02863/impl.formEnds"], fn := fun _ => fun
  | [d, g1] => { results := [.lit (.bool true)], args := [d], vars := [g1] }
  | _ => none }
def fnExactDecodeTextRow : OpenClaim := { program := "ytdhdbjjeepcimaadoor", sum := "9ab329890c8912e6bb9a61a00878e14489485a177a69bc12bcc71f5d022c1481", func := "loop.example/s02863/laws.FnExactDecodeText", spec := "fnExactDecodeText", unfollowed := true, recurses := true, named := ["loop.example/s02863/impl.formEnds"], apart := false, laid := [("loop.example/s02863/impl.formEnds", laid_loop_example_s02863_impl_formEnds)] }
def FnExactDecodeTextSaid : Prop := fnExactDecodeTextRow.holds Tryd.pinned (OpenSpec.ofChange fnExactDecodeTextSpec)

/-- ITS FALSE NEIGHBOUR: 'it returns false'. Refute it at one input. -/
def fnExactDecodeTextWrong : ChangeSpec := { name := "fnExactDecodeText", vars := ["loop.example/s02863/impl.formEnds"], fn := fun _ => fun
  | [d, g1] => { results := [.lit (.bool false)], args := [d], vars := [g1] }
  | _ => none }
def FnExactDecodeTextWrongFalsely : Prop := fnExactDecodeTextRow.holds Tryd.pinned (OpenSpec.ofChange fnExactDecodeTextWrong)

/- THE SECOND FORM. 'bulk': how many values and letters a reading holds, each counted each time it is reached (what is shared counts as often as it is met; a slice's spare places count too). A statement '..UptoSaid' is the law's where the arguments, and the package variables that the reading takes, are together of bulk at most 1048576: NARROWER than '..Said'. Prove '..Said' where nothing that the law and all that it calls make is longer than what came in: it says more and counts as full. Else prove '..UptoSaid'. A law counts once. -/
mutual
def uptoBulk {H : Type} : DataW H → Nat
  | .lit (.string bytes) => bytes.length + 1
  | .lit _ => 1
  | .nil => 1
  | .ptr d => uptoBulk d + 1
  | .slice elems spare => uptoBulkAll elems + uptoBulkAll spare + 1
  | .agg parts => uptoBulkAll parts + 1
  | .iface _ d => uptoBulk d + 1
  | .map entries => uptoBulkEntries entries + 1
  | .held _ => 1
def uptoBulkAll {H : Type} : List (DataW H) → Nat
  | [] => 0
  | d :: r => uptoBulk d + uptoBulkAll r
def uptoBulkEntries {H : Type} : List (Lit × DataW H) → Nat
  | [] => 0
  | x :: r => uptoBulkEntry x + uptoBulkEntries r
def uptoBulkEntry {H : Type} : Lit × DataW H → Nat
  | (.string bytes, d) => bytes.length + uptoBulk d + 1
  | (_, d) => uptoBulk d + 1
 end
def uptoSmall : (H : Type) → List (DataW H) → Bool := fun _ ds => decide (uptoBulkAll ds ≤ 1048576)
def OpenSpec.upto (s : _root_.Go.ChangeSpec) : _root_.Go.OpenSpec := { _root_.Go.OpenSpec.ofChange s with cond := some uptoSmall }

/-- 'laws.FnExactTextWidth', WHERE WHAT IT READS IS OF BULK AT MOST 1048576: true; the input reads as it did. -/
def fnExactTextWidthUptoRow : OpenClaim := { program := "ytdhdbjjeepcimaadoor", sum := "9ab329890c8912e6bb9a61a00878e14489485a177a69bc12bcc71f5d022c1481", func := "loop.example/s02863/laws.FnExactTextWidth", spec := "fnExactTextWidth", unfollowed := true, recurses := true, named := ["loop.example/s02863/impl.formEnds"], apart := false, laid := [("loop.example/s02863/impl.formEnds", laid_loop_example_s02863_impl_formEnds)], narrowed := true }
def FnExactTextWidthUptoSaid : Prop := fnExactTextWidthUptoRow.holds Tryd.pinned (OpenSpec.upto fnExactTextWidthSpec)

/-- 'laws.FnExactDecodeText', WHERE WHAT IT READS IS OF BULK AT MOST 1048576: true; the input reads as it did. -/
def fnExactDecodeTextUptoRow : OpenClaim := { program := "ytdhdbjjeepcimaadoor", sum := "9ab329890c8912e6bb9a61a00878e14489485a177a69bc12bcc71f5d022c1481", func := "loop.example/s02863/laws.FnExactDecodeText", spec := "fnExactDecodeText", unfollowed := true, recurses := true, named := ["loop.example/s02863/impl.formEnds"], apart := false, laid := [("loop.example/s02863/impl.formEnds", laid_loop_example_s02863_impl_formEnds)], narrowed := true }
def FnExactDecodeTextUptoSaid : Prop := fnExactDecodeTextUptoRow.holds Tryd.pinned (OpenSpec.upto fnExactDecodeTextSpec)

end Rows
end Go.Proofs.YtdhdbjjeepcimaaDoor
