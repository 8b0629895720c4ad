/-
  NARROWER THAN 'FOR EVERY INPUT', by the rows' own cells (each row's printed sentence says how): FnExactStripComments: laid.
  DERIVED. THE GIVEN ROWS OF THIS SEAT. 1 by the template 'for every input the law returns true; each argument reads behind the call as it read before'; 0 by the template 'total and deterministic' (their statements: YthcjmmpkgljjhaaGreatDoorTotals.lean).
  GIVEN WITH THE SEED: the statements are not yours to turn. If you find one false, say at which input.
  Laid BY PROGRAM, IN A SANDBOX (cutbox-rows.mjs): the forced cells as the released guide's own fill.sh prints them over the translation 38ba54403fb2e2e3… (all of the seat's roots in one cut). By AI agents, Wed Nov 11 2026. No macro, syntax, notation, axiom, sorry.
-/
import Derived.Test.YthcjmmpkgljjhaaGreatDoorChecked
import GoSem.Claim
import GoSem.ClaimJoined
import GoSem.ClaimMapViews
import Derived.JoinedTies
import Derived.KernelRfl
namespace Go.Proofs.YthcjmmpkgljjhaaGreatDoor
/- THE CELL 'sum', in the pinned program and in every row, IS THE sha256 OF THE DUMP (.gsa) THAT YthcjmmpkgljjhaaGreatDoorProg.lean LOADS. Nothing in Lean hashes anything: it is a label: what it is worth is what the hold of that sum in a sandbox is worth. -/
noncomputable def Tryz.pinned : Pinned := { name := "ythcjmmpkgljjhaagreatdoor", sum := "38ba54403fb2e2e3bb284f9c1df4104962af4f0c776216a8ad8ae168af6ad6d4", checked := Tryz.checked }
namespace Rows
def none {H : Type} : Left H := { results := [], args := [] }

/- WHAT THE LISTED PACKAGE-LEVEL VARIABLES READ AS WHEN THE CALL BEGINS. Each datum BY PROGRAM (the guide's laid-datum.mjs) off the statement by which the dump's own 'gosem.cut.vars' lays the variable. In a bare row this is a premise. The card (YthcjmmpkgljjhaaGreatDoorCards.lean) ties it to the program's text. -/
def laid_loop_example_s02863_impl_formEnds {H : Type} : DataW H := .agg [.lit (.int .i32 0), .lit (.int .i32 128), .lit (.int .i32 2048), .lit (.int .i32 65536), .lit (.int .i32 2097152)]

/-- 'laws.FnExactStripComments': WHATEVER THE INPUT: true; the input reads as it did. -/
def fnExactStripCommentsSpec : ChangeSpec := { name := "fnExactStripComments", vars := ["loop.example/s02863/impl.formEnds"], fn := fun _ => fun
  | [d, g1] => { results := [.lit (.bool true)], args := [d], vars := [g1] }
  | _ => none }
def fnExactStripCommentsRow : OpenClaim := { program := "ythcjmmpkgljjhaagreatdoor", sum := "38ba54403fb2e2e3bb284f9c1df4104962af4f0c776216a8ad8ae168af6ad6d4", func := "loop.example/s02863/laws.FnExactStripComments", spec := "fnExactStripComments", inPlace := ["internal/bytealg.IndexByte", "internal/bytealg.Index"], unfollowed := true, recurses := true, named := ["loop.example/s02863/impl.formEnds", "internal/bytealg.MaxLen"], apart := false, laid := [("loop.example/s02863/impl.formEnds", laid_loop_example_s02863_impl_formEnds)] }
def FnExactStripCommentsSaid : Prop := fnExactStripCommentsRow.holds Tryz.pinned (OpenSpec.ofChange fnExactStripCommentsSpec)

/-- ITS FALSE NEIGHBOUR: 'it returns false'. Refute it at one input. -/
def fnExactStripCommentsWrong : ChangeSpec := { name := "fnExactStripComments", vars := ["loop.example/s02863/impl.formEnds"], fn := fun _ => fun
  | [d, g1] => { results := [.lit (.bool false)], args := [d], vars := [g1] }
  | _ => none }
def FnExactStripCommentsWrongFalsely : Prop := fnExactStripCommentsRow.holds Tryz.pinned (OpenSpec.ofChange fnExactStripCommentsWrong)

/- THE SECOND FORM. 'bulk': how many values and letters a reading holds, each counted each time it is reached (what is shared counts as often as it is met; a slice's spare places count too). A statement '..UptoSaid' is the law's where the arguments, and the package variables that the reading takes, are together of bulk at most 1048576: NARROWER than '..Said'. Prove '..Said' where nothing that the law and all that it calls make is longer than what came in: it says more and counts as full. Else prove '..UptoSaid'. A law counts once. -/
mutual
def uptoBulk {H : Type} : DataW H → Nat
  | .lit (.string bytes) => bytes.length + 1
  | .lit _ => 1
  | .nil => 1
  | .ptr d => uptoBulk d + 1
  | .slice elems spare => uptoBulkAll elems + uptoBulkAll spare + 1
  | .agg parts => uptoBulkAll parts + 1
  | .iface _ d => uptoBulk d + 1
  | .map entries => uptoBulkEntries entries + 1
  | .held _ => 1
def uptoBulkAll {H : Type} : List (DataW H) → Nat
  | [] => 0
  | d :: r => uptoBulk d + uptoBulkAll r
def uptoBulkEntries {H : Type} : List (Lit × DataW H) → Nat
  | [] => 0
  | x :: r => uptoBulkEntry x + uptoBulkEntries r
def uptoBulkEntry {H : Type} : Lit × DataW H → Nat
  | (.string bytes, d) => bytes.length + uptoBulk d + 1
  | (_, d) => uptoBulk d + 1
 end
def uptoSmall : (H : Type) → List (DataW H) → Bool := fun _ ds => decide (uptoBulkAll ds ≤ 1048576)
def OpenSpec.upto (s : _root_.Go.ChangeSpec) : _root_.Go.OpenSpec := { _root_.Go.OpenSpec.ofChange s with cond := some uptoSmall }

/-- 'laws.FnExactStripComments', WHERE WHAT IT READS IS OF BULK AT MOST 1048576: true; the input reads as it did. -/
def fnExactStripCommentsUptoRow : OpenClaim := { program := "ythcjmmpkgljjhaagreatdoor", sum := "38ba54403fb2e2e3bb284f9c1df4104962af4f0c776216a8ad8ae168af6ad6d4", func := "loop.example/s02863/laws.FnExactStripComments", spec := "fnExactStripComments", inPlace := ["internal/bytealg.IndexByte", "internal/bytealg.Index"], unfollowed := true, recurses := true, named := ["loop.example/s02863/impl.formEnds", "internal/bytealg.MaxLen"], apart := false, laid := [("loop.example/s02863/impl.formEnds", laid_loop_example_s02863_impl_formEnds)], narrowed := true }
def FnExactStripCommentsUptoSaid : Prop := fnExactStripCommentsUptoRow.holds Tryz.pinned (OpenSpec.upto fnExactStripCommentsSpec)

end Rows
end Go.Proofs.YthcjmmpkgljjhaaGreatDoor
