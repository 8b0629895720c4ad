/-
  NARROWER THAN 'FOR EVERY INPUT', by the rows' own cells (each row's printed sentence says how): FnExactLayout: laid · FnExactRender: laid · FnGreedy: laid · FnExactValidDoc: laid · FnExactLeadWidth: laid · FnExactFlatText: laid.
  DERIVED. THE GIVEN ROWS OF THIS SEAT. 6 by the template 'for every input the law returns true; each argument reads behind the call as it read before'; 0 by the template 'total and deterministic' (their statements: YtbiiopiaglkicaaDoorTotals.lean).
  GIVEN WITH THE SEED: the statements are not yours to turn. If you find one false, say at which input.
  Laid BY PROGRAM, IN A SANDBOX (cutbox-rows.mjs): the forced cells as the released guide's own fill.sh prints them over the translation aa6f9bf9f4c9f449… (all of the seat's roots in one cut). By AI agents, Wed Nov 11 2026. No macro, syntax, notation, axiom, sorry.
-/
import Derived.Test.YtbiiopiaglkicaaDoorChecked
import GoSem.Claim
import GoSem.ClaimJoined
import GoSem.ClaimMapViews
import Derived.JoinedTies
import Derived.KernelRfl
namespace Go.Proofs.YtbiiopiaglkicaaDoor
/- THE CELL 'sum', in the pinned program and in every row, IS THE sha256 OF THE DUMP (.gsa) THAT YtbiiopiaglkicaaDoorProg.lean LOADS. Nothing in Lean hashes anything: it is a label: what it is worth is what the hold of that sum in a sandbox is worth. -/
noncomputable def Tryd.pinned : Pinned := { name := "ytbiiopiaglkicaadoor", sum := "aa6f9bf9f4c9f449a9978e04048a460cefcabbfbad7303b7dbd28f55e9ef7ac8", checked := Tryd.checked }
namespace Rows
def none {H : Type} : Left H := { results := [], args := [] }

/- WHAT THE LISTED PACKAGE-LEVEL VARIABLES READ AS WHEN THE CALL BEGINS. Each datum BY PROGRAM (the guide's laid-datum.mjs) off the statement by which the dump's own 'gosem.cut.vars' lays the variable. In a bare row this is a premise. The card (YtbiiopiaglkicaaDoorCards.lean) ties it to the program's text. -/
def laid_loop_example_s02863_impl_formEnds {H : Type} : DataW H := .agg [.lit (.int .i32 0), .lit (.int .i32 128), .lit (.int .i32 2048), .lit (.int .i32 65536), .lit (.int .i32 2097152)]

/-- 'laws.FnExactLayout': WHATEVER THE INPUT: true; the input reads as it did. -/
def fnExactLayoutSpec : ChangeSpec := { name := "fnExactLayout", vars := ["loop.example/s02863/impl.formEnds"], fn := fun _ => fun
  | [d1, d2, g1] => { results := [.lit (.bool true)], args := [d1, d2], vars := [g1] }
  | _ => none }
def fnExactLayoutRow : OpenClaim := { program := "ytbiiopiaglkicaadoor", sum := "aa6f9bf9f4c9f449a9978e04048a460cefcabbfbad7303b7dbd28f55e9ef7ac8", func := "loop.example/s02863/laws.FnExactLayout", spec := "fnExactLayout", unfollowed := true, recurses := true, named := ["loop.example/s02863/impl.formEnds"], apart := false, laid := [("loop.example/s02863/impl.formEnds", laid_loop_example_s02863_impl_formEnds)] }
def FnExactLayoutSaid : Prop := fnExactLayoutRow.holds Tryd.pinned (OpenSpec.ofChange fnExactLayoutSpec)

/-- ITS FALSE NEIGHBOUR: 'it returns false'. Refute it at one input. -/
def fnExactLayoutWrong : ChangeSpec := { name := "fnExactLayout", vars := ["loop.example/s02863/impl.formEnds"], fn := fun _ => fun
  | [d1, d2, g1] => { results := [.lit (.bool false)], args := [d1, d2], vars := [g1] }
  | _ => none }
def FnExactLayoutWrongFalsely : Prop := fnExactLayoutRow.holds Tryd.pinned (OpenSpec.ofChange fnExactLayoutWrong)

/-- 'laws.FnExactRender': WHATEVER THE INPUT: true; the input reads as it did. -/
def fnExactRenderSpec : ChangeSpec := { name := "fnExactRender", vars := ["loop.example/s02863/impl.formEnds"], fn := fun _ => fun
  | [d1, d2, g1] => { results := [.lit (.bool true)], args := [d1, d2], vars := [g1] }
  | _ => none }
def fnExactRenderRow : OpenClaim := { program := "ytbiiopiaglkicaadoor", sum := "aa6f9bf9f4c9f449a9978e04048a460cefcabbfbad7303b7dbd28f55e9ef7ac8", func := "loop.example/s02863/laws.FnExactRender", spec := "fnExactRender", unfollowed := true, recurses := true, named := ["loop.example/s02863/impl.formEnds"], apart := false, laid := [("loop.example/s02863/impl.formEnds", laid_loop_example_s02863_impl_formEnds)] }
def FnExactRenderSaid : Prop := fnExactRenderRow.holds Tryd.pinned (OpenSpec.ofChange fnExactRenderSpec)

/-- ITS FALSE NEIGHBOUR: 'it returns false'. Refute it at one input. -/
def fnExactRenderWrong : ChangeSpec := { name := "fnExactRender", vars := ["loop.example/s02863/impl.formEnds"], fn := fun _ => fun
  | [d1, d2, g1] => { results := [.lit (.bool false)], args := [d1, d2], vars := [g1] }
  | _ => none }
def FnExactRenderWrongFalsely : Prop := fnExactRenderRow.holds Tryd.pinned (OpenSpec.ofChange fnExactRenderWrong)

/-- 'laws.FnGreedy': WHATEVER THE INPUT: true; the input reads as it did. -/
def fnGreedySpec : ChangeSpec := { name := "fnGreedy", vars := ["loop.example/s02863/impl.formEnds"], fn := fun _ => fun
  | [d, g1] => { results := [.lit (.bool true)], args := [d], vars := [g1] }
  | _ => none }
def fnGreedyRow : OpenClaim := { program := "ytbiiopiaglkicaadoor", sum := "aa6f9bf9f4c9f449a9978e04048a460cefcabbfbad7303b7dbd28f55e9ef7ac8", func := "loop.example/s02863/laws.FnGreedy", spec := "fnGreedy", unfollowed := true, recurses := true, named := ["loop.example/s02863/impl.formEnds"], apart := false, laid := [("loop.example/s02863/impl.formEnds", laid_loop_example_s02863_impl_formEnds)] }
def FnGreedySaid : Prop := fnGreedyRow.holds Tryd.pinned (OpenSpec.ofChange fnGreedySpec)

/-- ITS FALSE NEIGHBOUR: 'it returns false'. Refute it at one input. -/
def fnGreedyWrong : ChangeSpec := { name := "fnGreedy", vars := ["loop.example/s02863/impl.formEnds"], fn := fun _ => fun
  | [d, g1] => { results := [.lit (.bool false)], args := [d], vars := [g1] }
  | _ => none }
def FnGreedyWrongFalsely : Prop := fnGreedyRow.holds Tryd.pinned (OpenSpec.ofChange fnGreedyWrong)

/-- 'laws.FnExactValidDoc': WHATEVER THE INPUT: true; the input reads as it did. -/
def fnExactValidDocSpec : ChangeSpec := { name := "fnExactValidDoc", vars := ["loop.example/s02863/impl.formEnds"], fn := fun _ => fun
  | [d, g1] => { results := [.lit (.bool true)], args := [d], vars := [g1] }
  | _ => none }
def fnExactValidDocRow : OpenClaim := { program := "ytbiiopiaglkicaadoor", sum := "aa6f9bf9f4c9f449a9978e04048a460cefcabbfbad7303b7dbd28f55e9ef7ac8", func := "loop.example/s02863/laws.FnExactValidDoc", spec := "fnExactValidDoc", unfollowed := true, recurses := true, named := ["loop.example/s02863/impl.formEnds"], apart := false, laid := [("loop.example/s02863/impl.formEnds", laid_loop_example_s02863_impl_formEnds)] }
def FnExactValidDocSaid : Prop := fnExactValidDocRow.holds Tryd.pinned (OpenSpec.ofChange fnExactValidDocSpec)

/-- ITS FALSE NEIGHBOUR: 'it returns false'. Refute it at one input. -/
def fnExactValidDocWrong : ChangeSpec := { name := "fnExactValidDoc", vars := ["loop.example/s02863/impl.formEnds"], fn := fun _ => fun
  | [d, g1] => { results := [.lit (.bool false)], args := [d], vars := [g1] }
  | _ => none }
def FnExactValidDocWrongFalsely : Prop := fnExactValidDocRow.holds Tryd.pinned (OpenSpec.ofChange fnExactValidDocWrong)

/-- 'laws.FnExactLeadWidth': WHATEVER THE INPUT: true; the input reads as it did. -/
def fnExactLeadWidthSpec : ChangeSpec := { name := "fnExactLeadWidth", vars := ["loop.example/s02863/impl.formEnds"], fn := fun _ => fun
  | [d, g1] => { results := [.lit (.bool true)], args := [d], vars := [g1] }
  | _ => none }
def fnExactLeadWidthRow : OpenClaim := { program := "ytbiiopiaglkicaadoor", sum := "aa6f9bf9f4c9f449a9978e04048a460cefcabbfbad7303b7dbd28f55e9ef7ac8", func := "loop.example/s02863/laws.FnExactLeadWidth", spec := "fnExactLeadWidth", unfollowed := true, recurses := true, named := ["loop.example/s02863/impl.formEnds"], apart := false, laid := [("loop.example/s02863/impl.formEnds", laid_loop_example_s02863_impl_formEnds)] }
def FnExactLeadWidthSaid : Prop := fnExactLeadWidthRow.holds Tryd.pinned (OpenSpec.ofChange fnExactLeadWidthSpec)

/-- ITS FALSE NEIGHBOUR: 'it returns false'. Refute it at one input. -/
def fnExactLeadWidthWrong : ChangeSpec := { name := "fnExactLeadWidth", vars := ["loop.example/s02863/impl.formEnds"], fn := fun _ => fun
  | [d, g1] => { results := [.lit (.bool false)], args := [d], vars := [g1] }
  | _ => none }
def FnExactLeadWidthWrongFalsely : Prop := fnExactLeadWidthRow.holds Tryd.pinned (OpenSpec.ofChange fnExactLeadWidthWrong)

/-- 'laws.FnExactFlatText': WHATEVER THE INPUT: true; the input reads as it did. -/
def fnExactFlatTextSpec : ChangeSpec := { name := "fnExactFlatText", vars := ["loop.example/s02863/impl.formEnds"], fn := fun _ => fun
  | [d, g1] => { results := [.lit (.bool true)], args := [d], vars := [g1] }
  | _ => none }
def fnExactFlatTextRow : OpenClaim := { program := "ytbiiopiaglkicaadoor", sum := "aa6f9bf9f4c9f449a9978e04048a460cefcabbfbad7303b7dbd28f55e9ef7ac8", func := "loop.example/s02863/laws.FnExactFlatText", spec := "fnExactFlatText", unfollowed := true, recurses := true, named := ["loop.example/s02863/impl.formEnds"], apart := false, laid := [("loop.example/s02863/impl.formEnds", laid_loop_example_s02863_impl_formEnds)] }
def FnExactFlatTextSaid : Prop := fnExactFlatTextRow.holds Tryd.pinned (OpenSpec.ofChange fnExactFlatTextSpec)

/-- ITS FALSE NEIGHBOUR: 'it returns false'. Refute it at one input. -/
def fnExactFlatTextWrong : ChangeSpec := { name := "fnExactFlatText", vars := ["loop.example/s02863/impl.formEnds"], fn := fun _ => fun
  | [d, g1] => { results := [.lit (.bool false)], args := [d], vars := [g1] }
  | _ => none }
def FnExactFlatTextWrongFalsely : Prop := fnExactFlatTextRow.holds Tryd.pinned (OpenSpec.ofChange fnExactFlatTextWrong)

/- THE SECOND FORM. 'bulk': how many values and letters a reading holds, each counted each time it is reached (what is shared counts as often as it is met; a slice's spare places count too). A statement '..UptoSaid' is the law's where the arguments, and the package variables that the reading takes, are together of bulk at most 1048576: NARROWER than '..Said'. Prove '..Said' where nothing that the law and all that it calls make is longer than what came in: it says more and counts as full. Else prove '..UptoSaid'. A law counts once. -/
mutual
def uptoBulk {H : Type} : DataW H → Nat
  | .lit (.string bytes) => bytes.length + 1
  | .lit _ => 1
  | .nil => 1
  | .ptr d => uptoBulk d + 1
  | .slice elems spare => uptoBulkAll elems + uptoBulkAll spare + 1
  | .agg parts => uptoBulkAll parts + 1
  | .iface _ d => uptoBulk d + 1
  | .map entries => uptoBulkEntries entries + 1
  | .held _ => 1
def uptoBulkAll {H : Type} : List (DataW H) → Nat
  | [] => 0
  | d :: r => uptoBulk d + uptoBulkAll r
def uptoBulkEntries {H : Type} : List (Lit × DataW H) → Nat
  | [] => 0
  | x :: r => uptoBulkEntry x + uptoBulkEntries r
def uptoBulkEntry {H : Type} : Lit × DataW H → Nat
  | (.string bytes, d) => bytes.length + uptoBulk d + 1
  | (_, d) => uptoBulk d + 1
 end
def uptoSmall : (H : Type) → List (DataW H) → Bool := fun _ ds => decide (uptoBulkAll ds ≤ 1048576)
def OpenSpec.upto (s : _root_.Go.ChangeSpec) : _root_.Go.OpenSpec := { _root_.Go.OpenSpec.ofChange s with cond := some uptoSmall }

/-- 'laws.FnExactLayout', WHERE WHAT IT READS IS OF BULK AT MOST 1048576: true; the input reads as it did. -/
def fnExactLayoutUptoRow : OpenClaim := { program := "ytbiiopiaglkicaadoor", sum := "aa6f9bf9f4c9f449a9978e04048a460cefcabbfbad7303b7dbd28f55e9ef7ac8", func := "loop.example/s02863/laws.FnExactLayout", spec := "fnExactLayout", unfollowed := true, recurses := true, named := ["loop.example/s02863/impl.formEnds"], apart := false, laid := [("loop.example/s02863/impl.formEnds", laid_loop_example_s02863_impl_formEnds)], narrowed := true }
def FnExactLayoutUptoSaid : Prop := fnExactLayoutUptoRow.holds Tryd.pinned (OpenSpec.upto fnExactLayoutSpec)

/-- 'laws.FnExactRender', WHERE WHAT IT READS IS OF BULK AT MOST 1048576: true; the input reads as it did. -/
def fnExactRenderUptoRow : OpenClaim := { program := "ytbiiopiaglkicaadoor", sum := "aa6f9bf9f4c9f449a9978e04048a460cefcabbfbad7303b7dbd28f55e9ef7ac8", func := "loop.example/s02863/laws.FnExactRender", spec := "fnExactRender", unfollowed := true, recurses := true, named := ["loop.example/s02863/impl.formEnds"], apart := false, laid := [("loop.example/s02863/impl.formEnds", laid_loop_example_s02863_impl_formEnds)], narrowed := true }
def FnExactRenderUptoSaid : Prop := fnExactRenderUptoRow.holds Tryd.pinned (OpenSpec.upto fnExactRenderSpec)

/-- 'laws.FnGreedy', WHERE WHAT IT READS IS OF BULK AT MOST 1048576: true; the input reads as it did. -/
def fnGreedyUptoRow : OpenClaim := { program := "ytbiiopiaglkicaadoor", sum := "aa6f9bf9f4c9f449a9978e04048a460cefcabbfbad7303b7dbd28f55e9ef7ac8", func := "loop.example/s02863/laws.FnGreedy", spec := "fnGreedy", unfollowed := true, recurses := true, named := ["loop.example/s02863/impl.formEnds"], apart := false, laid := [("loop.example/s02863/impl.formEnds", laid_loop_example_s02863_impl_formEnds)], narrowed := true }
def FnGreedyUptoSaid : Prop := fnGreedyUptoRow.holds Tryd.pinned (OpenSpec.upto fnGreedySpec)

/-- 'laws.FnExactValidDoc', WHERE WHAT IT READS IS OF BULK AT MOST 1048576: true; the input reads as it did. -/
def fnExactValidDocUptoRow : OpenClaim := { program := "ytbiiopiaglkicaadoor", sum := "aa6f9bf9f4c9f449a9978e04048a460cefcabbfbad7303b7dbd28f55e9ef7ac8", func := "loop.example/s02863/laws.FnExactValidDoc", spec := "fnExactValidDoc", unfollowed := true, recurses := true, named := ["loop.example/s02863/impl.formEnds"], apart := false, laid := [("loop.example/s02863/impl.formEnds", laid_loop_example_s02863_impl_formEnds)], narrowed := true }
def FnExactValidDocUptoSaid : Prop := fnExactValidDocUptoRow.holds Tryd.pinned (OpenSpec.upto fnExactValidDocSpec)

/-- 'laws.FnExactLeadWidth', WHERE WHAT IT READS IS OF BULK AT MOST 1048576: true; the input reads as it did. -/
def fnExactLeadWidthUptoRow : OpenClaim := { program := "ytbiiopiaglkicaadoor", sum := "aa6f9bf9f4c9f449a9978e04048a460cefcabbfbad7303b7dbd28f55e9ef7ac8", func := "loop.example/s02863/laws.FnExactLeadWidth", spec := "fnExactLeadWidth", unfollowed := true, recurses := true, named := ["loop.example/s02863/impl.formEnds"], apart := false, laid := [("loop.example/s02863/impl.formEnds", laid_loop_example_s02863_impl_formEnds)], narrowed := true }
def FnExactLeadWidthUptoSaid : Prop := fnExactLeadWidthUptoRow.holds Tryd.pinned (OpenSpec.upto fnExactLeadWidthSpec)

/-- 'laws.FnExactFlatText', WHERE WHAT IT READS IS OF BULK AT MOST 1048576: true; the input reads as it did. -/
def fnExactFlatTextUptoRow : OpenClaim := { program := "ytbiiopiaglkicaadoor", sum := "aa6f9bf9f4c9f449a9978e04048a460cefcabbfbad7303b7dbd28f55e9ef7ac8", func := "loop.example/s02863/laws.FnExactFlatText", spec := "fnExactFlatText", unfollowed := true, recurses := true, named := ["loop.example/s02863/impl.formEnds"], apart := false, laid := [("loop.example/s02863/impl.formEnds", laid_loop_example_s02863_impl_formEnds)], narrowed := true }
def FnExactFlatTextUptoSaid : Prop := fnExactFlatTextUptoRow.holds Tryd.pinned (OpenSpec.upto fnExactFlatTextSpec)

end Rows
end Go.Proofs.YtbiiopiaglkicaaDoor
