/-
  DERIVED. GIVEN WITH THE SEED: THE CARDS: each row of YtbiiopiaglkicaaDoorRows.lean that lists a variable, with what it lists TIED to the program's text (the seventh form; the later family's looks); each row that meets fmt, with fmt's text TOLD by the authors' own Lean function (tested against real Go, not proved from fmt's source: count such statements apart). THE CARD IS WHAT COUNTS. Prove the row's statement (the work); the ties are given (YtbiiopiaglkicaaDoorTie.lean); close each card by the builder's one call (the guide's Derived/Test/ToyasCard.lean, 'card_holds'). Laid BY PROGRAM, IN A SANDBOX (cutbox-door.mjs). By AI agents, Wed Nov 11 2026. No macro, syntax, notation, axiom, sorry.
-/
import Derived.Test.YtbiiopiaglkicaaDoorRows
import GoSem.ClaimSeven
namespace Go.Proofs.YtbiiopiaglkicaaDoor
namespace Rows

/-- THE TIED CARD OF 'laws.FnExactLayout'. -/
def fnExactLayoutCard : Claim7 := { stood := { row := fnExactLayoutRow, standIns := [], harness := (true, "78f4c05a923063814a8587a8a9124111f960e5c4bc746f938b4960744c39fea2"), looks := true }, kinds := [], alts := [], laidByText := true, laidKinds := [.data], laidTests := true, laidLooks := .later }
def FnExactLayoutCardSaid : Prop := Claim7.holds Tryd.pinned (.plain (OpenSpec.ofChange fnExactLayoutSpec)) fnExactLayoutCard

/-- THE TIED CARD OF 'laws.FnExactRender'. -/
def fnExactRenderCard : Claim7 := { stood := { row := fnExactRenderRow, standIns := [], harness := (true, "78f4c05a923063814a8587a8a9124111f960e5c4bc746f938b4960744c39fea2"), looks := true }, kinds := [], alts := [], laidByText := true, laidKinds := [.data], laidTests := true, laidLooks := .later }
def FnExactRenderCardSaid : Prop := Claim7.holds Tryd.pinned (.plain (OpenSpec.ofChange fnExactRenderSpec)) fnExactRenderCard

/-- THE TIED CARD OF 'laws.FnGreedy'. -/
def fnGreedyCard : Claim7 := { stood := { row := fnGreedyRow, standIns := [], harness := (true, "78f4c05a923063814a8587a8a9124111f960e5c4bc746f938b4960744c39fea2"), looks := true }, kinds := [], alts := [], laidByText := true, laidKinds := [.data], laidTests := true, laidLooks := .later }
def FnGreedyCardSaid : Prop := Claim7.holds Tryd.pinned (.plain (OpenSpec.ofChange fnGreedySpec)) fnGreedyCard

/-- THE TIED CARD OF 'laws.FnExactValidDoc'. -/
def fnExactValidDocCard : Claim7 := { stood := { row := fnExactValidDocRow, standIns := [], harness := (true, "78f4c05a923063814a8587a8a9124111f960e5c4bc746f938b4960744c39fea2"), looks := true }, kinds := [], alts := [], laidByText := true, laidKinds := [.data], laidTests := true, laidLooks := .later }
def FnExactValidDocCardSaid : Prop := Claim7.holds Tryd.pinned (.plain (OpenSpec.ofChange fnExactValidDocSpec)) fnExactValidDocCard

/-- THE TIED CARD OF 'laws.FnExactLeadWidth'. -/
def fnExactLeadWidthCard : Claim7 := { stood := { row := fnExactLeadWidthRow, standIns := [], harness := (true, "78f4c05a923063814a8587a8a9124111f960e5c4bc746f938b4960744c39fea2"), looks := true }, kinds := [], alts := [], laidByText := true, laidKinds := [.data], laidTests := true, laidLooks := .later }
def FnExactLeadWidthCardSaid : Prop := Claim7.holds Tryd.pinned (.plain (OpenSpec.ofChange fnExactLeadWidthSpec)) fnExactLeadWidthCard

/-- THE TIED CARD OF 'laws.FnExactFlatText'. -/
def fnExactFlatTextCard : Claim7 := { stood := { row := fnExactFlatTextRow, standIns := [], harness := (true, "78f4c05a923063814a8587a8a9124111f960e5c4bc746f938b4960744c39fea2"), looks := true }, kinds := [], alts := [], laidByText := true, laidKinds := [.data], laidTests := true, laidLooks := .later }
def FnExactFlatTextCardSaid : Prop := Claim7.holds Tryd.pinned (.plain (OpenSpec.ofChange fnExactFlatTextSpec)) fnExactFlatTextCard

/-- THE SECOND FORM's CARD OF 'laws.FnExactLayout'. -/
def fnExactLayoutUptoCard : Claim7 := { stood := { row := fnExactLayoutUptoRow, standIns := [], harness := (true, "78f4c05a923063814a8587a8a9124111f960e5c4bc746f938b4960744c39fea2"), looks := true }, kinds := [], alts := [], laidByText := true, laidKinds := [.data], laidTests := true, laidLooks := .later }
def FnExactLayoutUptoCardSaid : Prop := Claim7.holds Tryd.pinned (.plain (OpenSpec.upto fnExactLayoutSpec)) fnExactLayoutUptoCard

/-- THE SECOND FORM's CARD OF 'laws.FnExactRender'. -/
def fnExactRenderUptoCard : Claim7 := { stood := { row := fnExactRenderUptoRow, standIns := [], harness := (true, "78f4c05a923063814a8587a8a9124111f960e5c4bc746f938b4960744c39fea2"), looks := true }, kinds := [], alts := [], laidByText := true, laidKinds := [.data], laidTests := true, laidLooks := .later }
def FnExactRenderUptoCardSaid : Prop := Claim7.holds Tryd.pinned (.plain (OpenSpec.upto fnExactRenderSpec)) fnExactRenderUptoCard

/-- THE SECOND FORM's CARD OF 'laws.FnGreedy'. -/
def fnGreedyUptoCard : Claim7 := { stood := { row := fnGreedyUptoRow, standIns := [], harness := (true, "78f4c05a923063814a8587a8a9124111f960e5c4bc746f938b4960744c39fea2"), looks := true }, kinds := [], alts := [], laidByText := true, laidKinds := [.data], laidTests := true, laidLooks := .later }
def FnGreedyUptoCardSaid : Prop := Claim7.holds Tryd.pinned (.plain (OpenSpec.upto fnGreedySpec)) fnGreedyUptoCard

/-- THE SECOND FORM's CARD OF 'laws.FnExactValidDoc'. -/
def fnExactValidDocUptoCard : Claim7 := { stood := { row := fnExactValidDocUptoRow, standIns := [], harness := (true, "78f4c05a923063814a8587a8a9124111f960e5c4bc746f938b4960744c39fea2"), looks := true }, kinds := [], alts := [], laidByText := true, laidKinds := [.data], laidTests := true, laidLooks := .later }
def FnExactValidDocUptoCardSaid : Prop := Claim7.holds Tryd.pinned (.plain (OpenSpec.upto fnExactValidDocSpec)) fnExactValidDocUptoCard

/-- THE SECOND FORM's CARD OF 'laws.FnExactLeadWidth'. -/
def fnExactLeadWidthUptoCard : Claim7 := { stood := { row := fnExactLeadWidthUptoRow, standIns := [], harness := (true, "78f4c05a923063814a8587a8a9124111f960e5c4bc746f938b4960744c39fea2"), looks := true }, kinds := [], alts := [], laidByText := true, laidKinds := [.data], laidTests := true, laidLooks := .later }
def FnExactLeadWidthUptoCardSaid : Prop := Claim7.holds Tryd.pinned (.plain (OpenSpec.upto fnExactLeadWidthSpec)) fnExactLeadWidthUptoCard

/-- THE SECOND FORM's CARD OF 'laws.FnExactFlatText'. -/
def fnExactFlatTextUptoCard : Claim7 := { stood := { row := fnExactFlatTextUptoRow, standIns := [], harness := (true, "78f4c05a923063814a8587a8a9124111f960e5c4bc746f938b4960744c39fea2"), looks := true }, kinds := [], alts := [], laidByText := true, laidKinds := [.data], laidTests := true, laidLooks := .later }
def FnExactFlatTextUptoCardSaid : Prop := Claim7.holds Tryd.pinned (.plain (OpenSpec.upto fnExactFlatTextSpec)) fnExactFlatTextUptoCard
end Rows
end Go.Proofs.YtbiiopiaglkicaaDoor
