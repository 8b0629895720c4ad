/-
  DERIVED. GIVEN WITH THE SEED: THE CARDS: each row of YtlblcgceieegbaaDoorRows.lean that lists a variable, with what it lists TIED to the program's text (the seventh form; the later family's looks); each row that meets fmt, with fmt's text TOLD by the authors' own Lean function (tested against real Go, not proved from fmt's source: count such statements apart). THE CARD IS WHAT COUNTS. Prove the row's statement (the work); the ties are given (YtlblcgceieegbaaDoorTie.lean); close each card by the builder's one call (the guide's Derived/Test/ToyasCard.lean, 'card_holds'). Laid BY PROGRAM, IN A SANDBOX (cutbox-door.mjs). By AI agents, Wed Nov 11 2026. No macro, syntax, notation, axiom, sorry.
-/
import Derived.Test.YtlblcgceieegbaaDoorRows
import GoSem.ClaimSeven
namespace Go.Proofs.YtlblcgceieegbaaDoor
namespace Rows

/-- THE TIED CARD OF 'laws.FnExactValidDoc'. -/
def fnExactValidDocCard : Claim7 := { stood := { row := fnExactValidDocRow, standIns := [], harness := (true, "bb9a6dd43bc80099598426e581422cdb97730dacb2bc4cf223d065a074680630"), looks := true }, kinds := [], alts := [], laidByText := true, laidKinds := [.data], laidTests := true, laidLooks := .later }
def FnExactValidDocCardSaid : Prop := Claim7.holds Tryd.pinned (.plain (OpenSpec.ofChange fnExactValidDocSpec)) fnExactValidDocCard

/-- THE TIED CARD OF 'laws.FnExactLeadWidth'. -/
def fnExactLeadWidthCard : Claim7 := { stood := { row := fnExactLeadWidthRow, standIns := [], harness := (true, "bb9a6dd43bc80099598426e581422cdb97730dacb2bc4cf223d065a074680630"), looks := true }, kinds := [], alts := [], laidByText := true, laidKinds := [.data], laidTests := true, laidLooks := .later }
def FnExactLeadWidthCardSaid : Prop := Claim7.holds Tryd.pinned (.plain (OpenSpec.ofChange fnExactLeadWidthSpec)) fnExactLeadWidthCard

/-- THE TIED CARD OF 'laws.FnExactFlatText'. -/
def fnExactFlatTextCard : Claim7 := { stood := { row := fnExactFlatTextRow, standIns := [], harness := (true, "bb9a6dd43bc80099598426e581422cdb97730dacb2bc4cf223d065a074680630"), looks := true }, kinds := [], alts := [], laidByText := true, laidKinds := [.data], laidTests := true, laidLooks := .later }
def FnExactFlatTextCardSaid : Prop := Claim7.holds Tryd.pinned (.plain (OpenSpec.ofChange fnExactFlatTextSpec)) fnExactFlatTextCard

/-- THE SECOND FORM's CARD OF 'laws.FnExactValidDoc'. -/
def fnExactValidDocUptoCard : Claim7 := { stood := { row := fnExactValidDocUptoRow, standIns := [], harness := (true, "bb9a6dd43bc80099598426e581422cdb97730dacb2bc4cf223d065a074680630"), looks := true }, kinds := [], alts := [], laidByText := true, laidKinds := [.data], laidTests := true, laidLooks := .later }
def FnExactValidDocUptoCardSaid : Prop := Claim7.holds Tryd.pinned (.plain (OpenSpec.upto fnExactValidDocSpec)) fnExactValidDocUptoCard

/-- THE SECOND FORM's CARD OF 'laws.FnExactLeadWidth'. -/
def fnExactLeadWidthUptoCard : Claim7 := { stood := { row := fnExactLeadWidthUptoRow, standIns := [], harness := (true, "bb9a6dd43bc80099598426e581422cdb97730dacb2bc4cf223d065a074680630"), looks := true }, kinds := [], alts := [], laidByText := true, laidKinds := [.data], laidTests := true, laidLooks := .later }
def FnExactLeadWidthUptoCardSaid : Prop := Claim7.holds Tryd.pinned (.plain (OpenSpec.upto fnExactLeadWidthSpec)) fnExactLeadWidthUptoCard

/-- THE SECOND FORM's CARD OF 'laws.FnExactFlatText'. -/
def fnExactFlatTextUptoCard : Claim7 := { stood := { row := fnExactFlatTextUptoRow, standIns := [], harness := (true, "bb9a6dd43bc80099598426e581422cdb97730dacb2bc4cf223d065a074680630"), looks := true }, kinds := [], alts := [], laidByText := true, laidKinds := [.data], laidTests := true, laidLooks := .later }
def FnExactFlatTextUptoCardSaid : Prop := Claim7.holds Tryd.pinned (.plain (OpenSpec.upto fnExactFlatTextSpec)) fnExactFlatTextUptoCard
end Rows
end Go.Proofs.YtlblcgceieegbaaDoor
