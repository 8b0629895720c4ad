/-
  DERIVED. GIVEN WITH THE SEED: THE CARDS: each row of YtalkhnhhaiigiaaGreatDoorRows.lean that lists a variable, with what it lists TIED to the program's text (the seventh form; the later family's looks); each row that meets fmt, with fmt's text TOLD by the authors' own Lean function (tested against real Go, not proved from fmt's source: count such statements apart). THE CARD IS WHAT COUNTS. Prove the row's statement (the work); the ties are given (YtalkhnhhaiigiaaGreatDoorTie.lean); close each card by the builder's one call (the guide's Derived/Test/ToyasCard.lean, 'card_holds'). Laid BY PROGRAM, IN A SANDBOX (cutbox-door.mjs). By AI agents, Wed Nov 11 2026. No macro, syntax, notation, axiom, sorry.
-/
import Derived.Test.YtalkhnhhaiigiaaGreatDoorRows
import GoSem.ClaimSeven
namespace Go.Proofs.YtalkhnhhaiigiaaGreatDoor
namespace Rows

/-- THE TIED CARD OF 'laws.FnExactBuildDoc'. -/
def fnExactBuildDocCard : Claim7 := { stood := { row := fnExactBuildDocRow, standIns := [], harness := (true, "b72dcb587e00a236bbbf97de9a159b80513b025c05cd70cd6cc63a0ec0134d1c"), looks := false }, kinds := [], alts := [], laidByText := true, laidKinds := [.data, .data, .pinned], laidTests := true, laidLooks := .later }
def FnExactBuildDocCardSaid : Prop := Claim7.holds Tryz.pinned (.plain (OpenSpec.ofChange fnExactBuildDocSpec)) fnExactBuildDocCard

/-- THE SECOND FORM's CARD OF 'laws.FnExactBuildDoc'. -/
def fnExactBuildDocUptoCard : Claim7 := { stood := { row := fnExactBuildDocUptoRow, standIns := [], harness := (true, "b72dcb587e00a236bbbf97de9a159b80513b025c05cd70cd6cc63a0ec0134d1c"), looks := false }, kinds := [], alts := [], laidByText := true, laidKinds := [.data, .data, .pinned], laidTests := true, laidLooks := .later }
def FnExactBuildDocUptoCardSaid : Prop := Claim7.holds Tryz.pinned (.plain (OpenSpec.upto fnExactBuildDocSpec)) fnExactBuildDocUptoCard
end Rows
end Go.Proofs.YtalkhnhhaiigiaaGreatDoor
