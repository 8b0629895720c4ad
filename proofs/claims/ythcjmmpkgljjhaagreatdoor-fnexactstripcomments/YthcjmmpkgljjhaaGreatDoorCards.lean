/-
  DERIVED. GIVEN WITH THE SEED: THE CARDS: each row of YthcjmmpkgljjhaaGreatDoorRows.lean that lists a variable, with what it lists TIED to the program's text (the seventh form; the later family's looks); each row that meets fmt, with fmt's text TOLD by the authors' own Lean function (tested against real Go, not proved from fmt's source: count such statements apart). THE CARD IS WHAT COUNTS. Prove the row's statement (the work); the ties are given (YthcjmmpkgljjhaaGreatDoorTie.lean); close each card by the builder's one call (the guide's Derived/Test/ToyasCard.lean, 'card_holds'). Laid BY PROGRAM, IN A SANDBOX (cutbox-door.mjs). By AI agents, Wed Nov 11 2026. No macro, syntax, notation, axiom, sorry.
-/
import Derived.Test.YthcjmmpkgljjhaaGreatDoorRows
import GoSem.ClaimSeven
namespace Go.Proofs.YthcjmmpkgljjhaaGreatDoor
namespace Rows

/-- THE TIED CARD OF 'laws.FnExactStripComments'. -/
def fnExactStripCommentsCard : Claim7 := { stood := { row := fnExactStripCommentsRow, standIns := [], harness := (true, "62459bddf2c98f256bed07e63d6db53281414d7ecab50997a98168261923784b"), looks := false }, kinds := [], alts := [], laidByText := true, laidKinds := [.data], laidTests := true, laidLooks := .later }
def FnExactStripCommentsCardSaid : Prop := Claim7.holds Tryz.pinned (.plain (OpenSpec.ofChange fnExactStripCommentsSpec)) fnExactStripCommentsCard

/-- THE SECOND FORM's CARD OF 'laws.FnExactStripComments'. -/
def fnExactStripCommentsUptoCard : Claim7 := { stood := { row := fnExactStripCommentsUptoRow, standIns := [], harness := (true, "62459bddf2c98f256bed07e63d6db53281414d7ecab50997a98168261923784b"), looks := false }, kinds := [], alts := [], laidByText := true, laidKinds := [.data], laidTests := true, laidLooks := .later }
def FnExactStripCommentsUptoCardSaid : Prop := Claim7.holds Tryz.pinned (.plain (OpenSpec.upto fnExactStripCommentsSpec)) fnExactStripCommentsUptoCard
end Rows
end Go.Proofs.YthcjmmpkgljjhaaGreatDoor
