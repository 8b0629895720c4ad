/-
  DERIVED. GIVEN WITH THE SEED: THE CARDS: each row of YtdhdbjjeepcimabDoorRows.lean that lists a variable, with what it lists TIED to the program's text (the seventh form; the later family's looks); each row that meets fmt, with fmt's text TOLD by the authors' own Lean function (tested against real Go, not proved from fmt's source: count such statements apart). THE CARD IS WHAT COUNTS. Prove the row's statement (the work); the ties are given (YtdhdbjjeepcimabDoorTie.lean); close each card by the builder's one call (the guide's Derived/Test/ToyasCard.lean, 'card_holds'). Laid BY PROGRAM, IN A SANDBOX (cutbox-door.mjs). By AI agents, Wed Nov 11 2026. No macro, syntax, notation, axiom, sorry.
-/
import Derived.Test.YtdhdbjjeepcimabDoorRows
import GoSem.ClaimSeven
namespace Go.Proofs.YtdhdbjjeepcimabDoor
namespace Rows

/-- THE TIED CARD OF 'laws.FnExactEncodeText'. -/
def fnExactEncodeTextCard : Claim7 := { stood := { row := fnExactEncodeTextRow, standIns := [], harness := (true, "9ddc7be2829920b261d5f4a00b332dcfd2f54a92c5231ad53206884e0dd87c9b"), looks := false }, kinds := [], alts := [], laidByText := true, laidKinds := [.data], laidTests := true, laidLooks := .later }
def FnExactEncodeTextCardSaid : Prop := Claim7.holds Tryd.pinned (.plain (OpenSpec.ofChange fnExactEncodeTextSpec)) fnExactEncodeTextCard

/-- THE SECOND FORM's CARD OF 'laws.FnExactEncodeText'. -/
def fnExactEncodeTextUptoCard : Claim7 := { stood := { row := fnExactEncodeTextUptoRow, standIns := [], harness := (true, "9ddc7be2829920b261d5f4a00b332dcfd2f54a92c5231ad53206884e0dd87c9b"), looks := false }, kinds := [], alts := [], laidByText := true, laidKinds := [.data], laidTests := true, laidLooks := .later }
def FnExactEncodeTextUptoCardSaid : Prop := Claim7.holds Tryd.pinned (.plain (OpenSpec.upto fnExactEncodeTextSpec)) fnExactEncodeTextUptoCard
end Rows
end Go.Proofs.YtdhdbjjeepcimabDoor
