/-
  DERIVED. GIVEN WITH THE SEED: THE CARDS: each row of YtdhdbjjeepcimaaDoorRows.lean that lists a variable, with what it lists TIED to the program's text (the seventh form; the later family's looks); each row that meets fmt, with fmt's text TOLD by the authors' own Lean function (tested against real Go, not proved from fmt's source: count such statements apart). THE CARD IS WHAT COUNTS. Prove the row's statement (the work); the ties are given (YtdhdbjjeepcimaaDoorTie.lean); close each card by the builder's one call (the guide's Derived/Test/ToyasCard.lean, 'card_holds'). Laid BY PROGRAM, IN A SANDBOX (cutbox-door.mjs). By AI agents, Wed Nov 11 2026. No macro, syntax, notation, axiom, sorry.
-/
import Derived.Test.YtdhdbjjeepcimaaDoorRows
import GoSem.ClaimSeven
namespace Go.Proofs.YtdhdbjjeepcimaaDoor
namespace Rows

/-- THE TIED CARD OF 'laws.FnExactTextWidth'. -/
def fnExactTextWidthCard : Claim7 := { stood := { row := fnExactTextWidthRow, standIns := [], harness := (true, "715eeb6b78c1d2acdeba2a0d57de975c17a6b31dd9b2aecb74ae6ca1244dd508"), looks := false }, kinds := [], alts := [], laidByText := true, laidKinds := [.data], laidTests := true, laidLooks := .later }
def FnExactTextWidthCardSaid : Prop := Claim7.holds Tryd.pinned (.plain (OpenSpec.ofChange fnExactTextWidthSpec)) fnExactTextWidthCard

/-- THE TIED CARD OF 'laws.FnExactDecodeText'. -/
def fnExactDecodeTextCard : Claim7 := { stood := { row := fnExactDecodeTextRow, standIns := [], harness := (true, "715eeb6b78c1d2acdeba2a0d57de975c17a6b31dd9b2aecb74ae6ca1244dd508"), looks := false }, kinds := [], alts := [], laidByText := true, laidKinds := [.data], laidTests := true, laidLooks := .later }
def FnExactDecodeTextCardSaid : Prop := Claim7.holds Tryd.pinned (.plain (OpenSpec.ofChange fnExactDecodeTextSpec)) fnExactDecodeTextCard

/-- THE SECOND FORM's CARD OF 'laws.FnExactTextWidth'. -/
def fnExactTextWidthUptoCard : Claim7 := { stood := { row := fnExactTextWidthUptoRow, standIns := [], harness := (true, "715eeb6b78c1d2acdeba2a0d57de975c17a6b31dd9b2aecb74ae6ca1244dd508"), looks := false }, kinds := [], alts := [], laidByText := true, laidKinds := [.data], laidTests := true, laidLooks := .later }
def FnExactTextWidthUptoCardSaid : Prop := Claim7.holds Tryd.pinned (.plain (OpenSpec.upto fnExactTextWidthSpec)) fnExactTextWidthUptoCard

/-- THE SECOND FORM's CARD OF 'laws.FnExactDecodeText'. -/
def fnExactDecodeTextUptoCard : Claim7 := { stood := { row := fnExactDecodeTextUptoRow, standIns := [], harness := (true, "715eeb6b78c1d2acdeba2a0d57de975c17a6b31dd9b2aecb74ae6ca1244dd508"), looks := false }, kinds := [], alts := [], laidByText := true, laidKinds := [.data], laidTests := true, laidLooks := .later }
def FnExactDecodeTextUptoCardSaid : Prop := Claim7.holds Tryd.pinned (.plain (OpenSpec.upto fnExactDecodeTextSpec)) fnExactDecodeTextUptoCard
end Rows
end Go.Proofs.YtdhdbjjeepcimaaDoor
