/-
  DERIVED. GIVEN WITH THE SEED: THE CARDS: each row of YtdcajkgmhimffaaDoorRRRows.lean that lists a variable, with what it lists TIED to the program's text (the seventh form; the later family's looks); each row that meets fmt, with fmt's text TOLD by the authors' own Lean function (tested against real Go, not proved from fmt's source: count such statements apart). THE CARD IS WHAT COUNTS. Prove the row's statement (the work); the ties are given (YtdcajkgmhimffaaDoorRRTie.lean); close each card by the builder's one call (the guide's Derived/Test/ToyasCard.lean, 'card_holds'). Laid BY PROGRAM, IN A SANDBOX (cutbox-door.mjs). By AI agents, Wed Nov 11 2026. No macro, syntax, notation, axiom, sorry.
-/
import Derived.Test.YtdcajkgmhimffaaDoorRRRows
import GoSem.ClaimSeven
namespace Go.Proofs.YtdcajkgmhimffaaDoorRR
namespace Rows

/-- THE TIED CARD OF 'laws.FnExactIsNumber'. -/
def fnExactIsNumberCard : Claim7 := { stood := { row := fnExactIsNumberRow, standIns := [], harness := (true, "08a18f432f569858cd8cc2213c95eada95c5c99ba28f82dd288bbefaf8d6fe6e"), looks := false }, kinds := [], alts := [], laidByText := true, laidKinds := [.data], laidTests := true, laidLooks := .later }
def FnExactIsNumberCardSaid : Prop := Claim7.holds Tryd.pinned (.plain (OpenSpec.ofChange fnExactIsNumberSpec)) fnExactIsNumberCard

/-- THE TIED CARD OF 'laws.FnExactQuoteUnits'. -/
def fnExactQuoteUnitsCard : Claim7 := { stood := { row := fnExactQuoteUnitsRow, standIns := [], harness := (true, "08a18f432f569858cd8cc2213c95eada95c5c99ba28f82dd288bbefaf8d6fe6e"), looks := false }, kinds := [], alts := [], laidByText := true, laidKinds := [.data], laidTests := true, laidLooks := .later }
def FnExactQuoteUnitsCardSaid : Prop := Claim7.holds Tryd.pinned (.plain (OpenSpec.ofChange fnExactQuoteUnitsSpec)) fnExactQuoteUnitsCard

/-- THE SECOND FORM's CARD OF 'laws.FnExactIsNumber'. -/
def fnExactIsNumberUptoCard : Claim7 := { stood := { row := fnExactIsNumberUptoRow, standIns := [], harness := (true, "08a18f432f569858cd8cc2213c95eada95c5c99ba28f82dd288bbefaf8d6fe6e"), looks := false }, kinds := [], alts := [], laidByText := true, laidKinds := [.data], laidTests := true, laidLooks := .later }
def FnExactIsNumberUptoCardSaid : Prop := Claim7.holds Tryd.pinned (.plain (OpenSpec.upto fnExactIsNumberSpec)) fnExactIsNumberUptoCard

/-- THE SECOND FORM's CARD OF 'laws.FnExactQuoteUnits'. -/
def fnExactQuoteUnitsUptoCard : Claim7 := { stood := { row := fnExactQuoteUnitsUptoRow, standIns := [], harness := (true, "08a18f432f569858cd8cc2213c95eada95c5c99ba28f82dd288bbefaf8d6fe6e"), looks := false }, kinds := [], alts := [], laidByText := true, laidKinds := [.data], laidTests := true, laidLooks := .later }
def FnExactQuoteUnitsUptoCardSaid : Prop := Claim7.holds Tryd.pinned (.plain (OpenSpec.upto fnExactQuoteUnitsSpec)) fnExactQuoteUnitsUptoCard
end Rows
end Go.Proofs.YtdcajkgmhimffaaDoorRR
