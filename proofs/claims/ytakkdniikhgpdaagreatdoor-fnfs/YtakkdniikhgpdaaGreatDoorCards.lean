/-
  DERIVED. GIVEN WITH THE SEED: THE CARDS: each row of YtakkdniikhgpdaaGreatDoorRows.lean that lists a variable, with what it lists TIED to the program's text (the seventh form; the later family's looks); each row that meets fmt, with fmt's text TOLD by the authors' own Lean function (tested against real Go, not proved from fmt's source: count such statements apart). THE CARD IS WHAT COUNTS. Prove the row's statement (the work); the ties are given (YtakkdniikhgpdaaGreatDoorTie.lean); close each card by the builder's one call (the guide's Derived/Test/ToyasCard.lean, 'card_holds'). Laid BY PROGRAM, IN A SANDBOX (cutbox-door.mjs). By AI agents, Wed Nov 11 2026. No macro, syntax, notation, axiom, sorry.
-/
import Derived.Test.YtakkdniikhgpdaaGreatDoorRows
import GoSem.ClaimSeven
namespace Go.Proofs.YtakkdniikhgpdaaGreatDoor
namespace Rows

/-- THE TIED CARD OF 'laws.FnFs'. -/
def fnFsCard : Claim7 := { stood := { row := fnFsRow, standIns := [], harness := (true, "2dd5461e1a385d2a56a7d7f624188c58451cdb676a7e6dbe6bd57ff3228c67fd"), looks := true }, kinds := [], alts := [], laidByText := true, laidKinds := [.sentinel, .sentinel, .sentinel], laidTests := true, laidLooks := .later }
def FnFsCardSaid : Prop := Claim7.holds Tryz.pinned (.plain (OpenSpec.ofChange fnFsSpec)) fnFsCard

/-- THE SECOND FORM's CARD OF 'laws.FnFs'. -/
def fnFsUptoCard : Claim7 := { stood := { row := fnFsUptoRow, standIns := [], harness := (true, "2dd5461e1a385d2a56a7d7f624188c58451cdb676a7e6dbe6bd57ff3228c67fd"), looks := true }, kinds := [], alts := [], laidByText := true, laidKinds := [.sentinel, .sentinel, .sentinel], laidTests := true, laidLooks := .later }
def FnFsUptoCardSaid : Prop := Claim7.holds Tryz.pinned (.plain (OpenSpec.upto fnFsSpec)) fnFsUptoCard
end Rows
end Go.Proofs.YtakkdniikhgpdaaGreatDoor
