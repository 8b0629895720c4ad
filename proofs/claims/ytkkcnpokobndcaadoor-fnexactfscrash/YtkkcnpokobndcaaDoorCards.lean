/-
  DERIVED. GIVEN WITH THE SEED: THE CARDS: each row of YtkkcnpokobndcaaDoorRows.lean that lists a variable, with what it lists TIED to the program's text (the seventh form; the later family's looks); each row that meets fmt, with fmt's text TOLD by the authors' own Lean function (tested against real Go, not proved from fmt's source: count such statements apart). THE CARD IS WHAT COUNTS. Prove the row's statement (the work); the ties are given (YtkkcnpokobndcaaDoorTie.lean); close each card by the builder's one call (the guide's Derived/Test/ToyasCard.lean, 'card_holds'). Laid BY PROGRAM, IN A SANDBOX (cutbox-door.mjs). By AI agents, Wed Nov 11 2026. No macro, syntax, notation, axiom, sorry.
-/
import Derived.Test.YtkkcnpokobndcaaDoorRows
import GoSem.ClaimSeven
namespace Go.Proofs.YtkkcnpokobndcaaDoor
namespace Rows

/-- THE TIED CARD OF 'laws.FnExactFsRead'. -/
def fnExactFsReadCard : Claim7 := { stood := { row := fnExactFsReadRow, standIns := [], harness := (true, "133bdfc37f54ea4d1d2862e6167c679dc111fb02bb6607401761b46f039bdf0e"), looks := true }, kinds := [], alts := [], laidByText := true, laidKinds := [.sentinel, .sentinel, .sentinel], laidTests := true, laidLooks := .later }
def FnExactFsReadCardSaid : Prop := Claim7.holds Tryd.pinned (.plain (OpenSpec.ofChange fnExactFsReadSpec)) fnExactFsReadCard

/-- THE TIED CARD OF 'laws.FnExactFsCrash'. -/
def fnExactFsCrashCard : Claim7 := { stood := { row := fnExactFsCrashRow, standIns := [], harness := (true, "133bdfc37f54ea4d1d2862e6167c679dc111fb02bb6607401761b46f039bdf0e"), looks := true }, kinds := [], alts := [], laidByText := true, laidKinds := [.sentinel, .sentinel, .sentinel], laidTests := true, laidLooks := .later }
def FnExactFsCrashCardSaid : Prop := Claim7.holds Tryd.pinned (.plain (OpenSpec.ofChange fnExactFsCrashSpec)) fnExactFsCrashCard

/-- THE TIED CARD OF 'laws.FnExactFsWrite'. -/
def fnExactFsWriteCard : Claim7 := { stood := { row := fnExactFsWriteRow, standIns := [], harness := (true, "133bdfc37f54ea4d1d2862e6167c679dc111fb02bb6607401761b46f039bdf0e"), looks := true }, kinds := [], alts := [], laidByText := true, laidKinds := [.sentinel, .sentinel], laidTests := true, laidLooks := .later }
def FnExactFsWriteCardSaid : Prop := Claim7.holds Tryd.pinned (.plain (OpenSpec.ofChange fnExactFsWriteSpec)) fnExactFsWriteCard

/-- THE TIED CARD OF 'laws.FnExactFsRemove'. -/
def fnExactFsRemoveCard : Claim7 := { stood := { row := fnExactFsRemoveRow, standIns := [], harness := (true, "133bdfc37f54ea4d1d2862e6167c679dc111fb02bb6607401761b46f039bdf0e"), looks := true }, kinds := [], alts := [], laidByText := true, laidKinds := [.sentinel, .sentinel], laidTests := true, laidLooks := .later }
def FnExactFsRemoveCardSaid : Prop := Claim7.holds Tryd.pinned (.plain (OpenSpec.ofChange fnExactFsRemoveSpec)) fnExactFsRemoveCard

/-- THE TIED CARD OF 'laws.FnExactFsSync'. -/
def fnExactFsSyncCard : Claim7 := { stood := { row := fnExactFsSyncRow, standIns := [], harness := (true, "133bdfc37f54ea4d1d2862e6167c679dc111fb02bb6607401761b46f039bdf0e"), looks := true }, kinds := [], alts := [], laidByText := true, laidKinds := [.sentinel, .sentinel], laidTests := true, laidLooks := .later }
def FnExactFsSyncCardSaid : Prop := Claim7.holds Tryd.pinned (.plain (OpenSpec.ofChange fnExactFsSyncSpec)) fnExactFsSyncCard

/-- THE SECOND FORM's CARD OF 'laws.FnExactFsRead'. -/
def fnExactFsReadUptoCard : Claim7 := { stood := { row := fnExactFsReadUptoRow, standIns := [], harness := (true, "133bdfc37f54ea4d1d2862e6167c679dc111fb02bb6607401761b46f039bdf0e"), looks := true }, kinds := [], alts := [], laidByText := true, laidKinds := [.sentinel, .sentinel, .sentinel], laidTests := true, laidLooks := .later }
def FnExactFsReadUptoCardSaid : Prop := Claim7.holds Tryd.pinned (.plain (OpenSpec.upto fnExactFsReadSpec)) fnExactFsReadUptoCard

/-- THE SECOND FORM's CARD OF 'laws.FnExactFsCrash'. -/
def fnExactFsCrashUptoCard : Claim7 := { stood := { row := fnExactFsCrashUptoRow, standIns := [], harness := (true, "133bdfc37f54ea4d1d2862e6167c679dc111fb02bb6607401761b46f039bdf0e"), looks := true }, kinds := [], alts := [], laidByText := true, laidKinds := [.sentinel, .sentinel, .sentinel], laidTests := true, laidLooks := .later }
def FnExactFsCrashUptoCardSaid : Prop := Claim7.holds Tryd.pinned (.plain (OpenSpec.upto fnExactFsCrashSpec)) fnExactFsCrashUptoCard

/-- THE SECOND FORM's CARD OF 'laws.FnExactFsWrite'. -/
def fnExactFsWriteUptoCard : Claim7 := { stood := { row := fnExactFsWriteUptoRow, standIns := [], harness := (true, "133bdfc37f54ea4d1d2862e6167c679dc111fb02bb6607401761b46f039bdf0e"), looks := true }, kinds := [], alts := [], laidByText := true, laidKinds := [.sentinel, .sentinel], laidTests := true, laidLooks := .later }
def FnExactFsWriteUptoCardSaid : Prop := Claim7.holds Tryd.pinned (.plain (OpenSpec.upto fnExactFsWriteSpec)) fnExactFsWriteUptoCard

/-- THE SECOND FORM's CARD OF 'laws.FnExactFsRemove'. -/
def fnExactFsRemoveUptoCard : Claim7 := { stood := { row := fnExactFsRemoveUptoRow, standIns := [], harness := (true, "133bdfc37f54ea4d1d2862e6167c679dc111fb02bb6607401761b46f039bdf0e"), looks := true }, kinds := [], alts := [], laidByText := true, laidKinds := [.sentinel, .sentinel], laidTests := true, laidLooks := .later }
def FnExactFsRemoveUptoCardSaid : Prop := Claim7.holds Tryd.pinned (.plain (OpenSpec.upto fnExactFsRemoveSpec)) fnExactFsRemoveUptoCard

/-- THE SECOND FORM's CARD OF 'laws.FnExactFsSync'. -/
def fnExactFsSyncUptoCard : Claim7 := { stood := { row := fnExactFsSyncUptoRow, standIns := [], harness := (true, "133bdfc37f54ea4d1d2862e6167c679dc111fb02bb6607401761b46f039bdf0e"), looks := true }, kinds := [], alts := [], laidByText := true, laidKinds := [.sentinel, .sentinel], laidTests := true, laidLooks := .later }
def FnExactFsSyncUptoCardSaid : Prop := Claim7.holds Tryd.pinned (.plain (OpenSpec.upto fnExactFsSyncSpec)) fnExactFsSyncUptoCard
end Rows
end Go.Proofs.YtkkcnpokobndcaaDoor
