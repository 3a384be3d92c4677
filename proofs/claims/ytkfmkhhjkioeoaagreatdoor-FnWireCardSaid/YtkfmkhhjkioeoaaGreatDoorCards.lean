/-
  DERIVED. GIVEN WITH THE SEED: THE CARDS: each row of YtkfmkhhjkioeoaaGreatDoorRows.lean that lists a variable, with what it lists TIED to the program's text (the seventh form; the later family's looks); each row that meets fmt, with fmt's text TOLD by the authors' own Lean function (tested against real Go, not proved from fmt's source: count such statements apart). THE CARD IS WHAT COUNTS. Prove the row's statement (the work); the ties are given (YtkfmkhhjkioeoaaGreatDoorTie.lean); close each card by the builder's one call (the guide's Derived/Test/ToyasCard.lean, 'card_holds'). Laid BY PROGRAM, IN A SANDBOX (cutbox-door.mjs). By AI agents, Wed Nov 11 2026. No macro, syntax, notation, axiom, sorry.
-/
import Derived.Test.YtkfmkhhjkioeoaaGreatDoorRows
import GoSem.ClaimSeven
namespace Go.Proofs.YtkfmkhhjkioeoaaGreatDoor
namespace Rows

/-- THE TIED CARD OF 'laws.FnWire'. -/
def fnWireCard : Claim7 := { stood := { row := fnWireRow, standIns := [], harness := (true, "ab377c4cf754a6bead2e2c0fda9a03ef4fafe5a7d97373a7912d2735abdb83fa"), looks := true }, kinds := [], alts := [], laidByText := true, laidKinds := [.data, .data, .data, .handle], laidTests := true, laidLooks := .later }
def FnWireCardSaid : Prop := Claim7.holds Tryz.pinned (.plain (OpenSpec.ofChange fnWireSpec)) fnWireCard

/-- THE SECOND FORM's CARD OF 'laws.FnWire'. -/
def fnWireUptoCard : Claim7 := { stood := { row := fnWireUptoRow, standIns := [], harness := (true, "ab377c4cf754a6bead2e2c0fda9a03ef4fafe5a7d97373a7912d2735abdb83fa"), looks := true }, kinds := [], alts := [], laidByText := true, laidKinds := [.data, .data, .data, .handle], laidTests := true, laidLooks := .later }
def FnWireUptoCardSaid : Prop := Claim7.holds Tryz.pinned (.plain (OpenSpec.upto fnWireSpec)) fnWireUptoCard
end Rows
end Go.Proofs.YtkfmkhhjkioeoaaGreatDoor
