/-
  DERIVED. GIVEN WITH THE SEED: THE CARDS: each row of YtnehfjnanffjeaaGreatDoorRows.lean that lists a variable, with what it lists TIED to the program's text (the seventh form; the later family's looks); each row that meets fmt, with fmt's text TOLD by the authors' own Lean function (tested against real Go, not proved from fmt's source: count such statements apart). THE CARD IS WHAT COUNTS. Prove the row's statement (the work); the ties are given (YtnehfjnanffjeaaGreatDoorTie.lean); close each card by the builder's one call (the guide's Derived/Test/ToyasCard.lean, 'card_holds'). Laid BY PROGRAM, IN A SANDBOX (cutbox-door.mjs). By AI agents, Wed Nov 11 2026. No macro, syntax, notation, axiom, sorry.
-/
import Derived.Test.YtnehfjnanffjeaaGreatDoorRows
import GoSem.ClaimSeven
namespace Go.Proofs.YtnehfjnanffjeaaGreatDoor
namespace Rows

/-- THE TIED CARD OF 'laws.FnExactLinkSend'. -/
def fnExactLinkSendCard : Claim7 := { stood := { row := fnExactLinkSendRow, standIns := [], harness := (true, "9e2a5cd7cc65578e16227e4963f67932d80c4db9d0df93417e7975ff1f9a3937"), looks := true }, kinds := [], alts := [], laidByText := true, laidKinds := [.handle, .sentinel, .sentinel, .sentinel], laidTests := true, laidLooks := .later }
def FnExactLinkSendCardSaid : Prop := Claim7.holds Tryz.pinned (.plain (OpenSpec.ofChange fnExactLinkSendSpec)) fnExactLinkSendCard

/-- THE TIED CARD OF 'laws.FnExactLinkTake'. -/
def fnExactLinkTakeCard : Claim7 := { stood := { row := fnExactLinkTakeRow, standIns := [], harness := (true, "9e2a5cd7cc65578e16227e4963f67932d80c4db9d0df93417e7975ff1f9a3937"), looks := true }, kinds := [], alts := [], laidByText := true, laidKinds := [.handle, .sentinel, .sentinel, .sentinel, .sentinel], laidTests := true, laidLooks := .later }
def FnExactLinkTakeCardSaid : Prop := Claim7.holds Tryz.pinned (.plain (OpenSpec.ofChange fnExactLinkTakeSpec)) fnExactLinkTakeCard

/-- THE SECOND FORM's CARD OF 'laws.FnExactLinkSend'. -/
def fnExactLinkSendUptoCard : Claim7 := { stood := { row := fnExactLinkSendUptoRow, standIns := [], harness := (true, "9e2a5cd7cc65578e16227e4963f67932d80c4db9d0df93417e7975ff1f9a3937"), looks := true }, kinds := [], alts := [], laidByText := true, laidKinds := [.handle, .sentinel, .sentinel, .sentinel], laidTests := true, laidLooks := .later }
def FnExactLinkSendUptoCardSaid : Prop := Claim7.holds Tryz.pinned (.plain (OpenSpec.upto fnExactLinkSendSpec)) fnExactLinkSendUptoCard

/-- THE SECOND FORM's CARD OF 'laws.FnExactLinkTake'. -/
def fnExactLinkTakeUptoCard : Claim7 := { stood := { row := fnExactLinkTakeUptoRow, standIns := [], harness := (true, "9e2a5cd7cc65578e16227e4963f67932d80c4db9d0df93417e7975ff1f9a3937"), looks := true }, kinds := [], alts := [], laidByText := true, laidKinds := [.handle, .sentinel, .sentinel, .sentinel, .sentinel], laidTests := true, laidLooks := .later }
def FnExactLinkTakeUptoCardSaid : Prop := Claim7.holds Tryz.pinned (.plain (OpenSpec.upto fnExactLinkTakeSpec)) fnExactLinkTakeUptoCard
end Rows
end Go.Proofs.YtnehfjnanffjeaaGreatDoor
