/-
  DERIVED. GIVEN WITH THE SEED: THE CARDS: each row of YtfcgpfjmabhmeabDoorRows.lean that lists a variable, with what it lists TIED to the program's text (the seventh form; the later family's looks); each row that meets fmt, with fmt's text TOLD by the authors' own Lean function (tested against real Go, not proved from fmt's source: count such statements apart). THE CARD IS WHAT COUNTS. Prove the row's statement (the work); the ties are given (YtfcgpfjmabhmeabDoorTie.lean); close each card by the builder's one call (the guide's Derived/Test/ToyasCard.lean, 'card_holds'). Laid BY PROGRAM, IN A SANDBOX (cutbox-door.mjs). By AI agents, Wed Nov 11 2026. No macro, syntax, notation, axiom, sorry.
-/
import Derived.Test.YtfcgpfjmabhmeabDoorRows
import GoSem.ClaimSeven
namespace Go.Proofs.YtfcgpfjmabhmeabDoor
namespace Rows

/-- THE TIED CARD OF 'laws.FnExactPutPack'. -/
def fnExactPutPackCard : Claim7 := { stood := { row := fnExactPutPackRow, standIns := [], harness := (true, "8955a4a6e07b0d8b7bf28b9d83269cdbba972d85d3d237ca1921e01c903525d2"), looks := true }, kinds := [], alts := [], laidByText := true, laidKinds := [.handle], laidTests := true, laidLooks := .later }
def FnExactPutPackCardSaid : Prop := Claim7.holds Tryd.pinned (.plain (OpenSpec.ofChange fnExactPutPackSpec)) fnExactPutPackCard

/-- THE TIED CARD OF 'laws.FnExactGetPack'. -/
def fnExactGetPackCard : Claim7 := { stood := { row := fnExactGetPackRow, standIns := [], harness := (true, "8955a4a6e07b0d8b7bf28b9d83269cdbba972d85d3d237ca1921e01c903525d2"), looks := true }, kinds := [], alts := [], laidByText := true, laidKinds := [.handle], laidTests := true, laidLooks := .later }
def FnExactGetPackCardSaid : Prop := Claim7.holds Tryd.pinned (.plain (OpenSpec.ofChange fnExactGetPackSpec)) fnExactGetPackCard

/-- THE TIED CARD OF 'laws.FnExactMsgText'. -/
def fnExactMsgTextCard : Claim7 := { stood := { row := fnExactMsgTextRow, standIns := [], harness := (true, "8955a4a6e07b0d8b7bf28b9d83269cdbba972d85d3d237ca1921e01c903525d2"), looks := true }, kinds := [], alts := [], laidByText := true, laidKinds := [.data, .data, .data], laidTests := true, laidLooks := .later }
def FnExactMsgTextCardSaid : Prop := Claim7.holds Tryd.pinned (.plain (OpenSpec.ofChange fnExactMsgTextSpec)) fnExactMsgTextCard

/-- THE SECOND FORM's CARD OF 'laws.FnExactPutPack'. -/
def fnExactPutPackUptoCard : Claim7 := { stood := { row := fnExactPutPackUptoRow, standIns := [], harness := (true, "8955a4a6e07b0d8b7bf28b9d83269cdbba972d85d3d237ca1921e01c903525d2"), looks := true }, kinds := [], alts := [], laidByText := true, laidKinds := [.handle], laidTests := true, laidLooks := .later }
def FnExactPutPackUptoCardSaid : Prop := Claim7.holds Tryd.pinned (.plain (OpenSpec.upto fnExactPutPackSpec)) fnExactPutPackUptoCard

/-- THE SECOND FORM's CARD OF 'laws.FnExactGetPack'. -/
def fnExactGetPackUptoCard : Claim7 := { stood := { row := fnExactGetPackUptoRow, standIns := [], harness := (true, "8955a4a6e07b0d8b7bf28b9d83269cdbba972d85d3d237ca1921e01c903525d2"), looks := true }, kinds := [], alts := [], laidByText := true, laidKinds := [.handle], laidTests := true, laidLooks := .later }
def FnExactGetPackUptoCardSaid : Prop := Claim7.holds Tryd.pinned (.plain (OpenSpec.upto fnExactGetPackSpec)) fnExactGetPackUptoCard

/-- THE SECOND FORM's CARD OF 'laws.FnExactMsgText'. -/
def fnExactMsgTextUptoCard : Claim7 := { stood := { row := fnExactMsgTextUptoRow, standIns := [], harness := (true, "8955a4a6e07b0d8b7bf28b9d83269cdbba972d85d3d237ca1921e01c903525d2"), looks := true }, kinds := [], alts := [], laidByText := true, laidKinds := [.data, .data, .data], laidTests := true, laidLooks := .later }
def FnExactMsgTextUptoCardSaid : Prop := Claim7.holds Tryd.pinned (.plain (OpenSpec.upto fnExactMsgTextSpec)) fnExactMsgTextUptoCard
end Rows
end Go.Proofs.YtfcgpfjmabhmeabDoor
