/-
  DERIVED. GIVEN WITH THE SEED: THE CARDS: each row of YtfcgpfjmabhmeaaDoorRows.lean that lists a variable, with what it lists TIED to the program's text (the seventh form; the later family's looks); each row that meets fmt, with fmt's text TOLD by the authors' own Lean function (tested against real Go, not proved from fmt's source: count such statements apart). THE CARD IS WHAT COUNTS. Prove the row's statement (the work); the ties are given (YtfcgpfjmabhmeaaDoorTie.lean); close each card by the builder's one call (the guide's Derived/Test/ToyasCard.lean, 'card_holds'). Laid BY PROGRAM, IN A SANDBOX (cutbox-door.mjs). By AI agents, Wed Nov 11 2026. No macro, syntax, notation, axiom, sorry.
-/
import Derived.Test.YtfcgpfjmabhmeaaDoorRows
import GoSem.ClaimSeven
namespace Go.Proofs.YtfcgpfjmabhmeaaDoor
namespace Rows

/-- THE TIED CARD OF 'laws.FnExactGetMsg'. -/
def fnExactGetMsgCard : Claim7 := { stood := { row := fnExactGetMsgRow, standIns := [], harness := (true, "0142ccc880146bb2c38a3d2a2c185dcd65454f86d5f7355f5aa9810c42e60177"), looks := true }, kinds := [], alts := [], laidByText := true, laidKinds := [.handle], laidTests := true, laidLooks := .later }
def FnExactGetMsgCardSaid : Prop := Claim7.holds Tryd.pinned (.plain (OpenSpec.ofChange fnExactGetMsgSpec)) fnExactGetMsgCard

/-- THE TIED CARD OF 'laws.FnExactPackOk'. -/
def fnExactPackOkCard : Claim7 := { stood := { row := fnExactPackOkRow, standIns := [], harness := (true, "0142ccc880146bb2c38a3d2a2c185dcd65454f86d5f7355f5aa9810c42e60177"), looks := true }, kinds := [], alts := [], laidByText := true, laidKinds := [.handle], laidTests := true, laidLooks := .later }
def FnExactPackOkCardSaid : Prop := Claim7.holds Tryd.pinned (.plain (OpenSpec.ofChange fnExactPackOkSpec)) fnExactPackOkCard

/-- THE SECOND FORM's CARD OF 'laws.FnExactGetMsg'. -/
def fnExactGetMsgUptoCard : Claim7 := { stood := { row := fnExactGetMsgUptoRow, standIns := [], harness := (true, "0142ccc880146bb2c38a3d2a2c185dcd65454f86d5f7355f5aa9810c42e60177"), looks := true }, kinds := [], alts := [], laidByText := true, laidKinds := [.handle], laidTests := true, laidLooks := .later }
def FnExactGetMsgUptoCardSaid : Prop := Claim7.holds Tryd.pinned (.plain (OpenSpec.upto fnExactGetMsgSpec)) fnExactGetMsgUptoCard

/-- THE SECOND FORM's CARD OF 'laws.FnExactPackOk'. -/
def fnExactPackOkUptoCard : Claim7 := { stood := { row := fnExactPackOkUptoRow, standIns := [], harness := (true, "0142ccc880146bb2c38a3d2a2c185dcd65454f86d5f7355f5aa9810c42e60177"), looks := true }, kinds := [], alts := [], laidByText := true, laidKinds := [.handle], laidTests := true, laidLooks := .later }
def FnExactPackOkUptoCardSaid : Prop := Claim7.holds Tryd.pinned (.plain (OpenSpec.upto fnExactPackOkSpec)) fnExactPackOkUptoCard
end Rows
end Go.Proofs.YtfcgpfjmabhmeaaDoor
