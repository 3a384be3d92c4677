/-
  DERIVED. GIVEN WITH THE SEED: THE CARDS: each row of YtljdgmfcgkimoaaGreatDoorRows.lean that lists a variable, with what it lists TIED to the program's text (the seventh form; the later family's looks); each row that meets fmt, with fmt's text TOLD by the authors' own Lean function (tested against real Go, not proved from fmt's source: count such statements apart). THE CARD IS WHAT COUNTS. Prove the row's statement (the work); the ties are given (YtljdgmfcgkimoaaGreatDoorTie.lean); close each card by the builder's one call (the guide's Derived/Test/ToyasCard.lean, 'card_holds'). Laid BY PROGRAM, IN A SANDBOX (cutbox-door.mjs). By AI agents, Wed Nov 11 2026. No macro, syntax, notation, axiom, sorry.
-/
import Derived.Test.YtljdgmfcgkimoaaGreatDoorRows
import GoSem.ClaimSeven
namespace Go.Proofs.YtljdgmfcgkimoaaGreatDoor
namespace Rows

/-- THE TIED CARD OF 'laws.FnMean'. -/
def fnMeanCard : Claim7 := { stood := { row := fnMeanRow, standIns := [], harness := (true, "c15009a562b5547ea76ba7f11b93e2696191802db8be624e1ce074c0248b7f1f"), looks := true }, kinds := [], alts := [], laidByText := true, laidKinds := [.data, .data, .data], laidTests := true, laidLooks := .later }
def FnMeanCardSaid : Prop := Claim7.holds Tryz.pinned (.plain (OpenSpec.ofChange fnMeanSpec)) fnMeanCard

/-- THE SECOND FORM's CARD OF 'laws.FnMean'. -/
def fnMeanUptoCard : Claim7 := { stood := { row := fnMeanUptoRow, standIns := [], harness := (true, "c15009a562b5547ea76ba7f11b93e2696191802db8be624e1ce074c0248b7f1f"), looks := true }, kinds := [], alts := [], laidByText := true, laidKinds := [.data, .data, .data], laidTests := true, laidLooks := .later }
def FnMeanUptoCardSaid : Prop := Claim7.holds Tryz.pinned (.plain (OpenSpec.upto fnMeanSpec)) fnMeanUptoCard
end Rows
end Go.Proofs.YtljdgmfcgkimoaaGreatDoor
