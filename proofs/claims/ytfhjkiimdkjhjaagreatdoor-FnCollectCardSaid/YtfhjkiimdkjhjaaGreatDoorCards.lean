/-
  DERIVED. GIVEN WITH THE SEED: THE CARDS: each row of YtfhjkiimdkjhjaaGreatDoorRows.lean that lists a variable, with what it lists TIED to the program's text (the seventh form; the later family's looks); each row that meets fmt, with fmt's text TOLD by the authors' own Lean function (tested against real Go, not proved from fmt's source: count such statements apart). THE CARD IS WHAT COUNTS. Prove the row's statement (the work); the ties are given (YtfhjkiimdkjhjaaGreatDoorTie.lean); close each card by the builder's one call (the guide's Derived/Test/ToyasCard.lean, 'card_holds'). Laid BY PROGRAM, IN A SANDBOX (cutbox-door.mjs). By AI agents, Wed Nov 11 2026. No macro, syntax, notation, axiom, sorry.
-/
import Derived.Test.YtfhjkiimdkjhjaaGreatDoorRows
import GoSem.ClaimSeven
namespace Go.Proofs.YtfhjkiimdkjhjaaGreatDoor
namespace Rows

/-- THE TIED CARD OF 'laws.FnCollect'. -/
def fnCollectCard : Claim7 := { stood := { row := fnCollectRow, standIns := [], harness := (true, "05b6be6cd1be4d125c71fe0d41fdc5f3c5143d7c1b4e4a1e33c5a29ba4ac68d7"), looks := true }, kinds := [], alts := [], laidByText := true, laidKinds := [.data, .data, .data], laidTests := true, laidLooks := .later }
def FnCollectCardSaid : Prop := Claim7.holds Tryz.pinned (.plain (OpenSpec.ofChange fnCollectSpec)) fnCollectCard

/-- THE SECOND FORM's CARD OF 'laws.FnCollect'. -/
def fnCollectUptoCard : Claim7 := { stood := { row := fnCollectUptoRow, standIns := [], harness := (true, "05b6be6cd1be4d125c71fe0d41fdc5f3c5143d7c1b4e4a1e33c5a29ba4ac68d7"), looks := true }, kinds := [], alts := [], laidByText := true, laidKinds := [.data, .data, .data], laidTests := true, laidLooks := .later }
def FnCollectUptoCardSaid : Prop := Claim7.holds Tryz.pinned (.plain (OpenSpec.upto fnCollectSpec)) fnCollectUptoCard
end Rows
end Go.Proofs.YtfhjkiimdkjhjaaGreatDoor
