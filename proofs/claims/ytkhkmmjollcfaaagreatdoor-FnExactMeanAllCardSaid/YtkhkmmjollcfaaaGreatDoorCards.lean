/-
  DERIVED. GIVEN WITH THE SEED: THE CARDS: each row of YtkhkmmjollcfaaaGreatDoorRows.lean that lists a variable, with what it lists TIED to the program's text (the seventh form; the later family's looks); each row that meets fmt, with fmt's text TOLD by the authors' own Lean function (tested against real Go, not proved from fmt's source: count such statements apart). THE CARD IS WHAT COUNTS. Prove the row's statement (the work); the ties are given (YtkhkmmjollcfaaaGreatDoorTie.lean); close each card by the builder's one call (the guide's Derived/Test/ToyasCard.lean, 'card_holds'). Laid BY PROGRAM, IN A SANDBOX (cutbox-door.mjs). By AI agents, Wed Nov 11 2026. No macro, syntax, notation, axiom, sorry.
-/
import Derived.Test.YtkhkmmjollcfaaaGreatDoorRows
import GoSem.ClaimSeven
namespace Go.Proofs.YtkhkmmjollcfaaaGreatDoor
namespace Rows

/-- THE TIED CARD OF 'laws.FnExactMean'. -/
def fnExactMeanCard : Claim7 := { stood := { row := fnExactMeanRow, standIns := [], harness := (true, "f73eb11ae460004442696bfa2ad64417a1565792d810d80a9b28bec0fe8ad690"), looks := true }, kinds := [], alts := [], laidByText := true, laidKinds := [.data, .data, .data], laidTests := true, laidLooks := .later }
def FnExactMeanCardSaid : Prop := Claim7.holds Tryz.pinned (.plain (OpenSpec.ofChange fnExactMeanSpec)) fnExactMeanCard

/-- THE TIED CARD OF 'laws.FnExactMeanAll'. -/
def fnExactMeanAllCard : Claim7 := { stood := { row := fnExactMeanAllRow, standIns := [], harness := (true, "f73eb11ae460004442696bfa2ad64417a1565792d810d80a9b28bec0fe8ad690"), looks := true }, kinds := [], alts := [], laidByText := true, laidKinds := [.data, .data, .data], laidTests := true, laidLooks := .later }
def FnExactMeanAllCardSaid : Prop := Claim7.holds Tryz.pinned (.plain (OpenSpec.ofChange fnExactMeanAllSpec)) fnExactMeanAllCard

/-- THE SECOND FORM's CARD OF 'laws.FnExactMean'. -/
def fnExactMeanUptoCard : Claim7 := { stood := { row := fnExactMeanUptoRow, standIns := [], harness := (true, "f73eb11ae460004442696bfa2ad64417a1565792d810d80a9b28bec0fe8ad690"), looks := true }, kinds := [], alts := [], laidByText := true, laidKinds := [.data, .data, .data], laidTests := true, laidLooks := .later }
def FnExactMeanUptoCardSaid : Prop := Claim7.holds Tryz.pinned (.plain (OpenSpec.upto fnExactMeanSpec)) fnExactMeanUptoCard

/-- THE SECOND FORM's CARD OF 'laws.FnExactMeanAll'. -/
def fnExactMeanAllUptoCard : Claim7 := { stood := { row := fnExactMeanAllUptoRow, standIns := [], harness := (true, "f73eb11ae460004442696bfa2ad64417a1565792d810d80a9b28bec0fe8ad690"), looks := true }, kinds := [], alts := [], laidByText := true, laidKinds := [.data, .data, .data], laidTests := true, laidLooks := .later }
def FnExactMeanAllUptoCardSaid : Prop := Claim7.holds Tryz.pinned (.plain (OpenSpec.upto fnExactMeanAllSpec)) fnExactMeanAllUptoCard
end Rows
end Go.Proofs.YtkhkmmjollcfaaaGreatDoor
