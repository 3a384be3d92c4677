/-
  DERIVED. GIVEN WITH THE SEED: THE CARDS: each row of YtbaakhpmfljgnaaDoorRows.lean that lists a variable, with what it lists TIED to the program's text (the seventh form; the later family's looks); each row that meets fmt, with fmt's text TOLD by the authors' own Lean function (tested against real Go, not proved from fmt's source: count such statements apart). THE CARD IS WHAT COUNTS. Prove the row's statement (the work); the ties are given (YtbaakhpmfljgnaaDoorTie.lean); close each card by the builder's one call (the guide's Derived/Test/ToyasCard.lean, 'card_holds'). Laid BY PROGRAM, IN A SANDBOX (cutbox-door.mjs). By AI agents, Wed Nov 11 2026. No macro, syntax, notation, axiom, sorry.
-/
import Derived.Test.YtbaakhpmfljgnaaDoorRows
import GoSem.ClaimSeven
namespace Go.Proofs.YtbaakhpmfljgnaaDoor
namespace Rows

/-- THE TIED CARD OF 'laws.FnExactLinkOk'. -/
def fnExactLinkOkCard : Claim7 := { stood := { row := fnExactLinkOkRow, standIns := [], harness := (true, "5470d2c6490e50b886638697fa65bc32b65c72c504edb14832d8e71ffac9d81b"), looks := true }, kinds := [], alts := [], laidByText := true, laidKinds := [.handle], laidTests := true, laidLooks := .later }
def FnExactLinkOkCardSaid : Prop := Claim7.holds Tryd.pinned (.plain (OpenSpec.ofChange fnExactLinkOkSpec)) fnExactLinkOkCard

/-- THE SECOND FORM's CARD OF 'laws.FnExactLinkOk'. -/
def fnExactLinkOkUptoCard : Claim7 := { stood := { row := fnExactLinkOkUptoRow, standIns := [], harness := (true, "5470d2c6490e50b886638697fa65bc32b65c72c504edb14832d8e71ffac9d81b"), looks := true }, kinds := [], alts := [], laidByText := true, laidKinds := [.handle], laidTests := true, laidLooks := .later }
def FnExactLinkOkUptoCardSaid : Prop := Claim7.holds Tryd.pinned (.plain (OpenSpec.upto fnExactLinkOkSpec)) fnExactLinkOkUptoCard
end Rows
end Go.Proofs.YtbaakhpmfljgnaaDoor
