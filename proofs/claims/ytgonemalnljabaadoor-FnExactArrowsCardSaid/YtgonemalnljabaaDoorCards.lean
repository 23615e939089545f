/-
  DERIVED. GIVEN WITH THE SEED: THE CARDS: each row of YtgonemalnljabaaDoorRows.lean that lists a variable, with what it lists TIED to the program's text (the seventh form; the later family's looks); each row that meets fmt, with fmt's text TOLD by the authors' own Lean function (tested against real Go, not proved from fmt's source: count such statements apart). THE CARD IS WHAT COUNTS. Prove the row's statement (the work); the ties are given (YtgonemalnljabaaDoorTie.lean); close each card by the builder's one call (the guide's Derived/Test/ToyasCard.lean, 'card_holds'). Laid BY PROGRAM, IN A SANDBOX (cutbox-door.mjs). By AI agents, Wed Nov 11 2026. No macro, syntax, notation, axiom, sorry.
-/
import Derived.Test.YtgonemalnljabaaDoorRows
import GoSem.ClaimSeven
namespace Go.Proofs.YtgonemalnljabaaDoor
namespace Rows

/-- THE TIED CARD OF 'laws.FnExactArrows'. -/
def fnExactArrowsCard : Claim7 := { stood := { row := fnExactArrowsRow, standIns := [], harness := (true, "f4151f31332bded74f910b959f028bf3a99b4506ed8e3ad22c16e70c91900a3c"), looks := true }, kinds := [], alts := [], laidByText := true, laidKinds := [.data, .data, .data, .sentinel, .sentinel], laidTests := true, laidLooks := .later }
def FnExactArrowsCardSaid : Prop := Claim7.holds Tryd.pinned (.plain (OpenSpec.ofChange fnExactArrowsSpec)) fnExactArrowsCard

/-- THE SECOND FORM's CARD OF 'laws.FnExactArrows'. -/
def fnExactArrowsUptoCard : Claim7 := { stood := { row := fnExactArrowsUptoRow, standIns := [], harness := (true, "f4151f31332bded74f910b959f028bf3a99b4506ed8e3ad22c16e70c91900a3c"), looks := true }, kinds := [], alts := [], laidByText := true, laidKinds := [.data, .data, .data, .sentinel, .sentinel], laidTests := true, laidLooks := .later }
def FnExactArrowsUptoCardSaid : Prop := Claim7.holds Tryd.pinned (.plain (OpenSpec.upto fnExactArrowsSpec)) fnExactArrowsUptoCard
end Rows
end Go.Proofs.YtgonemalnljabaaDoor
