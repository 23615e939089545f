/-
  DERIVED. GIVEN WITH THE SEED: THE CARDS: each row of YtnklajagefedmaaGreatDoorRows.lean that lists a variable, with what it lists TIED to the program's text (the seventh form; the later family's looks); each row that meets fmt, with fmt's text TOLD by the authors' own Lean function (tested against real Go, not proved from fmt's source: count such statements apart). THE CARD IS WHAT COUNTS. Prove the row's statement (the work); the ties are given (YtnklajagefedmaaGreatDoorTie.lean); close each card by the builder's one call (the guide's Derived/Test/ToyasCard.lean, 'card_holds'). Laid BY PROGRAM, IN A SANDBOX (cutbox-door.mjs). By AI agents, Wed Nov 11 2026. No macro, syntax, notation, axiom, sorry.
-/
import Derived.Test.YtnklajagefedmaaGreatDoorRows
import GoSem.ClaimSeven
namespace Go.Proofs.YtnklajagefedmaaGreatDoor
namespace Rows

/-- THE TIED CARD OF 'laws.FnExactTermLevels'. -/
def fnExactTermLevelsCard : Claim7 := { stood := { row := fnExactTermLevelsRow, standIns := [], harness := (true, "b3f511606e9c312a7c03a28f6cf4ac4abb222bb2d1e624d1a6dab1858504ec42"), looks := true }, kinds := [], alts := [], laidByText := true, laidKinds := [.data, .data, .data, .sentinel, .sentinel], laidTests := true, laidLooks := .later }
def FnExactTermLevelsCardSaid : Prop := Claim7.holds Tryz.pinned (.plain (OpenSpec.ofChange fnExactTermLevelsSpec)) fnExactTermLevelsCard

/-- THE SECOND FORM's CARD OF 'laws.FnExactTermLevels'. -/
def fnExactTermLevelsUptoCard : Claim7 := { stood := { row := fnExactTermLevelsUptoRow, standIns := [], harness := (true, "b3f511606e9c312a7c03a28f6cf4ac4abb222bb2d1e624d1a6dab1858504ec42"), looks := true }, kinds := [], alts := [], laidByText := true, laidKinds := [.data, .data, .data, .sentinel, .sentinel], laidTests := true, laidLooks := .later }
def FnExactTermLevelsUptoCardSaid : Prop := Claim7.holds Tryz.pinned (.plain (OpenSpec.upto fnExactTermLevelsSpec)) fnExactTermLevelsUptoCard
end Rows
end Go.Proofs.YtnklajagefedmaaGreatDoor
