/-
  DERIVED. GIVEN WITH THE SEED: THE CARDS: each row of YtgielbamebjjdaaDoorRows.lean that lists a variable, with what it lists TIED to the program's text (the seventh form; the later family's looks); each row that meets fmt, with fmt's text TOLD by the authors' own Lean function (tested against real Go, not proved from fmt's source: count such statements apart). THE CARD IS WHAT COUNTS. Prove the row's statement (the work); the ties are given (YtgielbamebjjdaaDoorTie.lean); close each card by the builder's one call (the guide's Derived/Test/ToyasCard.lean, 'card_holds'). Laid BY PROGRAM, IN A SANDBOX (cutbox-door.mjs). By AI agents, Wed Nov 11 2026. No macro, syntax, notation, axiom, sorry.
-/
import Derived.Test.YtgielbamebjjdaaDoorRows
import GoSem.ClaimSeven
namespace Go.Proofs.YtgielbamebjjdaaDoor
namespace Rows

/-- THE TIED CARD OF 'laws.FnExactHasName'. -/
def fnExactHasNameCard : Claim7 := { stood := { row := fnExactHasNameRow, standIns := [], harness := (true, "44f04659c3ad53f0a69b45f50b84ce35ac35a0af84243c3c9c3dce2982f1f7f8"), looks := true }, kinds := [], alts := [], laidByText := true, laidKinds := [.data, .data, .data, .sentinel, .sentinel], laidTests := true, laidLooks := .later }
def FnExactHasNameCardSaid : Prop := Claim7.holds Tryd.pinned (.plain (OpenSpec.ofChange fnExactHasNameSpec)) fnExactHasNameCard

/-- THE SECOND FORM's CARD OF 'laws.FnExactHasName'. -/
def fnExactHasNameUptoCard : Claim7 := { stood := { row := fnExactHasNameUptoRow, standIns := [], harness := (true, "44f04659c3ad53f0a69b45f50b84ce35ac35a0af84243c3c9c3dce2982f1f7f8"), looks := true }, kinds := [], alts := [], laidByText := true, laidKinds := [.data, .data, .data, .sentinel, .sentinel], laidTests := true, laidLooks := .later }
def FnExactHasNameUptoCardSaid : Prop := Claim7.holds Tryd.pinned (.plain (OpenSpec.upto fnExactHasNameSpec)) fnExactHasNameUptoCard
end Rows
end Go.Proofs.YtgielbamebjjdaaDoor
