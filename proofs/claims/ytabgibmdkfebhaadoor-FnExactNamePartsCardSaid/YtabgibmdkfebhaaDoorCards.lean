/-
  DERIVED. GIVEN WITH THE SEED: THE CARDS: each row of YtabgibmdkfebhaaDoorRows.lean that lists a variable, with what it lists TIED to the program's text (the seventh form; the later family's looks); each row that meets fmt, with fmt's text TOLD by the authors' own Lean function (tested against real Go, not proved from fmt's source: count such statements apart). THE CARD IS WHAT COUNTS. Prove the row's statement (the work); the ties are given (YtabgibmdkfebhaaDoorTie.lean); close each card by the builder's one call (the guide's Derived/Test/ToyasCard.lean, 'card_holds'). Laid BY PROGRAM, IN A SANDBOX (cutbox-door.mjs). By AI agents, Wed Nov 11 2026. No macro, syntax, notation, axiom, sorry.
-/
import Derived.Test.YtabgibmdkfebhaaDoorRows
import GoSem.ClaimSeven
namespace Go.Proofs.YtabgibmdkfebhaaDoor
namespace Rows

/-- THE TIED CARD OF 'laws.FnExactNameParts'. -/
def fnExactNamePartsCard : Claim7 := { stood := { row := fnExactNamePartsRow, standIns := [], harness := (true, "f6818dd5a16886f7f31578df3ab1b1d94363335cf046319f3d78b866285ddc6a"), looks := false }, kinds := [], alts := [], laidByText := true, laidKinds := [.data, .pinned], laidTests := true, laidLooks := .later }
def FnExactNamePartsCardSaid : Prop := Claim7.holds Tryd.pinned (.plain (OpenSpec.ofChange fnExactNamePartsSpec)) fnExactNamePartsCard

/-- THE SECOND FORM's CARD OF 'laws.FnExactNameParts'. -/
def fnExactNamePartsUptoCard : Claim7 := { stood := { row := fnExactNamePartsUptoRow, standIns := [], harness := (true, "f6818dd5a16886f7f31578df3ab1b1d94363335cf046319f3d78b866285ddc6a"), looks := false }, kinds := [], alts := [], laidByText := true, laidKinds := [.data, .pinned], laidTests := true, laidLooks := .later }
def FnExactNamePartsUptoCardSaid : Prop := Claim7.holds Tryd.pinned (.plain (OpenSpec.upto fnExactNamePartsSpec)) fnExactNamePartsUptoCard
end Rows
end Go.Proofs.YtabgibmdkfebhaaDoor
