/-
  DERIVED. GIVEN WITH THE SEED: THE CARDS: each row of YtgppcegcpiaocaaGreatDoorRows.lean that lists a variable, with what it lists TIED to the program's text (the seventh form; the later family's looks); each row that meets fmt, with fmt's text TOLD by the authors' own Lean function (tested against real Go, not proved from fmt's source: count such statements apart). THE CARD IS WHAT COUNTS. Prove the row's statement (the work); the ties are given (YtgppcegcpiaocaaGreatDoorTie.lean); close each card by the builder's one call (the guide's Derived/Test/ToyasCard.lean, 'card_holds'). Laid BY PROGRAM, IN A SANDBOX (cutbox-door.mjs). By AI agents, Wed Nov 11 2026. No macro, syntax, notation, axiom, sorry.
-/
import Derived.Test.YtgppcegcpiaocaaGreatDoorRows
import GoSem.ClaimSeven
namespace Go.Proofs.YtgppcegcpiaocaaGreatDoor
namespace Rows

/-- THE TIED CARD OF 'laws.FnEnvs'. -/
def fnEnvsCard : Claim7 := { stood := { row := fnEnvsRow, standIns := [], harness := (true, "c71d63c5e0d2f947e94ec17dab134b9674c9c181b01fcdacd060e0fedfd4e984"), looks := true }, kinds := [], alts := [], laidByText := true, laidKinds := [.data, .data, .data, .data, .sentinel, .sentinel, .pinned], laidTests := true, laidLooks := .later }
def FnEnvsCardSaid : Prop := Claim7.holds Tryz.pinned (.plain (OpenSpec.ofChange fnEnvsSpec)) fnEnvsCard

/-- THE SECOND FORM's CARD OF 'laws.FnEnvs'. -/
def fnEnvsUptoCard : Claim7 := { stood := { row := fnEnvsUptoRow, standIns := [], harness := (true, "c71d63c5e0d2f947e94ec17dab134b9674c9c181b01fcdacd060e0fedfd4e984"), looks := true }, kinds := [], alts := [], laidByText := true, laidKinds := [.data, .data, .data, .data, .sentinel, .sentinel, .pinned], laidTests := true, laidLooks := .later }
def FnEnvsUptoCardSaid : Prop := Claim7.holds Tryz.pinned (.plain (OpenSpec.upto fnEnvsSpec)) fnEnvsUptoCard
end Rows
end Go.Proofs.YtgppcegcpiaocaaGreatDoor
