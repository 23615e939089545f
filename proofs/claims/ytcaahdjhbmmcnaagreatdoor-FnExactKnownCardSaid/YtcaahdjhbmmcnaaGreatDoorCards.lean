/-
  DERIVED. GIVEN WITH THE SEED: THE CARDS: each row of YtcaahdjhbmmcnaaGreatDoorRows.lean that lists a variable, with what it lists TIED to the program's text (the seventh form; the later family's looks); each row that meets fmt, with fmt's text TOLD by the authors' own Lean function (tested against real Go, not proved from fmt's source: count such statements apart). THE CARD IS WHAT COUNTS. Prove the row's statement (the work); the ties are given (YtcaahdjhbmmcnaaGreatDoorTie.lean); close each card by the builder's one call (the guide's Derived/Test/ToyasCard.lean, 'card_holds'). Laid BY PROGRAM, IN A SANDBOX (cutbox-door.mjs). By AI agents, Wed Nov 11 2026. No macro, syntax, notation, axiom, sorry.
-/
import Derived.Test.YtcaahdjhbmmcnaaGreatDoorRows
import GoSem.ClaimSeven
namespace Go.Proofs.YtcaahdjhbmmcnaaGreatDoor
namespace Rows

/-- THE TIED CARD OF 'laws.FnExactFoundIn'. -/
def fnExactFoundInCard : Claim7 := { stood := { row := fnExactFoundInRow, standIns := [], harness := (true, "a4a3bcb6103ee229476862f11bb996356ac4055ffdd9e14ce367110dd9b9986a"), looks := true }, kinds := [], alts := [], laidByText := true, laidKinds := [.data, .data, .data, .data, .sentinel, .sentinel, .pinned], laidTests := true, laidLooks := .later }
def FnExactFoundInCardSaid : Prop := Claim7.holds Tryz.pinned (.plain (OpenSpec.ofChange fnExactFoundInSpec)) fnExactFoundInCard

/-- THE TIED CARD OF 'laws.FnExactLevelsFor'. -/
def fnExactLevelsForCard : Claim7 := { stood := { row := fnExactLevelsForRow, standIns := [], harness := (true, "a4a3bcb6103ee229476862f11bb996356ac4055ffdd9e14ce367110dd9b9986a"), looks := true }, kinds := [], alts := [], laidByText := true, laidKinds := [.data, .data, .data, .data, .sentinel, .sentinel, .pinned], laidTests := true, laidLooks := .later }
def FnExactLevelsForCardSaid : Prop := Claim7.holds Tryz.pinned (.plain (OpenSpec.ofChange fnExactLevelsForSpec)) fnExactLevelsForCard

/-- THE TIED CARD OF 'laws.FnExactTypeFor'. -/
def fnExactTypeForCard : Claim7 := { stood := { row := fnExactTypeForRow, standIns := [], harness := (true, "a4a3bcb6103ee229476862f11bb996356ac4055ffdd9e14ce367110dd9b9986a"), looks := true }, kinds := [], alts := [], laidByText := true, laidKinds := [.data, .data, .data, .data, .sentinel, .sentinel, .pinned], laidTests := true, laidLooks := .later }
def FnExactTypeForCardSaid : Prop := Claim7.holds Tryz.pinned (.plain (OpenSpec.ofChange fnExactTypeForSpec)) fnExactTypeForCard

/-- THE TIED CARD OF 'laws.FnExactValueFor'. -/
def fnExactValueForCard : Claim7 := { stood := { row := fnExactValueForRow, standIns := [], harness := (true, "a4a3bcb6103ee229476862f11bb996356ac4055ffdd9e14ce367110dd9b9986a"), looks := true }, kinds := [], alts := [], laidByText := true, laidKinds := [.data, .data, .data, .data, .sentinel, .sentinel, .pinned], laidTests := true, laidLooks := .later }
def FnExactValueForCardSaid : Prop := Claim7.holds Tryz.pinned (.plain (OpenSpec.ofChange fnExactValueForSpec)) fnExactValueForCard

/-- THE TIED CARD OF 'laws.FnExactKnown'. -/
def fnExactKnownCard : Claim7 := { stood := { row := fnExactKnownRow, standIns := [], harness := (true, "a4a3bcb6103ee229476862f11bb996356ac4055ffdd9e14ce367110dd9b9986a"), looks := true }, kinds := [], alts := [], laidByText := true, laidKinds := [.data, .data, .data, .data, .sentinel, .sentinel, .pinned], laidTests := true, laidLooks := .later }
def FnExactKnownCardSaid : Prop := Claim7.holds Tryz.pinned (.plain (OpenSpec.ofChange fnExactKnownSpec)) fnExactKnownCard

/-- THE SECOND FORM's CARD OF 'laws.FnExactFoundIn'. -/
def fnExactFoundInUptoCard : Claim7 := { stood := { row := fnExactFoundInUptoRow, standIns := [], harness := (true, "a4a3bcb6103ee229476862f11bb996356ac4055ffdd9e14ce367110dd9b9986a"), looks := true }, kinds := [], alts := [], laidByText := true, laidKinds := [.data, .data, .data, .data, .sentinel, .sentinel, .pinned], laidTests := true, laidLooks := .later }
def FnExactFoundInUptoCardSaid : Prop := Claim7.holds Tryz.pinned (.plain (OpenSpec.upto fnExactFoundInSpec)) fnExactFoundInUptoCard

/-- THE SECOND FORM's CARD OF 'laws.FnExactLevelsFor'. -/
def fnExactLevelsForUptoCard : Claim7 := { stood := { row := fnExactLevelsForUptoRow, standIns := [], harness := (true, "a4a3bcb6103ee229476862f11bb996356ac4055ffdd9e14ce367110dd9b9986a"), looks := true }, kinds := [], alts := [], laidByText := true, laidKinds := [.data, .data, .data, .data, .sentinel, .sentinel, .pinned], laidTests := true, laidLooks := .later }
def FnExactLevelsForUptoCardSaid : Prop := Claim7.holds Tryz.pinned (.plain (OpenSpec.upto fnExactLevelsForSpec)) fnExactLevelsForUptoCard

/-- THE SECOND FORM's CARD OF 'laws.FnExactTypeFor'. -/
def fnExactTypeForUptoCard : Claim7 := { stood := { row := fnExactTypeForUptoRow, standIns := [], harness := (true, "a4a3bcb6103ee229476862f11bb996356ac4055ffdd9e14ce367110dd9b9986a"), looks := true }, kinds := [], alts := [], laidByText := true, laidKinds := [.data, .data, .data, .data, .sentinel, .sentinel, .pinned], laidTests := true, laidLooks := .later }
def FnExactTypeForUptoCardSaid : Prop := Claim7.holds Tryz.pinned (.plain (OpenSpec.upto fnExactTypeForSpec)) fnExactTypeForUptoCard

/-- THE SECOND FORM's CARD OF 'laws.FnExactValueFor'. -/
def fnExactValueForUptoCard : Claim7 := { stood := { row := fnExactValueForUptoRow, standIns := [], harness := (true, "a4a3bcb6103ee229476862f11bb996356ac4055ffdd9e14ce367110dd9b9986a"), looks := true }, kinds := [], alts := [], laidByText := true, laidKinds := [.data, .data, .data, .data, .sentinel, .sentinel, .pinned], laidTests := true, laidLooks := .later }
def FnExactValueForUptoCardSaid : Prop := Claim7.holds Tryz.pinned (.plain (OpenSpec.upto fnExactValueForSpec)) fnExactValueForUptoCard

/-- THE SECOND FORM's CARD OF 'laws.FnExactKnown'. -/
def fnExactKnownUptoCard : Claim7 := { stood := { row := fnExactKnownUptoRow, standIns := [], harness := (true, "a4a3bcb6103ee229476862f11bb996356ac4055ffdd9e14ce367110dd9b9986a"), looks := true }, kinds := [], alts := [], laidByText := true, laidKinds := [.data, .data, .data, .data, .sentinel, .sentinel, .pinned], laidTests := true, laidLooks := .later }
def FnExactKnownUptoCardSaid : Prop := Claim7.holds Tryz.pinned (.plain (OpenSpec.upto fnExactKnownSpec)) fnExactKnownUptoCard
end Rows
end Go.Proofs.YtcaahdjhbmmcnaaGreatDoor
