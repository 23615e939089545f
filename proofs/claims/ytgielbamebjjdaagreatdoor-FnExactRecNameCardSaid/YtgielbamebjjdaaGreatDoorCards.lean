/-
  DERIVED. GIVEN WITH THE SEED: THE CARDS: each row of YtgielbamebjjdaaGreatDoorRows.lean that lists a variable, with what it lists TIED to the program's text (the seventh form; the later family's looks); each row that meets fmt, with fmt's text TOLD by the authors' own Lean function (tested against real Go, not proved from fmt's source: count such statements apart). THE CARD IS WHAT COUNTS. Prove the row's statement (the work); the ties are given (YtgielbamebjjdaaGreatDoorTie.lean); close each card by the builder's one call (the guide's Derived/Test/ToyasCard.lean, 'card_holds'). Laid BY PROGRAM, IN A SANDBOX (cutbox-door.mjs). By AI agents, Wed Nov 11 2026. No macro, syntax, notation, axiom, sorry.
-/
import Derived.Test.YtgielbamebjjdaaGreatDoorRows
import GoSem.ClaimSeven
namespace Go.Proofs.YtgielbamebjjdaaGreatDoor
namespace Rows

/-- THE TIED CARD OF 'laws.FnSpines'. -/
def fnSpinesCard : Claim7 := { stood := { row := fnSpinesRow, standIns := [], harness := (true, "52c0a56dd1f92efe0f9a34364dd49209cc843f07a724c03e5be36cd85ca7d859"), looks := true }, kinds := [], alts := [], laidByText := true, laidKinds := [.data, .data, .data, .sentinel, .sentinel], laidTests := true, laidLooks := .later }
def FnSpinesCardSaid : Prop := Claim7.holds Tryz.pinned (.plain (OpenSpec.ofChange fnSpinesSpec)) fnSpinesCard

/-- THE TIED CARD OF 'laws.FnShapes'. -/
def fnShapesCard : Claim7 := { stood := { row := fnShapesRow, standIns := [], harness := (true, "52c0a56dd1f92efe0f9a34364dd49209cc843f07a724c03e5be36cd85ca7d859"), looks := true }, kinds := [], alts := [], laidByText := true, laidKinds := [.data, .data, .data, .data, .sentinel, .sentinel, .pinned], laidTests := true, laidLooks := .later }
def FnShapesCardSaid : Prop := Claim7.holds Tryz.pinned (.plain (OpenSpec.ofChange fnShapesSpec)) fnShapesCard

/-- THE TIED CARD OF 'laws.FnExactRecName'. -/
def fnExactRecNameCard : Claim7 := { stood := { row := fnExactRecNameRow, standIns := [], harness := (true, "52c0a56dd1f92efe0f9a34364dd49209cc843f07a724c03e5be36cd85ca7d859"), looks := true }, kinds := [], alts := [], laidByText := true, laidKinds := [.data, .data, .data, .data, .sentinel, .sentinel, .pinned], laidTests := true, laidLooks := .later }
def FnExactRecNameCardSaid : Prop := Claim7.holds Tryz.pinned (.plain (OpenSpec.ofChange fnExactRecNameSpec)) fnExactRecNameCard

/-- THE TIED CARD OF 'laws.FnExactNamesOf'. -/
def fnExactNamesOfCard : Claim7 := { stood := { row := fnExactNamesOfRow, standIns := [], harness := (true, "52c0a56dd1f92efe0f9a34364dd49209cc843f07a724c03e5be36cd85ca7d859"), looks := true }, kinds := [], alts := [], laidByText := true, laidKinds := [.data, .data, .data, .data, .sentinel, .sentinel, .pinned], laidTests := true, laidLooks := .later }
def FnExactNamesOfCardSaid : Prop := Claim7.holds Tryz.pinned (.plain (OpenSpec.ofChange fnExactNamesOfSpec)) fnExactNamesOfCard

/-- THE TIED CARD OF 'laws.FnExactArgShape'. -/
def fnExactArgShapeCard : Claim7 := { stood := { row := fnExactArgShapeRow, standIns := [], harness := (true, "52c0a56dd1f92efe0f9a34364dd49209cc843f07a724c03e5be36cd85ca7d859"), looks := true }, kinds := [], alts := [], laidByText := true, laidKinds := [.data, .data, .data, .sentinel, .sentinel], laidTests := true, laidLooks := .later }
def FnExactArgShapeCardSaid : Prop := Claim7.holds Tryz.pinned (.plain (OpenSpec.ofChange fnExactArgShapeSpec)) fnExactArgShapeCard

/-- THE TIED CARD OF 'laws.FnExactShapesOf'. -/
def fnExactShapesOfCard : Claim7 := { stood := { row := fnExactShapesOfRow, standIns := [], harness := (true, "52c0a56dd1f92efe0f9a34364dd49209cc843f07a724c03e5be36cd85ca7d859"), looks := true }, kinds := [], alts := [], laidByText := true, laidKinds := [.data, .data, .data, .data, .sentinel, .sentinel, .pinned], laidTests := true, laidLooks := .later }
def FnExactShapesOfCardSaid : Prop := Claim7.holds Tryz.pinned (.plain (OpenSpec.ofChange fnExactShapesOfSpec)) fnExactShapesOfCard

/-- THE TIED CARD OF 'laws.FnExactResultOk'. -/
def fnExactResultOkCard : Claim7 := { stood := { row := fnExactResultOkRow, standIns := [], harness := (true, "52c0a56dd1f92efe0f9a34364dd49209cc843f07a724c03e5be36cd85ca7d859"), looks := true }, kinds := [], alts := [], laidByText := true, laidKinds := [.data, .data, .data, .data, .sentinel, .sentinel, .pinned], laidTests := true, laidLooks := .later }
def FnExactResultOkCardSaid : Prop := Claim7.holds Tryz.pinned (.plain (OpenSpec.ofChange fnExactResultOkSpec)) fnExactResultOkCard

/-- THE TIED CARD OF 'laws.FnExactPositive'. -/
def fnExactPositiveCard : Claim7 := { stood := { row := fnExactPositiveRow, standIns := [], harness := (true, "52c0a56dd1f92efe0f9a34364dd49209cc843f07a724c03e5be36cd85ca7d859"), looks := true }, kinds := [], alts := [], laidByText := true, laidKinds := [.data, .data, .data, .data, .sentinel, .sentinel, .pinned], laidTests := true, laidLooks := .later }
def FnExactPositiveCardSaid : Prop := Claim7.holds Tryz.pinned (.plain (OpenSpec.ofChange fnExactPositiveSpec)) fnExactPositiveCard

/-- THE TIED CARD OF 'laws.FnExactLargeOk'. -/
def fnExactLargeOkCard : Claim7 := { stood := { row := fnExactLargeOkRow, standIns := [], harness := (true, "52c0a56dd1f92efe0f9a34364dd49209cc843f07a724c03e5be36cd85ca7d859"), looks := true }, kinds := [], alts := [], laidByText := true, laidKinds := [.data, .data, .data, .data, .sentinel, .sentinel, .pinned], laidTests := true, laidLooks := .later }
def FnExactLargeOkCardSaid : Prop := Claim7.holds Tryz.pinned (.plain (OpenSpec.ofChange fnExactLargeOkSpec)) fnExactLargeOkCard

/-- THE SECOND FORM's CARD OF 'laws.FnSpines'. -/
def fnSpinesUptoCard : Claim7 := { stood := { row := fnSpinesUptoRow, standIns := [], harness := (true, "52c0a56dd1f92efe0f9a34364dd49209cc843f07a724c03e5be36cd85ca7d859"), looks := true }, kinds := [], alts := [], laidByText := true, laidKinds := [.data, .data, .data, .sentinel, .sentinel], laidTests := true, laidLooks := .later }
def FnSpinesUptoCardSaid : Prop := Claim7.holds Tryz.pinned (.plain (OpenSpec.upto fnSpinesSpec)) fnSpinesUptoCard

/-- THE SECOND FORM's CARD OF 'laws.FnShapes'. -/
def fnShapesUptoCard : Claim7 := { stood := { row := fnShapesUptoRow, standIns := [], harness := (true, "52c0a56dd1f92efe0f9a34364dd49209cc843f07a724c03e5be36cd85ca7d859"), looks := true }, kinds := [], alts := [], laidByText := true, laidKinds := [.data, .data, .data, .data, .sentinel, .sentinel, .pinned], laidTests := true, laidLooks := .later }
def FnShapesUptoCardSaid : Prop := Claim7.holds Tryz.pinned (.plain (OpenSpec.upto fnShapesSpec)) fnShapesUptoCard

/-- THE SECOND FORM's CARD OF 'laws.FnExactRecName'. -/
def fnExactRecNameUptoCard : Claim7 := { stood := { row := fnExactRecNameUptoRow, standIns := [], harness := (true, "52c0a56dd1f92efe0f9a34364dd49209cc843f07a724c03e5be36cd85ca7d859"), looks := true }, kinds := [], alts := [], laidByText := true, laidKinds := [.data, .data, .data, .data, .sentinel, .sentinel, .pinned], laidTests := true, laidLooks := .later }
def FnExactRecNameUptoCardSaid : Prop := Claim7.holds Tryz.pinned (.plain (OpenSpec.upto fnExactRecNameSpec)) fnExactRecNameUptoCard

/-- THE SECOND FORM's CARD OF 'laws.FnExactNamesOf'. -/
def fnExactNamesOfUptoCard : Claim7 := { stood := { row := fnExactNamesOfUptoRow, standIns := [], harness := (true, "52c0a56dd1f92efe0f9a34364dd49209cc843f07a724c03e5be36cd85ca7d859"), looks := true }, kinds := [], alts := [], laidByText := true, laidKinds := [.data, .data, .data, .data, .sentinel, .sentinel, .pinned], laidTests := true, laidLooks := .later }
def FnExactNamesOfUptoCardSaid : Prop := Claim7.holds Tryz.pinned (.plain (OpenSpec.upto fnExactNamesOfSpec)) fnExactNamesOfUptoCard

/-- THE SECOND FORM's CARD OF 'laws.FnExactArgShape'. -/
def fnExactArgShapeUptoCard : Claim7 := { stood := { row := fnExactArgShapeUptoRow, standIns := [], harness := (true, "52c0a56dd1f92efe0f9a34364dd49209cc843f07a724c03e5be36cd85ca7d859"), looks := true }, kinds := [], alts := [], laidByText := true, laidKinds := [.data, .data, .data, .sentinel, .sentinel], laidTests := true, laidLooks := .later }
def FnExactArgShapeUptoCardSaid : Prop := Claim7.holds Tryz.pinned (.plain (OpenSpec.upto fnExactArgShapeSpec)) fnExactArgShapeUptoCard

/-- THE SECOND FORM's CARD OF 'laws.FnExactShapesOf'. -/
def fnExactShapesOfUptoCard : Claim7 := { stood := { row := fnExactShapesOfUptoRow, standIns := [], harness := (true, "52c0a56dd1f92efe0f9a34364dd49209cc843f07a724c03e5be36cd85ca7d859"), looks := true }, kinds := [], alts := [], laidByText := true, laidKinds := [.data, .data, .data, .data, .sentinel, .sentinel, .pinned], laidTests := true, laidLooks := .later }
def FnExactShapesOfUptoCardSaid : Prop := Claim7.holds Tryz.pinned (.plain (OpenSpec.upto fnExactShapesOfSpec)) fnExactShapesOfUptoCard

/-- THE SECOND FORM's CARD OF 'laws.FnExactResultOk'. -/
def fnExactResultOkUptoCard : Claim7 := { stood := { row := fnExactResultOkUptoRow, standIns := [], harness := (true, "52c0a56dd1f92efe0f9a34364dd49209cc843f07a724c03e5be36cd85ca7d859"), looks := true }, kinds := [], alts := [], laidByText := true, laidKinds := [.data, .data, .data, .data, .sentinel, .sentinel, .pinned], laidTests := true, laidLooks := .later }
def FnExactResultOkUptoCardSaid : Prop := Claim7.holds Tryz.pinned (.plain (OpenSpec.upto fnExactResultOkSpec)) fnExactResultOkUptoCard

/-- THE SECOND FORM's CARD OF 'laws.FnExactPositive'. -/
def fnExactPositiveUptoCard : Claim7 := { stood := { row := fnExactPositiveUptoRow, standIns := [], harness := (true, "52c0a56dd1f92efe0f9a34364dd49209cc843f07a724c03e5be36cd85ca7d859"), looks := true }, kinds := [], alts := [], laidByText := true, laidKinds := [.data, .data, .data, .data, .sentinel, .sentinel, .pinned], laidTests := true, laidLooks := .later }
def FnExactPositiveUptoCardSaid : Prop := Claim7.holds Tryz.pinned (.plain (OpenSpec.upto fnExactPositiveSpec)) fnExactPositiveUptoCard

/-- THE SECOND FORM's CARD OF 'laws.FnExactLargeOk'. -/
def fnExactLargeOkUptoCard : Claim7 := { stood := { row := fnExactLargeOkUptoRow, standIns := [], harness := (true, "52c0a56dd1f92efe0f9a34364dd49209cc843f07a724c03e5be36cd85ca7d859"), looks := true }, kinds := [], alts := [], laidByText := true, laidKinds := [.data, .data, .data, .data, .sentinel, .sentinel, .pinned], laidTests := true, laidLooks := .later }
def FnExactLargeOkUptoCardSaid : Prop := Claim7.holds Tryz.pinned (.plain (OpenSpec.upto fnExactLargeOkSpec)) fnExactLargeOkUptoCard
end Rows
end Go.Proofs.YtgielbamebjjdaaGreatDoor
