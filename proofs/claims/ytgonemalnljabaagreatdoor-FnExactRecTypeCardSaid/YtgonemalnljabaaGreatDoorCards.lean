/-
  DERIVED. GIVEN WITH THE SEED: THE CARDS: each row of YtgonemalnljabaaGreatDoorRows.lean that lists a variable, with what it lists TIED to the program's text (the seventh form; the later family's looks); each row that meets fmt, with fmt's text TOLD by the authors' own Lean function (tested against real Go, not proved from fmt's source: count such statements apart). THE CARD IS WHAT COUNTS. Prove the row's statement (the work); the ties are given (YtgonemalnljabaaGreatDoorTie.lean); close each card by the builder's one call (the guide's Derived/Test/ToyasCard.lean, 'card_holds'). Laid BY PROGRAM, IN A SANDBOX (cutbox-door.mjs). By AI agents, Wed Nov 11 2026. No macro, syntax, notation, axiom, sorry.
-/
import Derived.Test.YtgonemalnljabaaGreatDoorRows
import GoSem.ClaimSeven
namespace Go.Proofs.YtgonemalnljabaaGreatDoor
namespace Rows

/-- THE TIED CARD OF 'laws.FnSpines'. -/
def fnSpinesCard : Claim7 := { stood := { row := fnSpinesRow, standIns := [], harness := (true, "06c6d2c5d9c82e8e4f6741e46d2be53c1dd070d63cdcce965d55f0956b44443e"), looks := true }, kinds := [], alts := [], laidByText := true, laidKinds := [.data, .data, .data, .sentinel, .sentinel], laidTests := true, laidLooks := .later }
def FnSpinesCardSaid : Prop := Claim7.holds Tryz.pinned (.plain (OpenSpec.ofChange fnSpinesSpec)) fnSpinesCard

/-- THE TIED CARD OF 'laws.FnShapes'. -/
def fnShapesCard : Claim7 := { stood := { row := fnShapesRow, standIns := [], harness := (true, "06c6d2c5d9c82e8e4f6741e46d2be53c1dd070d63cdcce965d55f0956b44443e"), looks := true }, kinds := [], alts := [], laidByText := true, laidKinds := [.data, .data, .data, .data, .sentinel, .sentinel, .pinned], laidTests := true, laidLooks := .later }
def FnShapesCardSaid : Prop := Claim7.holds Tryz.pinned (.plain (OpenSpec.ofChange fnShapesSpec)) fnShapesCard

/-- THE TIED CARD OF 'laws.FnRecursors'. -/
def fnRecursorsCard : Claim7 := { stood := { row := fnRecursorsRow, standIns := [], harness := (true, "06c6d2c5d9c82e8e4f6741e46d2be53c1dd070d63cdcce965d55f0956b44443e"), looks := true }, kinds := [], alts := [], laidByText := true, laidKinds := [.data, .data, .data, .data, .sentinel, .sentinel, .pinned], laidTests := true, laidLooks := .later }
def FnRecursorsCardSaid : Prop := Claim7.holds Tryz.pinned (.plain (OpenSpec.ofChange fnRecursorsSpec)) fnRecursorsCard

/-- THE TIED CARD OF 'laws.FnExactSelfConst'. -/
def fnExactSelfConstCard : Claim7 := { stood := { row := fnExactSelfConstRow, standIns := [], harness := (true, "06c6d2c5d9c82e8e4f6741e46d2be53c1dd070d63cdcce965d55f0956b44443e"), looks := true }, kinds := [], alts := [], laidByText := true, laidKinds := [.data, .data, .data, .data, .sentinel, .sentinel, .pinned], laidTests := true, laidLooks := .later }
def FnExactSelfConstCardSaid : Prop := Claim7.holds Tryz.pinned (.plain (OpenSpec.ofChange fnExactSelfConstSpec)) fnExactSelfConstCard

/-- THE TIED CARD OF 'laws.FnExactShapesOf'. -/
def fnExactShapesOfCard : Claim7 := { stood := { row := fnExactShapesOfRow, standIns := [], harness := (true, "06c6d2c5d9c82e8e4f6741e46d2be53c1dd070d63cdcce965d55f0956b44443e"), looks := true }, kinds := [], alts := [], laidByText := true, laidKinds := [.data, .data, .data, .data, .sentinel, .sentinel, .pinned], laidTests := true, laidLooks := .later }
def FnExactShapesOfCardSaid : Prop := Claim7.holds Tryz.pinned (.plain (OpenSpec.ofChange fnExactShapesOfSpec)) fnExactShapesOfCard

/-- THE TIED CARD OF 'laws.FnExactResultOk'. -/
def fnExactResultOkCard : Claim7 := { stood := { row := fnExactResultOkRow, standIns := [], harness := (true, "06c6d2c5d9c82e8e4f6741e46d2be53c1dd070d63cdcce965d55f0956b44443e"), looks := true }, kinds := [], alts := [], laidByText := true, laidKinds := [.data, .data, .data, .data, .sentinel, .sentinel, .pinned], laidTests := true, laidLooks := .later }
def FnExactResultOkCardSaid : Prop := Claim7.holds Tryz.pinned (.plain (OpenSpec.ofChange fnExactResultOkSpec)) fnExactResultOkCard

/-- THE TIED CARD OF 'laws.FnExactPositive'. -/
def fnExactPositiveCard : Claim7 := { stood := { row := fnExactPositiveRow, standIns := [], harness := (true, "06c6d2c5d9c82e8e4f6741e46d2be53c1dd070d63cdcce965d55f0956b44443e"), looks := true }, kinds := [], alts := [], laidByText := true, laidKinds := [.data, .data, .data, .data, .sentinel, .sentinel, .pinned], laidTests := true, laidLooks := .later }
def FnExactPositiveCardSaid : Prop := Claim7.holds Tryz.pinned (.plain (OpenSpec.ofChange fnExactPositiveSpec)) fnExactPositiveCard

/-- THE TIED CARD OF 'laws.FnExactRecLevels'. -/
def fnExactRecLevelsCard : Claim7 := { stood := { row := fnExactRecLevelsRow, standIns := [], harness := (true, "06c6d2c5d9c82e8e4f6741e46d2be53c1dd070d63cdcce965d55f0956b44443e"), looks := true }, kinds := [], alts := [], laidByText := true, laidKinds := [.data, .data, .data, .data, .sentinel, .sentinel, .pinned], laidTests := true, laidLooks := .later }
def FnExactRecLevelsCardSaid : Prop := Claim7.holds Tryz.pinned (.plain (OpenSpec.ofChange fnExactRecLevelsSpec)) fnExactRecLevelsCard

/-- THE TIED CARD OF 'laws.FnExactMotiveSort'. -/
def fnExactMotiveSortCard : Claim7 := { stood := { row := fnExactMotiveSortRow, standIns := [], harness := (true, "06c6d2c5d9c82e8e4f6741e46d2be53c1dd070d63cdcce965d55f0956b44443e"), looks := true }, kinds := [], alts := [], laidByText := true, laidKinds := [.data, .data, .data, .data, .sentinel, .sentinel, .pinned], laidTests := true, laidLooks := .later }
def FnExactMotiveSortCardSaid : Prop := Claim7.holds Tryz.pinned (.plain (OpenSpec.ofChange fnExactMotiveSortSpec)) fnExactMotiveSortCard

/-- THE TIED CARD OF 'laws.FnExactMinorType'. -/
def fnExactMinorTypeCard : Claim7 := { stood := { row := fnExactMinorTypeRow, standIns := [], harness := (true, "06c6d2c5d9c82e8e4f6741e46d2be53c1dd070d63cdcce965d55f0956b44443e"), looks := true }, kinds := [], alts := [], laidByText := true, laidKinds := [.data, .data, .data, .data, .sentinel, .sentinel, .pinned], laidTests := true, laidLooks := .later }
def FnExactMinorTypeCardSaid : Prop := Claim7.holds Tryz.pinned (.plain (OpenSpec.ofChange fnExactMinorTypeSpec)) fnExactMinorTypeCard

/-- THE TIED CARD OF 'laws.FnExactRecType'. -/
def fnExactRecTypeCard : Claim7 := { stood := { row := fnExactRecTypeRow, standIns := [], harness := (true, "06c6d2c5d9c82e8e4f6741e46d2be53c1dd070d63cdcce965d55f0956b44443e"), looks := true }, kinds := [], alts := [], laidByText := true, laidKinds := [.data, .data, .data, .data, .sentinel, .sentinel, .pinned], laidTests := true, laidLooks := .later }
def FnExactRecTypeCardSaid : Prop := Claim7.holds Tryz.pinned (.plain (OpenSpec.ofChange fnExactRecTypeSpec)) fnExactRecTypeCard

/-- THE SECOND FORM's CARD OF 'laws.FnSpines'. -/
def fnSpinesUptoCard : Claim7 := { stood := { row := fnSpinesUptoRow, standIns := [], harness := (true, "06c6d2c5d9c82e8e4f6741e46d2be53c1dd070d63cdcce965d55f0956b44443e"), looks := true }, kinds := [], alts := [], laidByText := true, laidKinds := [.data, .data, .data, .sentinel, .sentinel], laidTests := true, laidLooks := .later }
def FnSpinesUptoCardSaid : Prop := Claim7.holds Tryz.pinned (.plain (OpenSpec.upto fnSpinesSpec)) fnSpinesUptoCard

/-- THE SECOND FORM's CARD OF 'laws.FnShapes'. -/
def fnShapesUptoCard : Claim7 := { stood := { row := fnShapesUptoRow, standIns := [], harness := (true, "06c6d2c5d9c82e8e4f6741e46d2be53c1dd070d63cdcce965d55f0956b44443e"), looks := true }, kinds := [], alts := [], laidByText := true, laidKinds := [.data, .data, .data, .data, .sentinel, .sentinel, .pinned], laidTests := true, laidLooks := .later }
def FnShapesUptoCardSaid : Prop := Claim7.holds Tryz.pinned (.plain (OpenSpec.upto fnShapesSpec)) fnShapesUptoCard

/-- THE SECOND FORM's CARD OF 'laws.FnRecursors'. -/
def fnRecursorsUptoCard : Claim7 := { stood := { row := fnRecursorsUptoRow, standIns := [], harness := (true, "06c6d2c5d9c82e8e4f6741e46d2be53c1dd070d63cdcce965d55f0956b44443e"), looks := true }, kinds := [], alts := [], laidByText := true, laidKinds := [.data, .data, .data, .data, .sentinel, .sentinel, .pinned], laidTests := true, laidLooks := .later }
def FnRecursorsUptoCardSaid : Prop := Claim7.holds Tryz.pinned (.plain (OpenSpec.upto fnRecursorsSpec)) fnRecursorsUptoCard

/-- THE SECOND FORM's CARD OF 'laws.FnExactSelfConst'. -/
def fnExactSelfConstUptoCard : Claim7 := { stood := { row := fnExactSelfConstUptoRow, standIns := [], harness := (true, "06c6d2c5d9c82e8e4f6741e46d2be53c1dd070d63cdcce965d55f0956b44443e"), looks := true }, kinds := [], alts := [], laidByText := true, laidKinds := [.data, .data, .data, .data, .sentinel, .sentinel, .pinned], laidTests := true, laidLooks := .later }
def FnExactSelfConstUptoCardSaid : Prop := Claim7.holds Tryz.pinned (.plain (OpenSpec.upto fnExactSelfConstSpec)) fnExactSelfConstUptoCard

/-- THE SECOND FORM's CARD OF 'laws.FnExactShapesOf'. -/
def fnExactShapesOfUptoCard : Claim7 := { stood := { row := fnExactShapesOfUptoRow, standIns := [], harness := (true, "06c6d2c5d9c82e8e4f6741e46d2be53c1dd070d63cdcce965d55f0956b44443e"), looks := true }, kinds := [], alts := [], laidByText := true, laidKinds := [.data, .data, .data, .data, .sentinel, .sentinel, .pinned], laidTests := true, laidLooks := .later }
def FnExactShapesOfUptoCardSaid : Prop := Claim7.holds Tryz.pinned (.plain (OpenSpec.upto fnExactShapesOfSpec)) fnExactShapesOfUptoCard

/-- THE SECOND FORM's CARD OF 'laws.FnExactResultOk'. -/
def fnExactResultOkUptoCard : Claim7 := { stood := { row := fnExactResultOkUptoRow, standIns := [], harness := (true, "06c6d2c5d9c82e8e4f6741e46d2be53c1dd070d63cdcce965d55f0956b44443e"), looks := true }, kinds := [], alts := [], laidByText := true, laidKinds := [.data, .data, .data, .data, .sentinel, .sentinel, .pinned], laidTests := true, laidLooks := .later }
def FnExactResultOkUptoCardSaid : Prop := Claim7.holds Tryz.pinned (.plain (OpenSpec.upto fnExactResultOkSpec)) fnExactResultOkUptoCard

/-- THE SECOND FORM's CARD OF 'laws.FnExactPositive'. -/
def fnExactPositiveUptoCard : Claim7 := { stood := { row := fnExactPositiveUptoRow, standIns := [], harness := (true, "06c6d2c5d9c82e8e4f6741e46d2be53c1dd070d63cdcce965d55f0956b44443e"), looks := true }, kinds := [], alts := [], laidByText := true, laidKinds := [.data, .data, .data, .data, .sentinel, .sentinel, .pinned], laidTests := true, laidLooks := .later }
def FnExactPositiveUptoCardSaid : Prop := Claim7.holds Tryz.pinned (.plain (OpenSpec.upto fnExactPositiveSpec)) fnExactPositiveUptoCard

/-- THE SECOND FORM's CARD OF 'laws.FnExactRecLevels'. -/
def fnExactRecLevelsUptoCard : Claim7 := { stood := { row := fnExactRecLevelsUptoRow, standIns := [], harness := (true, "06c6d2c5d9c82e8e4f6741e46d2be53c1dd070d63cdcce965d55f0956b44443e"), looks := true }, kinds := [], alts := [], laidByText := true, laidKinds := [.data, .data, .data, .data, .sentinel, .sentinel, .pinned], laidTests := true, laidLooks := .later }
def FnExactRecLevelsUptoCardSaid : Prop := Claim7.holds Tryz.pinned (.plain (OpenSpec.upto fnExactRecLevelsSpec)) fnExactRecLevelsUptoCard

/-- THE SECOND FORM's CARD OF 'laws.FnExactMotiveSort'. -/
def fnExactMotiveSortUptoCard : Claim7 := { stood := { row := fnExactMotiveSortUptoRow, standIns := [], harness := (true, "06c6d2c5d9c82e8e4f6741e46d2be53c1dd070d63cdcce965d55f0956b44443e"), looks := true }, kinds := [], alts := [], laidByText := true, laidKinds := [.data, .data, .data, .data, .sentinel, .sentinel, .pinned], laidTests := true, laidLooks := .later }
def FnExactMotiveSortUptoCardSaid : Prop := Claim7.holds Tryz.pinned (.plain (OpenSpec.upto fnExactMotiveSortSpec)) fnExactMotiveSortUptoCard

/-- THE SECOND FORM's CARD OF 'laws.FnExactMinorType'. -/
def fnExactMinorTypeUptoCard : Claim7 := { stood := { row := fnExactMinorTypeUptoRow, standIns := [], harness := (true, "06c6d2c5d9c82e8e4f6741e46d2be53c1dd070d63cdcce965d55f0956b44443e"), looks := true }, kinds := [], alts := [], laidByText := true, laidKinds := [.data, .data, .data, .data, .sentinel, .sentinel, .pinned], laidTests := true, laidLooks := .later }
def FnExactMinorTypeUptoCardSaid : Prop := Claim7.holds Tryz.pinned (.plain (OpenSpec.upto fnExactMinorTypeSpec)) fnExactMinorTypeUptoCard

/-- THE SECOND FORM's CARD OF 'laws.FnExactRecType'. -/
def fnExactRecTypeUptoCard : Claim7 := { stood := { row := fnExactRecTypeUptoRow, standIns := [], harness := (true, "06c6d2c5d9c82e8e4f6741e46d2be53c1dd070d63cdcce965d55f0956b44443e"), looks := true }, kinds := [], alts := [], laidByText := true, laidKinds := [.data, .data, .data, .data, .sentinel, .sentinel, .pinned], laidTests := true, laidLooks := .later }
def FnExactRecTypeUptoCardSaid : Prop := Claim7.holds Tryz.pinned (.plain (OpenSpec.upto fnExactRecTypeSpec)) fnExactRecTypeUptoCard
end Rows
end Go.Proofs.YtgonemalnljabaaGreatDoor
