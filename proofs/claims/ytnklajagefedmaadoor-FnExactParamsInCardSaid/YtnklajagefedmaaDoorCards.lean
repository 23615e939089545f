/-
  DERIVED. GIVEN WITH THE SEED: THE CARDS: each row of YtnklajagefedmaaDoorRows.lean that lists a variable, with what it lists TIED to the program's text (the seventh form; the later family's looks); each row that meets fmt, with fmt's text TOLD by the authors' own Lean function (tested against real Go, not proved from fmt's source: count such statements apart). THE CARD IS WHAT COUNTS. Prove the row's statement (the work); the ties are given (YtnklajagefedmaaDoorTie.lean); close each card by the builder's one call (the guide's Derived/Test/ToyasCard.lean, 'card_holds'). Laid BY PROGRAM, IN A SANDBOX (cutbox-door.mjs). By AI agents, Wed Nov 11 2026. No macro, syntax, notation, axiom, sorry.
-/
import Derived.Test.YtnklajagefedmaaDoorRows
import GoSem.ClaimSeven
namespace Go.Proofs.YtnklajagefedmaaDoor
namespace Rows

/-- THE TIED CARD OF 'laws.FnTerms'. -/
def fnTermsCard : Claim7 := { stood := { row := fnTermsRow, standIns := [], harness := (true, "fca4794bd6009d9b478f5646312cbbcf648b155736f5a28f311550898f212341"), looks := true }, kinds := [], alts := [], laidByText := true, laidKinds := [.data, .data, .data, .sentinel, .sentinel], laidTests := true, laidLooks := .later }
def FnTermsCardSaid : Prop := Claim7.holds Tryd.pinned (.plain (OpenSpec.ofChange fnTermsSpec)) fnTermsCard

/-- THE TIED CARD OF 'laws.FnLifts'. -/
def fnLiftsCard : Claim7 := { stood := { row := fnLiftsRow, standIns := [], harness := (true, "fca4794bd6009d9b478f5646312cbbcf648b155736f5a28f311550898f212341"), looks := true }, kinds := [], alts := [], laidByText := true, laidKinds := [.data, .data, .data, .sentinel, .sentinel], laidTests := true, laidLooks := .later }
def FnLiftsCardSaid : Prop := Claim7.holds Tryd.pinned (.plain (OpenSpec.ofChange fnLiftsSpec)) fnLiftsCard

/-- THE TIED CARD OF 'laws.FnExactTermOk'. -/
def fnExactTermOkCard : Claim7 := { stood := { row := fnExactTermOkRow, standIns := [], harness := (true, "fca4794bd6009d9b478f5646312cbbcf648b155736f5a28f311550898f212341"), looks := true }, kinds := [], alts := [], laidByText := true, laidKinds := [.data, .data, .data, .sentinel, .sentinel], laidTests := true, laidLooks := .later }
def FnExactTermOkCardSaid : Prop := Claim7.holds Tryd.pinned (.plain (OpenSpec.ofChange fnExactTermOkSpec)) fnExactTermOkCard

/-- THE TIED CARD OF 'laws.FnExactTermKind'. -/
def fnExactTermKindCard : Claim7 := { stood := { row := fnExactTermKindRow, standIns := [], harness := (true, "fca4794bd6009d9b478f5646312cbbcf648b155736f5a28f311550898f212341"), looks := true }, kinds := [], alts := [], laidByText := true, laidKinds := [.data, .data, .data, .sentinel, .sentinel], laidTests := true, laidLooks := .later }
def FnExactTermKindCardSaid : Prop := Claim7.holds Tryd.pinned (.plain (OpenSpec.ofChange fnExactTermKindSpec)) fnExactTermKindCard

/-- THE TIED CARD OF 'laws.FnExactTermParts'. -/
def fnExactTermPartsCard : Claim7 := { stood := { row := fnExactTermPartsRow, standIns := [], harness := (true, "fca4794bd6009d9b478f5646312cbbcf648b155736f5a28f311550898f212341"), looks := true }, kinds := [], alts := [], laidByText := true, laidKinds := [.data, .data, .data, .sentinel, .sentinel], laidTests := true, laidLooks := .later }
def FnExactTermPartsCardSaid : Prop := Claim7.holds Tryd.pinned (.plain (OpenSpec.ofChange fnExactTermPartsSpec)) fnExactTermPartsCard

/-- THE TIED CARD OF 'laws.FnExactTermSize'. -/
def fnExactTermSizeCard : Claim7 := { stood := { row := fnExactTermSizeRow, standIns := [], harness := (true, "fca4794bd6009d9b478f5646312cbbcf648b155736f5a28f311550898f212341"), looks := true }, kinds := [], alts := [], laidByText := true, laidKinds := [.data, .data, .data, .sentinel, .sentinel], laidTests := true, laidLooks := .later }
def FnExactTermSizeCardSaid : Prop := Claim7.holds Tryd.pinned (.plain (OpenSpec.ofChange fnExactTermSizeSpec)) fnExactTermSizeCard

/-- THE TIED CARD OF 'laws.FnExactTermOpen'. -/
def fnExactTermOpenCard : Claim7 := { stood := { row := fnExactTermOpenRow, standIns := [], harness := (true, "fca4794bd6009d9b478f5646312cbbcf648b155736f5a28f311550898f212341"), looks := true }, kinds := [], alts := [], laidByText := true, laidKinds := [.data, .data, .data, .sentinel, .sentinel], laidTests := true, laidLooks := .later }
def FnExactTermOpenCardSaid : Prop := Claim7.holds Tryd.pinned (.plain (OpenSpec.ofChange fnExactTermOpenSpec)) fnExactTermOpenCard

/-- THE TIED CARD OF 'laws.FnExactConstIn'. -/
def fnExactConstInCard : Claim7 := { stood := { row := fnExactConstInRow, standIns := [], harness := (true, "fca4794bd6009d9b478f5646312cbbcf648b155736f5a28f311550898f212341"), looks := true }, kinds := [], alts := [], laidByText := true, laidKinds := [.data, .data, .data, .sentinel, .sentinel], laidTests := true, laidLooks := .later }
def FnExactConstInCardSaid : Prop := Claim7.holds Tryd.pinned (.plain (OpenSpec.ofChange fnExactConstInSpec)) fnExactConstInCard

/-- THE TIED CARD OF 'laws.FnExactLifted'. -/
def fnExactLiftedCard : Claim7 := { stood := { row := fnExactLiftedRow, standIns := [], harness := (true, "fca4794bd6009d9b478f5646312cbbcf648b155736f5a28f311550898f212341"), looks := true }, kinds := [], alts := [], laidByText := true, laidKinds := [.data, .data, .data, .sentinel, .sentinel], laidTests := true, laidLooks := .later }
def FnExactLiftedCardSaid : Prop := Claim7.holds Tryd.pinned (.plain (OpenSpec.ofChange fnExactLiftedSpec)) fnExactLiftedCard

/-- THE TIED CARD OF 'laws.FnExactParamsIn'. -/
def fnExactParamsInCard : Claim7 := { stood := { row := fnExactParamsInRow, standIns := [], harness := (true, "fca4794bd6009d9b478f5646312cbbcf648b155736f5a28f311550898f212341"), looks := true }, kinds := [], alts := [], laidByText := true, laidKinds := [.data, .data, .data, .sentinel, .sentinel], laidTests := true, laidLooks := .later }
def FnExactParamsInCardSaid : Prop := Claim7.holds Tryd.pinned (.plain (OpenSpec.ofChange fnExactParamsInSpec)) fnExactParamsInCard

/-- THE SECOND FORM's CARD OF 'laws.FnTerms'. -/
def fnTermsUptoCard : Claim7 := { stood := { row := fnTermsUptoRow, standIns := [], harness := (true, "fca4794bd6009d9b478f5646312cbbcf648b155736f5a28f311550898f212341"), looks := true }, kinds := [], alts := [], laidByText := true, laidKinds := [.data, .data, .data, .sentinel, .sentinel], laidTests := true, laidLooks := .later }
def FnTermsUptoCardSaid : Prop := Claim7.holds Tryd.pinned (.plain (OpenSpec.upto fnTermsSpec)) fnTermsUptoCard

/-- THE SECOND FORM's CARD OF 'laws.FnLifts'. -/
def fnLiftsUptoCard : Claim7 := { stood := { row := fnLiftsUptoRow, standIns := [], harness := (true, "fca4794bd6009d9b478f5646312cbbcf648b155736f5a28f311550898f212341"), looks := true }, kinds := [], alts := [], laidByText := true, laidKinds := [.data, .data, .data, .sentinel, .sentinel], laidTests := true, laidLooks := .later }
def FnLiftsUptoCardSaid : Prop := Claim7.holds Tryd.pinned (.plain (OpenSpec.upto fnLiftsSpec)) fnLiftsUptoCard

/-- THE SECOND FORM's CARD OF 'laws.FnExactTermOk'. -/
def fnExactTermOkUptoCard : Claim7 := { stood := { row := fnExactTermOkUptoRow, standIns := [], harness := (true, "fca4794bd6009d9b478f5646312cbbcf648b155736f5a28f311550898f212341"), looks := true }, kinds := [], alts := [], laidByText := true, laidKinds := [.data, .data, .data, .sentinel, .sentinel], laidTests := true, laidLooks := .later }
def FnExactTermOkUptoCardSaid : Prop := Claim7.holds Tryd.pinned (.plain (OpenSpec.upto fnExactTermOkSpec)) fnExactTermOkUptoCard

/-- THE SECOND FORM's CARD OF 'laws.FnExactTermKind'. -/
def fnExactTermKindUptoCard : Claim7 := { stood := { row := fnExactTermKindUptoRow, standIns := [], harness := (true, "fca4794bd6009d9b478f5646312cbbcf648b155736f5a28f311550898f212341"), looks := true }, kinds := [], alts := [], laidByText := true, laidKinds := [.data, .data, .data, .sentinel, .sentinel], laidTests := true, laidLooks := .later }
def FnExactTermKindUptoCardSaid : Prop := Claim7.holds Tryd.pinned (.plain (OpenSpec.upto fnExactTermKindSpec)) fnExactTermKindUptoCard

/-- THE SECOND FORM's CARD OF 'laws.FnExactTermParts'. -/
def fnExactTermPartsUptoCard : Claim7 := { stood := { row := fnExactTermPartsUptoRow, standIns := [], harness := (true, "fca4794bd6009d9b478f5646312cbbcf648b155736f5a28f311550898f212341"), looks := true }, kinds := [], alts := [], laidByText := true, laidKinds := [.data, .data, .data, .sentinel, .sentinel], laidTests := true, laidLooks := .later }
def FnExactTermPartsUptoCardSaid : Prop := Claim7.holds Tryd.pinned (.plain (OpenSpec.upto fnExactTermPartsSpec)) fnExactTermPartsUptoCard

/-- THE SECOND FORM's CARD OF 'laws.FnExactTermSize'. -/
def fnExactTermSizeUptoCard : Claim7 := { stood := { row := fnExactTermSizeUptoRow, standIns := [], harness := (true, "fca4794bd6009d9b478f5646312cbbcf648b155736f5a28f311550898f212341"), looks := true }, kinds := [], alts := [], laidByText := true, laidKinds := [.data, .data, .data, .sentinel, .sentinel], laidTests := true, laidLooks := .later }
def FnExactTermSizeUptoCardSaid : Prop := Claim7.holds Tryd.pinned (.plain (OpenSpec.upto fnExactTermSizeSpec)) fnExactTermSizeUptoCard

/-- THE SECOND FORM's CARD OF 'laws.FnExactTermOpen'. -/
def fnExactTermOpenUptoCard : Claim7 := { stood := { row := fnExactTermOpenUptoRow, standIns := [], harness := (true, "fca4794bd6009d9b478f5646312cbbcf648b155736f5a28f311550898f212341"), looks := true }, kinds := [], alts := [], laidByText := true, laidKinds := [.data, .data, .data, .sentinel, .sentinel], laidTests := true, laidLooks := .later }
def FnExactTermOpenUptoCardSaid : Prop := Claim7.holds Tryd.pinned (.plain (OpenSpec.upto fnExactTermOpenSpec)) fnExactTermOpenUptoCard

/-- THE SECOND FORM's CARD OF 'laws.FnExactConstIn'. -/
def fnExactConstInUptoCard : Claim7 := { stood := { row := fnExactConstInUptoRow, standIns := [], harness := (true, "fca4794bd6009d9b478f5646312cbbcf648b155736f5a28f311550898f212341"), looks := true }, kinds := [], alts := [], laidByText := true, laidKinds := [.data, .data, .data, .sentinel, .sentinel], laidTests := true, laidLooks := .later }
def FnExactConstInUptoCardSaid : Prop := Claim7.holds Tryd.pinned (.plain (OpenSpec.upto fnExactConstInSpec)) fnExactConstInUptoCard

/-- THE SECOND FORM's CARD OF 'laws.FnExactLifted'. -/
def fnExactLiftedUptoCard : Claim7 := { stood := { row := fnExactLiftedUptoRow, standIns := [], harness := (true, "fca4794bd6009d9b478f5646312cbbcf648b155736f5a28f311550898f212341"), looks := true }, kinds := [], alts := [], laidByText := true, laidKinds := [.data, .data, .data, .sentinel, .sentinel], laidTests := true, laidLooks := .later }
def FnExactLiftedUptoCardSaid : Prop := Claim7.holds Tryd.pinned (.plain (OpenSpec.upto fnExactLiftedSpec)) fnExactLiftedUptoCard

/-- THE SECOND FORM's CARD OF 'laws.FnExactParamsIn'. -/
def fnExactParamsInUptoCard : Claim7 := { stood := { row := fnExactParamsInUptoRow, standIns := [], harness := (true, "fca4794bd6009d9b478f5646312cbbcf648b155736f5a28f311550898f212341"), looks := true }, kinds := [], alts := [], laidByText := true, laidKinds := [.data, .data, .data, .sentinel, .sentinel], laidTests := true, laidLooks := .later }
def FnExactParamsInUptoCardSaid : Prop := Claim7.holds Tryd.pinned (.plain (OpenSpec.upto fnExactParamsInSpec)) fnExactParamsInUptoCard
end Rows
end Go.Proofs.YtnklajagefedmaaDoor
