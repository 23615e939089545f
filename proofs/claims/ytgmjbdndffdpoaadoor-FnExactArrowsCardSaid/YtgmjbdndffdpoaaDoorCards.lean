/-
  DERIVED. GIVEN WITH THE SEED: THE CARDS: each row of YtgmjbdndffdpoaaDoorRows.lean that lists a variable, with what it lists TIED to the program's text (the seventh form; the later family's looks); each row that meets fmt, with fmt's text TOLD by the authors' own Lean function (tested against real Go, not proved from fmt's source: count such statements apart). THE CARD IS WHAT COUNTS. Prove the row's statement (the work); the ties are given (YtgmjbdndffdpoaaDoorTie.lean); close each card by the builder's one call (the guide's Derived/Test/ToyasCard.lean, 'card_holds'). Laid BY PROGRAM, IN A SANDBOX (cutbox-door.mjs). By AI agents, Wed Nov 11 2026. No macro, syntax, notation, axiom, sorry.
-/
import Derived.Test.YtgmjbdndffdpoaaDoorRows
import GoSem.ClaimSeven
namespace Go.Proofs.YtgmjbdndffdpoaaDoor
namespace Rows

/-- THE TIED CARD OF 'laws.FnExactHeadOf'. -/
def fnExactHeadOfCard : Claim7 := { stood := { row := fnExactHeadOfRow, standIns := [], harness := (true, "5a6af86427a258902bf471d84bd446091217b212554a73258f0d07ac7a5833f4"), looks := true }, kinds := [], alts := [], laidByText := true, laidKinds := [.data, .data, .data, .sentinel, .sentinel], laidTests := true, laidLooks := .later }
def FnExactHeadOfCardSaid : Prop := Claim7.holds Tryd.pinned (.plain (OpenSpec.ofChange fnExactHeadOfSpec)) fnExactHeadOfCard

/-- THE TIED CARD OF 'laws.FnExactArgsOf'. -/
def fnExactArgsOfCard : Claim7 := { stood := { row := fnExactArgsOfRow, standIns := [], harness := (true, "5a6af86427a258902bf471d84bd446091217b212554a73258f0d07ac7a5833f4"), looks := true }, kinds := [], alts := [], laidByText := true, laidKinds := [.data, .data, .data, .sentinel, .sentinel], laidTests := true, laidLooks := .later }
def FnExactArgsOfCardSaid : Prop := Claim7.holds Tryd.pinned (.plain (OpenSpec.ofChange fnExactArgsOfSpec)) fnExactArgsOfCard

/-- THE TIED CARD OF 'laws.FnExactGiven'. -/
def fnExactGivenCard : Claim7 := { stood := { row := fnExactGivenRow, standIns := [], harness := (true, "5a6af86427a258902bf471d84bd446091217b212554a73258f0d07ac7a5833f4"), looks := true }, kinds := [], alts := [], laidByText := true, laidKinds := [.data, .data, .data, .sentinel, .sentinel], laidTests := true, laidLooks := .later }
def FnExactGivenCardSaid : Prop := Claim7.holds Tryd.pinned (.plain (OpenSpec.ofChange fnExactGivenSpec)) fnExactGivenCard

/-- THE TIED CARD OF 'laws.FnExactDomains'. -/
def fnExactDomainsCard : Claim7 := { stood := { row := fnExactDomainsRow, standIns := [], harness := (true, "5a6af86427a258902bf471d84bd446091217b212554a73258f0d07ac7a5833f4"), looks := true }, kinds := [], alts := [], laidByText := true, laidKinds := [.data, .data, .data, .sentinel, .sentinel], laidTests := true, laidLooks := .later }
def FnExactDomainsCardSaid : Prop := Claim7.holds Tryd.pinned (.plain (OpenSpec.ofChange fnExactDomainsSpec)) fnExactDomainsCard

/-- THE TIED CARD OF 'laws.FnExactTarget'. -/
def fnExactTargetCard : Claim7 := { stood := { row := fnExactTargetRow, standIns := [], harness := (true, "5a6af86427a258902bf471d84bd446091217b212554a73258f0d07ac7a5833f4"), looks := true }, kinds := [], alts := [], laidByText := true, laidKinds := [.data, .data, .data, .sentinel, .sentinel], laidTests := true, laidLooks := .later }
def FnExactTargetCardSaid : Prop := Claim7.holds Tryd.pinned (.plain (OpenSpec.ofChange fnExactTargetSpec)) fnExactTargetCard

/-- THE TIED CARD OF 'laws.FnExactArrows'. -/
def fnExactArrowsCard : Claim7 := { stood := { row := fnExactArrowsRow, standIns := [], harness := (true, "5a6af86427a258902bf471d84bd446091217b212554a73258f0d07ac7a5833f4"), looks := true }, kinds := [], alts := [], laidByText := true, laidKinds := [.data, .data, .data, .sentinel, .sentinel], laidTests := true, laidLooks := .later }
def FnExactArrowsCardSaid : Prop := Claim7.holds Tryd.pinned (.plain (OpenSpec.ofChange fnExactArrowsSpec)) fnExactArrowsCard

/-- THE SECOND FORM's CARD OF 'laws.FnExactHeadOf'. -/
def fnExactHeadOfUptoCard : Claim7 := { stood := { row := fnExactHeadOfUptoRow, standIns := [], harness := (true, "5a6af86427a258902bf471d84bd446091217b212554a73258f0d07ac7a5833f4"), looks := true }, kinds := [], alts := [], laidByText := true, laidKinds := [.data, .data, .data, .sentinel, .sentinel], laidTests := true, laidLooks := .later }
def FnExactHeadOfUptoCardSaid : Prop := Claim7.holds Tryd.pinned (.plain (OpenSpec.upto fnExactHeadOfSpec)) fnExactHeadOfUptoCard

/-- THE SECOND FORM's CARD OF 'laws.FnExactArgsOf'. -/
def fnExactArgsOfUptoCard : Claim7 := { stood := { row := fnExactArgsOfUptoRow, standIns := [], harness := (true, "5a6af86427a258902bf471d84bd446091217b212554a73258f0d07ac7a5833f4"), looks := true }, kinds := [], alts := [], laidByText := true, laidKinds := [.data, .data, .data, .sentinel, .sentinel], laidTests := true, laidLooks := .later }
def FnExactArgsOfUptoCardSaid : Prop := Claim7.holds Tryd.pinned (.plain (OpenSpec.upto fnExactArgsOfSpec)) fnExactArgsOfUptoCard

/-- THE SECOND FORM's CARD OF 'laws.FnExactGiven'. -/
def fnExactGivenUptoCard : Claim7 := { stood := { row := fnExactGivenUptoRow, standIns := [], harness := (true, "5a6af86427a258902bf471d84bd446091217b212554a73258f0d07ac7a5833f4"), looks := true }, kinds := [], alts := [], laidByText := true, laidKinds := [.data, .data, .data, .sentinel, .sentinel], laidTests := true, laidLooks := .later }
def FnExactGivenUptoCardSaid : Prop := Claim7.holds Tryd.pinned (.plain (OpenSpec.upto fnExactGivenSpec)) fnExactGivenUptoCard

/-- THE SECOND FORM's CARD OF 'laws.FnExactDomains'. -/
def fnExactDomainsUptoCard : Claim7 := { stood := { row := fnExactDomainsUptoRow, standIns := [], harness := (true, "5a6af86427a258902bf471d84bd446091217b212554a73258f0d07ac7a5833f4"), looks := true }, kinds := [], alts := [], laidByText := true, laidKinds := [.data, .data, .data, .sentinel, .sentinel], laidTests := true, laidLooks := .later }
def FnExactDomainsUptoCardSaid : Prop := Claim7.holds Tryd.pinned (.plain (OpenSpec.upto fnExactDomainsSpec)) fnExactDomainsUptoCard

/-- THE SECOND FORM's CARD OF 'laws.FnExactTarget'. -/
def fnExactTargetUptoCard : Claim7 := { stood := { row := fnExactTargetUptoRow, standIns := [], harness := (true, "5a6af86427a258902bf471d84bd446091217b212554a73258f0d07ac7a5833f4"), looks := true }, kinds := [], alts := [], laidByText := true, laidKinds := [.data, .data, .data, .sentinel, .sentinel], laidTests := true, laidLooks := .later }
def FnExactTargetUptoCardSaid : Prop := Claim7.holds Tryd.pinned (.plain (OpenSpec.upto fnExactTargetSpec)) fnExactTargetUptoCard

/-- THE SECOND FORM's CARD OF 'laws.FnExactArrows'. -/
def fnExactArrowsUptoCard : Claim7 := { stood := { row := fnExactArrowsUptoRow, standIns := [], harness := (true, "5a6af86427a258902bf471d84bd446091217b212554a73258f0d07ac7a5833f4"), looks := true }, kinds := [], alts := [], laidByText := true, laidKinds := [.data, .data, .data, .sentinel, .sentinel], laidTests := true, laidLooks := .later }
def FnExactArrowsUptoCardSaid : Prop := Claim7.holds Tryd.pinned (.plain (OpenSpec.upto fnExactArrowsSpec)) fnExactArrowsUptoCard
end Rows
end Go.Proofs.YtgmjbdndffdpoaaDoor
