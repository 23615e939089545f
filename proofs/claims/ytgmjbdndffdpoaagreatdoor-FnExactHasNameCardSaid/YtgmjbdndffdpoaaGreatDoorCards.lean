/-
  DERIVED. GIVEN WITH THE SEED: THE CARDS: each row of YtgmjbdndffdpoaaGreatDoorRows.lean that lists a variable, with what it lists TIED to the program's text (the seventh form; the later family's looks); each row that meets fmt, with fmt's text TOLD by the authors' own Lean function (tested against real Go, not proved from fmt's source: count such statements apart). THE CARD IS WHAT COUNTS. Prove the row's statement (the work); the ties are given (YtgmjbdndffdpoaaGreatDoorTie.lean); close each card by the builder's one call (the guide's Derived/Test/ToyasCard.lean, 'card_holds'). Laid BY PROGRAM, IN A SANDBOX (cutbox-door.mjs). By AI agents, Wed Nov 11 2026. No macro, syntax, notation, axiom, sorry.
-/
import Derived.Test.YtgmjbdndffdpoaaGreatDoorRows
import GoSem.ClaimSeven
namespace Go.Proofs.YtgmjbdndffdpoaaGreatDoor
namespace Rows

/-- THE TIED CARD OF 'laws.FnSpines'. -/
def fnSpinesCard : Claim7 := { stood := { row := fnSpinesRow, standIns := [], harness := (true, "dcfc47eb01ae24ff35a168e3f1cfdefb300a907d94e2f9ce433f44591f6d5e69"), looks := true }, kinds := [], alts := [], laidByText := true, laidKinds := [.data, .data, .data, .sentinel, .sentinel], laidTests := true, laidLooks := .later }
def FnSpinesCardSaid : Prop := Claim7.holds Tryz.pinned (.plain (OpenSpec.ofChange fnSpinesSpec)) fnSpinesCard

/-- THE TIED CARD OF 'laws.FnExactUsesIn'. -/
def fnExactUsesInCard : Claim7 := { stood := { row := fnExactUsesInRow, standIns := [], harness := (true, "dcfc47eb01ae24ff35a168e3f1cfdefb300a907d94e2f9ce433f44591f6d5e69"), looks := true }, kinds := [], alts := [], laidByText := true, laidKinds := [.data, .data, .data, .sentinel, .sentinel], laidTests := true, laidLooks := .later }
def FnExactUsesInCardSaid : Prop := Claim7.holds Tryz.pinned (.plain (OpenSpec.ofChange fnExactUsesInSpec)) fnExactUsesInCard

/-- THE TIED CARD OF 'laws.FnExactHasName'. -/
def fnExactHasNameCard : Claim7 := { stood := { row := fnExactHasNameRow, standIns := [], harness := (true, "dcfc47eb01ae24ff35a168e3f1cfdefb300a907d94e2f9ce433f44591f6d5e69"), looks := true }, kinds := [], alts := [], laidByText := true, laidKinds := [.data, .data, .data, .sentinel, .sentinel], laidTests := true, laidLooks := .later }
def FnExactHasNameCardSaid : Prop := Claim7.holds Tryz.pinned (.plain (OpenSpec.ofChange fnExactHasNameSpec)) fnExactHasNameCard

/-- THE SECOND FORM's CARD OF 'laws.FnSpines'. -/
def fnSpinesUptoCard : Claim7 := { stood := { row := fnSpinesUptoRow, standIns := [], harness := (true, "dcfc47eb01ae24ff35a168e3f1cfdefb300a907d94e2f9ce433f44591f6d5e69"), looks := true }, kinds := [], alts := [], laidByText := true, laidKinds := [.data, .data, .data, .sentinel, .sentinel], laidTests := true, laidLooks := .later }
def FnSpinesUptoCardSaid : Prop := Claim7.holds Tryz.pinned (.plain (OpenSpec.upto fnSpinesSpec)) fnSpinesUptoCard

/-- THE SECOND FORM's CARD OF 'laws.FnExactUsesIn'. -/
def fnExactUsesInUptoCard : Claim7 := { stood := { row := fnExactUsesInUptoRow, standIns := [], harness := (true, "dcfc47eb01ae24ff35a168e3f1cfdefb300a907d94e2f9ce433f44591f6d5e69"), looks := true }, kinds := [], alts := [], laidByText := true, laidKinds := [.data, .data, .data, .sentinel, .sentinel], laidTests := true, laidLooks := .later }
def FnExactUsesInUptoCardSaid : Prop := Claim7.holds Tryz.pinned (.plain (OpenSpec.upto fnExactUsesInSpec)) fnExactUsesInUptoCard

/-- THE SECOND FORM's CARD OF 'laws.FnExactHasName'. -/
def fnExactHasNameUptoCard : Claim7 := { stood := { row := fnExactHasNameUptoRow, standIns := [], harness := (true, "dcfc47eb01ae24ff35a168e3f1cfdefb300a907d94e2f9ce433f44591f6d5e69"), looks := true }, kinds := [], alts := [], laidByText := true, laidKinds := [.data, .data, .data, .sentinel, .sentinel], laidTests := true, laidLooks := .later }
def FnExactHasNameUptoCardSaid : Prop := Claim7.holds Tryz.pinned (.plain (OpenSpec.upto fnExactHasNameSpec)) fnExactHasNameUptoCard
end Rows
end Go.Proofs.YtgmjbdndffdpoaaGreatDoor
