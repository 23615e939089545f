/-
  At every argument laws.FnSpines answers true and leaves the memory that lay as it lay, where the variables that its row lists hold what their initialisers lay; the row's own card (tied to the seat's program).
-/
import Derived.Test.YtgonemalnljabaaGreatDoorCSp
namespace Go.Proofs.YtgonemalnljabaaGreatDoor.fnSpines
open Go.ChangeShapes Go.WideShapes Go.ChangeAt Go.RowKit Go.ChangeMaps
set_option linter.unusedVariables false
set_option maxRecDepth 100000
theorem wfb : Rows.fnSpinesRow.wfByText (OpenSpec.ofChange Rows.fnSpinesSpec) = true := by kernel_rfl
theorem mains : Tryz.pinned.checked.prog.mainIs = some (true, "06c6d2c5d9c82e8e4f6741e46d2be53c1dd070d63cdcce965d55f0956b44443e".toList) := by kernel_rfl
theorem goes : false = Rows.fnSpinesRow.goesBy Tryz.pinned.checked.prog := by kernel_rfl
theorem card : Rows.FnSpinesCardSaid :=
  Claim7.holds_tied_plain_at .later [] _ _ _ _ said (fun _ h => by cases h) wfb (fun _ h => by cases h) fnSpines_row_tie rfl ⟨rfl, rfl⟩ mains rfl plain goes
#print axioms card
end Go.Proofs.YtgonemalnljabaaGreatDoor.fnSpines
