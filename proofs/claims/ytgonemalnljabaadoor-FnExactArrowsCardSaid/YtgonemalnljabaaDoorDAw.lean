/-
  At every argument laws.FnExactArrows answers true and leaves the memory that lay as it lay, where the variables that its row lists hold what their initialisers lay; the row's own card (tied to the seat's program).
-/
import Derived.Test.YtgonemalnljabaaDoorCAw
namespace Go.Proofs.YtgonemalnljabaaDoor.fnExactArrows
open Go.ChangeShapes Go.WideShapes Go.ChangeAt Go.RowKit Go.ChangeMaps
set_option linter.unusedVariables false
set_option maxRecDepth 100000
theorem wfb : Rows.fnExactArrowsRow.wfByText (OpenSpec.ofChange Rows.fnExactArrowsSpec) = true := by kernel_rfl
theorem mains : Tryd.pinned.checked.prog.mainIs = some (true, "f4151f31332bded74f910b959f028bf3a99b4506ed8e3ad22c16e70c91900a3c".toList) := by kernel_rfl
theorem goes : false = Rows.fnExactArrowsRow.goesBy Tryd.pinned.checked.prog := by kernel_rfl
theorem card : Rows.FnExactArrowsCardSaid :=
  Claim7.holds_tied_plain_at .later [] _ _ _ _ said (fun _ h => by cases h) wfb (fun _ h => by cases h) fnExactArrows_row_tie rfl ⟨rfl, rfl⟩ mains rfl plain goes
#print axioms card
end Go.Proofs.YtgonemalnljabaaDoor.fnExactArrows
