/-
  At every argument laws.FnExactTypeFor answers true and leaves the memory that lay as it lay, where the variables that its row lists hold what their initialisers lay; the row's own card (tied to the seat's program).
-/
import Derived.Test.YtcaahdjhbmmcnaaGreatDoorCEt
namespace Go.Proofs.YtcaahdjhbmmcnaaGreatDoor.fnExactTypeFor
open Go.ChangeShapes Go.WideShapes Go.ChangeAt Go.RowKit Go.ChangeMaps
set_option linter.unusedVariables false
set_option maxRecDepth 100000
theorem wfb : Rows.fnExactTypeForRow.wfByText (OpenSpec.ofChange Rows.fnExactTypeForSpec) = true := by kernel_rfl
theorem mains : Tryz.pinned.checked.prog.mainIs = some (true, "a4a3bcb6103ee229476862f11bb996356ac4055ffdd9e14ce367110dd9b9986a".toList) := by kernel_rfl
theorem goes : false = Rows.fnExactTypeForRow.goesBy Tryz.pinned.checked.prog := by kernel_rfl
theorem card : Rows.FnExactTypeForCardSaid :=
  Claim7.holds_tied_plain_at .later [] _ _ _ _ said (fun _ h => by cases h) wfb (fun _ h => by cases h) fnExactTypeFor_row_tie rfl ⟨rfl, rfl⟩ mains rfl plain goes
#print axioms card
end Go.Proofs.YtcaahdjhbmmcnaaGreatDoor.fnExactTypeFor
