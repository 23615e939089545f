/-
  At every argument laws.FnExactValueFor answers true and leaves the memory that lay as it lay, where the variables that its row lists hold what their initialisers lay; the row's own card (tied to the seat's program).
-/
import Derived.Test.YtcaahdjhbmmcnaaGreatDoorCEv
namespace Go.Proofs.YtcaahdjhbmmcnaaGreatDoor.fnExactValueFor
open Go.ChangeShapes Go.WideShapes Go.ChangeAt Go.RowKit Go.ChangeMaps
set_option linter.unusedVariables false
set_option maxRecDepth 100000
theorem wfb : Rows.fnExactValueForRow.wfByText (OpenSpec.ofChange Rows.fnExactValueForSpec) = true := by kernel_rfl
theorem mains : Tryz.pinned.checked.prog.mainIs = some (true, "a4a3bcb6103ee229476862f11bb996356ac4055ffdd9e14ce367110dd9b9986a".toList) := by kernel_rfl
theorem goes : false = Rows.fnExactValueForRow.goesBy Tryz.pinned.checked.prog := by kernel_rfl
theorem card : Rows.FnExactValueForCardSaid :=
  Claim7.holds_tied_plain_at .later [] _ _ _ _ said (fun _ h => by cases h) wfb (fun _ h => by cases h) fnExactValueFor_row_tie rfl ⟨rfl, rfl⟩ mains rfl plain goes
#print axioms card
end Go.Proofs.YtcaahdjhbmmcnaaGreatDoor.fnExactValueFor
