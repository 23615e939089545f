/-
  The facts that the row of laws.FnExactResultOk asks of the seat's program, reckoned by the kernel one by one.
-/
import Derived.Test.YtgielbamebjjdaaGreatDoorWRo
import Derived.Test.YtgielbamebjjdaaGreatDoorCards
import Derived.Test.YtgielbamebjjdaaGreatDoorTie
import Derived.Deep.DeepHandedRow
namespace Go.Proofs.YtgielbamebjjdaaGreatDoor.fnExactResultOk
open Go.ChangeShapes Go.WideShapes Go.ChangeAt Go.RowKit
set_option maxRecDepth 100000
theorem closedA : (Rows.fnExactResultOkRow.inPlace == Tryz.pinned.checked.prog.inPlace 9) = true := by kernel_rfl
theorem closedB : (Rows.fnExactResultOkRow.unfollowed == Tryz.pinned.checked.prog.unfollowed 9) = true := by kernel_rfl
theorem closedC : (Rows.fnExactResultOkRow.recurses == Tryz.pinned.checked.prog.recurses 9) = true := by kernel_rfl
theorem closedD : (Rows.fnExactResultOkRow.named == Tryz.pinned.checked.prog.varsNamed 9) = true := by kernel_rfl
theorem closed : joinedFacts Tryz.pinned.checked.prog 9 Tryz.f9 (OpenSpec.ofChange Rows.fnExactResultOkSpec).bare Rows.fnExactResultOkRow = true := by
  unfold joinedFacts
  rw [closedA, closedB, closedC, closedD]
  kernel_rfl
end Go.Proofs.YtgielbamebjjdaaGreatDoor.fnExactResultOk
