/-
  The facts that the row of laws.FnExactShapesOf asks of the seat's program, reckoned by the kernel one by one.
-/
import Derived.Test.YtgielbamebjjdaaGreatDoorWSh
import Derived.Test.YtgielbamebjjdaaGreatDoorCards
import Derived.Test.YtgielbamebjjdaaGreatDoorTie
import Derived.Deep.DeepHandedRow
namespace Go.Proofs.YtgielbamebjjdaaGreatDoor.fnExactShapesOf
open Go.ChangeShapes Go.WideShapes Go.ChangeAt Go.RowKit
set_option maxRecDepth 100000
theorem closedA : (Rows.fnExactShapesOfRow.inPlace == Tryz.pinned.checked.prog.inPlace 8) = true := by kernel_rfl
theorem closedB : (Rows.fnExactShapesOfRow.unfollowed == Tryz.pinned.checked.prog.unfollowed 8) = true := by kernel_rfl
theorem closedC : (Rows.fnExactShapesOfRow.recurses == Tryz.pinned.checked.prog.recurses 8) = true := by kernel_rfl
theorem closedD : (Rows.fnExactShapesOfRow.named == Tryz.pinned.checked.prog.varsNamed 8) = true := by kernel_rfl
theorem closed : joinedFacts Tryz.pinned.checked.prog 8 Tryz.f8 (OpenSpec.ofChange Rows.fnExactShapesOfSpec).bare Rows.fnExactShapesOfRow = true := by
  unfold joinedFacts
  rw [closedA, closedB, closedC, closedD]
  kernel_rfl
end Go.Proofs.YtgielbamebjjdaaGreatDoor.fnExactShapesOf
