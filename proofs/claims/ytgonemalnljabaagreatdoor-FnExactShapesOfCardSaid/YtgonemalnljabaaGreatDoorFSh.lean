/-
  The facts that the row of laws.FnExactShapesOf asks of the seat's program, reckoned by the kernel one by one.
-/
import Derived.Lib.Hide
import Derived.Test.YtgonemalnljabaaGreatDoorCards
import Derived.Test.YtgonemalnljabaaGreatDoorTie
import Derived.Deep.DeepHandedRow
namespace Go.Proofs.YtgonemalnljabaaGreatDoor.fnExactShapesOf
open Go.ChangeShapes Go.WideShapes Go.ChangeAt Go.RowKit
set_option maxRecDepth 100000
theorem closedA : (Rows.fnExactShapesOfRow.inPlace == Tryz.pinned.checked.prog.inPlace 7) = true := by kernel_rfl
theorem closedB : (Rows.fnExactShapesOfRow.unfollowed == Tryz.pinned.checked.prog.unfollowed 7) = true := by kernel_rfl
theorem closedC : (Rows.fnExactShapesOfRow.recurses == Tryz.pinned.checked.prog.recurses 7) = true := by kernel_rfl
theorem closedD : (Rows.fnExactShapesOfRow.named == Tryz.pinned.checked.prog.varsNamed 7) = true := by kernel_rfl
theorem closed : joinedFacts Tryz.pinned.checked.prog 7 Tryz.f7 (OpenSpec.ofChange Rows.fnExactShapesOfSpec).bare Rows.fnExactShapesOfRow = true := by
  unfold joinedFacts
  rw [closedA, closedB, closedC, closedD]
  kernel_rfl
end Go.Proofs.YtgonemalnljabaaGreatDoor.fnExactShapesOf
