/-
  The facts that the row of laws.FnExactMotiveSort asks of the seat's program, reckoned by the kernel one by one.
-/
import Derived.Lib.Hide
import Derived.Test.YtgonemalnljabaaGreatDoorCards
import Derived.Test.YtgonemalnljabaaGreatDoorTie
import Derived.Deep.DeepHandedRow
namespace Go.Proofs.YtgonemalnljabaaGreatDoor.fnExactMotiveSort
open Go.ChangeShapes Go.WideShapes Go.ChangeAt Go.RowKit
set_option maxRecDepth 100000
theorem closedA : (Rows.fnExactMotiveSortRow.inPlace == Tryz.pinned.checked.prog.inPlace 11) = true := by kernel_rfl
theorem closedB : (Rows.fnExactMotiveSortRow.unfollowed == Tryz.pinned.checked.prog.unfollowed 11) = true := by kernel_rfl
theorem closedC : (Rows.fnExactMotiveSortRow.recurses == Tryz.pinned.checked.prog.recurses 11) = true := by kernel_rfl
theorem closedD : (Rows.fnExactMotiveSortRow.named == Tryz.pinned.checked.prog.varsNamed 11) = true := by kernel_rfl
theorem closed : joinedFacts Tryz.pinned.checked.prog 11 Tryz.f11 (OpenSpec.ofChange Rows.fnExactMotiveSortSpec).bare Rows.fnExactMotiveSortRow = true := by
  unfold joinedFacts
  rw [closedA, closedB, closedC, closedD]
  kernel_rfl
end Go.Proofs.YtgonemalnljabaaGreatDoor.fnExactMotiveSort
