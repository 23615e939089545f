/-
  The facts that the row of laws.FnExactResultOk asks of the seat's program, reckoned by the kernel one by one.
-/
import Derived.Lib.Hide
import Derived.Test.YtgonemalnljabaaGreatDoorCards
import Derived.Test.YtgonemalnljabaaGreatDoorTie
import Derived.Deep.DeepHandedRow
namespace Go.Proofs.YtgonemalnljabaaGreatDoor.fnExactResultOk
open Go.ChangeShapes Go.WideShapes Go.ChangeAt Go.RowKit
set_option maxRecDepth 100000
theorem closedA : (Rows.fnExactResultOkRow.inPlace == Tryz.pinned.checked.prog.inPlace 8) = true := by kernel_rfl
theorem closedB : (Rows.fnExactResultOkRow.unfollowed == Tryz.pinned.checked.prog.unfollowed 8) = true := by kernel_rfl
theorem closedC : (Rows.fnExactResultOkRow.recurses == Tryz.pinned.checked.prog.recurses 8) = true := by kernel_rfl
theorem closedD : (Rows.fnExactResultOkRow.named == Tryz.pinned.checked.prog.varsNamed 8) = true := by kernel_rfl
theorem closed : joinedFacts Tryz.pinned.checked.prog 8 Tryz.f8 (OpenSpec.ofChange Rows.fnExactResultOkSpec).bare Rows.fnExactResultOkRow = true := by
  unfold joinedFacts
  rw [closedA, closedB, closedC, closedD]
  kernel_rfl
end Go.Proofs.YtgonemalnljabaaGreatDoor.fnExactResultOk
