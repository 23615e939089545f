/-
  The facts that the row of laws.FnExactPositive asks of the seat's program, reckoned by the kernel one by one.
-/
import Derived.Lib.Hide
import Derived.Test.YtgonemalnljabaaGreatDoorCards
import Derived.Test.YtgonemalnljabaaGreatDoorTie
import Derived.Deep.DeepHandedRow
namespace Go.Proofs.YtgonemalnljabaaGreatDoor.fnExactPositive
open Go.ChangeShapes Go.WideShapes Go.ChangeAt Go.RowKit
set_option maxRecDepth 100000
theorem closedA : (Rows.fnExactPositiveRow.inPlace == Tryz.pinned.checked.prog.inPlace 9) = true := by kernel_rfl
theorem closedB : (Rows.fnExactPositiveRow.unfollowed == Tryz.pinned.checked.prog.unfollowed 9) = true := by kernel_rfl
theorem closedC : (Rows.fnExactPositiveRow.recurses == Tryz.pinned.checked.prog.recurses 9) = true := by kernel_rfl
theorem closedD : (Rows.fnExactPositiveRow.named == Tryz.pinned.checked.prog.varsNamed 9) = true := by kernel_rfl
theorem closed : joinedFacts Tryz.pinned.checked.prog 9 Tryz.f9 (OpenSpec.ofChange Rows.fnExactPositiveSpec).bare Rows.fnExactPositiveRow = true := by
  unfold joinedFacts
  rw [closedA, closedB, closedC, closedD]
  kernel_rfl
end Go.Proofs.YtgonemalnljabaaGreatDoor.fnExactPositive
