/-
  The facts that the row of laws.FnExactRecLevels asks of the seat's program, reckoned by the kernel one by one.
-/
import Derived.Lib.Hide
import Derived.Test.YtgonemalnljabaaGreatDoorCards
import Derived.Test.YtgonemalnljabaaGreatDoorTie
import Derived.Deep.DeepHandedRow
namespace Go.Proofs.YtgonemalnljabaaGreatDoor.fnExactRecLevels
open Go.ChangeShapes Go.WideShapes Go.ChangeAt Go.RowKit
set_option maxRecDepth 100000
theorem closedA : (Rows.fnExactRecLevelsRow.inPlace == Tryz.pinned.checked.prog.inPlace 10) = true := by kernel_rfl
theorem closedB : (Rows.fnExactRecLevelsRow.unfollowed == Tryz.pinned.checked.prog.unfollowed 10) = true := by kernel_rfl
theorem closedC : (Rows.fnExactRecLevelsRow.recurses == Tryz.pinned.checked.prog.recurses 10) = true := by kernel_rfl
theorem closedD : (Rows.fnExactRecLevelsRow.named == Tryz.pinned.checked.prog.varsNamed 10) = true := by kernel_rfl
theorem closed : joinedFacts Tryz.pinned.checked.prog 10 Tryz.f10 (OpenSpec.ofChange Rows.fnExactRecLevelsSpec).bare Rows.fnExactRecLevelsRow = true := by
  unfold joinedFacts
  rw [closedA, closedB, closedC, closedD]
  kernel_rfl
end Go.Proofs.YtgonemalnljabaaGreatDoor.fnExactRecLevels
