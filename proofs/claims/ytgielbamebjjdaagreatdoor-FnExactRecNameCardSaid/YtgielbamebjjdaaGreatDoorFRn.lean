/-
  The facts that the row of laws.FnExactRecName asks of the seat's program, reckoned by the kernel one by one.
-/
import Derived.Test.YtgielbamebjjdaaGreatDoorWRn
import Derived.Test.YtgielbamebjjdaaGreatDoorCards
import Derived.Test.YtgielbamebjjdaaGreatDoorTie
import Derived.Deep.DeepHandedRow
namespace Go.Proofs.YtgielbamebjjdaaGreatDoor.fnExactRecName
open Go.ChangeShapes Go.WideShapes Go.ChangeAt Go.RowKit
set_option maxRecDepth 100000
theorem closedA : (Rows.fnExactRecNameRow.inPlace == Tryz.pinned.checked.prog.inPlace 5) = true := by kernel_rfl
theorem closedB : (Rows.fnExactRecNameRow.unfollowed == Tryz.pinned.checked.prog.unfollowed 5) = true := by kernel_rfl
theorem closedC : (Rows.fnExactRecNameRow.recurses == Tryz.pinned.checked.prog.recurses 5) = true := by kernel_rfl
theorem closedD : (Rows.fnExactRecNameRow.named == Tryz.pinned.checked.prog.varsNamed 5) = true := by kernel_rfl
theorem closed : joinedFacts Tryz.pinned.checked.prog 5 Tryz.f5 (OpenSpec.ofChange Rows.fnExactRecNameSpec).bare Rows.fnExactRecNameRow = true := by
  unfold joinedFacts
  rw [closedA, closedB, closedC, closedD]
  kernel_rfl
end Go.Proofs.YtgielbamebjjdaaGreatDoor.fnExactRecName
