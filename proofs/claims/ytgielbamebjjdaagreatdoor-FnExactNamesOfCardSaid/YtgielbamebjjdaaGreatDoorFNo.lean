/-
  The facts that the row of laws.FnExactNamesOf asks of the seat's program, reckoned by the kernel one by one.
-/
import Derived.Test.YtgielbamebjjdaaGreatDoorWNo
import Derived.Test.YtgielbamebjjdaaGreatDoorCards
import Derived.Test.YtgielbamebjjdaaGreatDoorTie
import Derived.Deep.DeepHandedRow
namespace Go.Proofs.YtgielbamebjjdaaGreatDoor.fnExactNamesOf
open Go.ChangeShapes Go.WideShapes Go.ChangeAt Go.RowKit
set_option maxRecDepth 100000
theorem closedA : (Rows.fnExactNamesOfRow.inPlace == Tryz.pinned.checked.prog.inPlace 6) = true := by kernel_rfl
theorem closedB : (Rows.fnExactNamesOfRow.unfollowed == Tryz.pinned.checked.prog.unfollowed 6) = true := by kernel_rfl
theorem closedC : (Rows.fnExactNamesOfRow.recurses == Tryz.pinned.checked.prog.recurses 6) = true := by kernel_rfl
theorem closedD : (Rows.fnExactNamesOfRow.named == Tryz.pinned.checked.prog.varsNamed 6) = true := by kernel_rfl
theorem closed : joinedFacts Tryz.pinned.checked.prog 6 Tryz.f6 (OpenSpec.ofChange Rows.fnExactNamesOfSpec).bare Rows.fnExactNamesOfRow = true := by
  unfold joinedFacts
  rw [closedA, closedB, closedC, closedD]
  kernel_rfl
end Go.Proofs.YtgielbamebjjdaaGreatDoor.fnExactNamesOf
