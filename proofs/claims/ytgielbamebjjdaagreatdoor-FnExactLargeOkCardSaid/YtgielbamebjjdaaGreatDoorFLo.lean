/-
  The facts that the row of laws.FnExactLargeOk asks of the seat's program, reckoned by the kernel one by one.
-/
import Derived.Test.YtgielbamebjjdaaGreatDoorWLo
import Derived.Test.YtgielbamebjjdaaGreatDoorCards
import Derived.Test.YtgielbamebjjdaaGreatDoorTie
import Derived.Deep.DeepHandedRow
namespace Go.Proofs.YtgielbamebjjdaaGreatDoor.fnExactLargeOk
open Go.ChangeShapes Go.WideShapes Go.ChangeAt Go.RowKit
set_option maxRecDepth 100000
theorem closedA : (Rows.fnExactLargeOkRow.inPlace == Tryz.pinned.checked.prog.inPlace 11) = true := by kernel_rfl
theorem closedB : (Rows.fnExactLargeOkRow.unfollowed == Tryz.pinned.checked.prog.unfollowed 11) = true := by kernel_rfl
theorem closedC : (Rows.fnExactLargeOkRow.recurses == Tryz.pinned.checked.prog.recurses 11) = true := by kernel_rfl
theorem closedD : (Rows.fnExactLargeOkRow.named == Tryz.pinned.checked.prog.varsNamed 11) = true := by kernel_rfl
theorem closed : joinedFacts Tryz.pinned.checked.prog 11 Tryz.f11 (OpenSpec.ofChange Rows.fnExactLargeOkSpec).bare Rows.fnExactLargeOkRow = true := by
  unfold joinedFacts
  rw [closedA, closedB, closedC, closedD]
  kernel_rfl
end Go.Proofs.YtgielbamebjjdaaGreatDoor.fnExactLargeOk
