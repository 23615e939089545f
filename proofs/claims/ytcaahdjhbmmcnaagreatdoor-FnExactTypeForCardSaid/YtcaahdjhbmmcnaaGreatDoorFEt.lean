/-
  The facts that the row of laws.FnExactTypeFor asks of the seat's program, reckoned by the kernel one by one.
-/
import Derived.Lib.Hide
import Derived.Test.YtcaahdjhbmmcnaaGreatDoorCards
import Derived.Test.YtcaahdjhbmmcnaaGreatDoorTie
import Derived.Deep.DeepHandedRow
namespace Go.Proofs.YtcaahdjhbmmcnaaGreatDoor.fnExactTypeFor
open Go.ChangeShapes Go.WideShapes Go.ChangeAt Go.RowKit
set_option maxRecDepth 100000
theorem closedA : (Rows.fnExactTypeForRow.inPlace == Tryz.pinned.checked.prog.inPlace 5) = true := by kernel_rfl
theorem closedB : (Rows.fnExactTypeForRow.unfollowed == Tryz.pinned.checked.prog.unfollowed 5) = true := by kernel_rfl
theorem closedC : (Rows.fnExactTypeForRow.recurses == Tryz.pinned.checked.prog.recurses 5) = true := by kernel_rfl
theorem closedD : (Rows.fnExactTypeForRow.named == Tryz.pinned.checked.prog.varsNamed 5) = true := by kernel_rfl
theorem closed : joinedFacts Tryz.pinned.checked.prog 5 Tryz.f5 (OpenSpec.ofChange Rows.fnExactTypeForSpec).bare Rows.fnExactTypeForRow = true := by
  unfold joinedFacts
  rw [closedA, closedB, closedC, closedD]
  kernel_rfl
end Go.Proofs.YtcaahdjhbmmcnaaGreatDoor.fnExactTypeFor
