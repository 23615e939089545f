/-
  The facts that the row of laws.FnExactValueFor asks of the seat's program, reckoned by the kernel one by one.
-/
import Derived.Lib.Hide
import Derived.Test.YtcaahdjhbmmcnaaGreatDoorCards
import Derived.Test.YtcaahdjhbmmcnaaGreatDoorTie
import Derived.Deep.DeepHandedRow
namespace Go.Proofs.YtcaahdjhbmmcnaaGreatDoor.fnExactValueFor
open Go.ChangeShapes Go.WideShapes Go.ChangeAt Go.RowKit
set_option maxRecDepth 100000
theorem closedA : (Rows.fnExactValueForRow.inPlace == Tryz.pinned.checked.prog.inPlace 6) = true := by kernel_rfl
theorem closedB : (Rows.fnExactValueForRow.unfollowed == Tryz.pinned.checked.prog.unfollowed 6) = true := by kernel_rfl
theorem closedC : (Rows.fnExactValueForRow.recurses == Tryz.pinned.checked.prog.recurses 6) = true := by kernel_rfl
theorem closedD : (Rows.fnExactValueForRow.named == Tryz.pinned.checked.prog.varsNamed 6) = true := by kernel_rfl
theorem closed : joinedFacts Tryz.pinned.checked.prog 6 Tryz.f6 (OpenSpec.ofChange Rows.fnExactValueForSpec).bare Rows.fnExactValueForRow = true := by
  unfold joinedFacts
  rw [closedA, closedB, closedC, closedD]
  kernel_rfl
end Go.Proofs.YtcaahdjhbmmcnaaGreatDoor.fnExactValueFor
