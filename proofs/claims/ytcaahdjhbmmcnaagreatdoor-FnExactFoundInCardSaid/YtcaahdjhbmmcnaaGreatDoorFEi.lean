/-
  The facts that the row of laws.FnExactFoundIn asks of the seat's program, reckoned by the kernel one by one.
-/
import Derived.Lib.Hide
import Derived.Test.YtcaahdjhbmmcnaaGreatDoorCards
import Derived.Test.YtcaahdjhbmmcnaaGreatDoorTie
import Derived.Deep.DeepHandedRow
namespace Go.Proofs.YtcaahdjhbmmcnaaGreatDoor.fnExactFoundIn
open Go.ChangeShapes Go.WideShapes Go.ChangeAt Go.RowKit
set_option maxRecDepth 100000
theorem closedA : (Rows.fnExactFoundInRow.inPlace == Tryz.pinned.checked.prog.inPlace 3) = true := by kernel_rfl
theorem closedB : (Rows.fnExactFoundInRow.unfollowed == Tryz.pinned.checked.prog.unfollowed 3) = true := by kernel_rfl
theorem closedC : (Rows.fnExactFoundInRow.recurses == Tryz.pinned.checked.prog.recurses 3) = true := by kernel_rfl
theorem closedD : (Rows.fnExactFoundInRow.named == Tryz.pinned.checked.prog.varsNamed 3) = true := by kernel_rfl
theorem closed : joinedFacts Tryz.pinned.checked.prog 3 Tryz.f3 (OpenSpec.ofChange Rows.fnExactFoundInSpec).bare Rows.fnExactFoundInRow = true := by
  unfold joinedFacts
  rw [closedA, closedB, closedC, closedD]
  kernel_rfl
end Go.Proofs.YtcaahdjhbmmcnaaGreatDoor.fnExactFoundIn
