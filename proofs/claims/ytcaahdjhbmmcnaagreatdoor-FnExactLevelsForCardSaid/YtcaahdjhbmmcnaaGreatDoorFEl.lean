/-
  The facts that the row of laws.FnExactLevelsFor asks of the seat's program, reckoned by the kernel one by one.
-/
import Derived.Lib.Hide
import Derived.Test.YtcaahdjhbmmcnaaGreatDoorCards
import Derived.Test.YtcaahdjhbmmcnaaGreatDoorTie
import Derived.Deep.DeepHandedRow
namespace Go.Proofs.YtcaahdjhbmmcnaaGreatDoor.fnExactLevelsFor
open Go.ChangeShapes Go.WideShapes Go.ChangeAt Go.RowKit
set_option maxRecDepth 100000
theorem closedA : (Rows.fnExactLevelsForRow.inPlace == Tryz.pinned.checked.prog.inPlace 4) = true := by kernel_rfl
theorem closedB : (Rows.fnExactLevelsForRow.unfollowed == Tryz.pinned.checked.prog.unfollowed 4) = true := by kernel_rfl
theorem closedC : (Rows.fnExactLevelsForRow.recurses == Tryz.pinned.checked.prog.recurses 4) = true := by kernel_rfl
theorem closedD : (Rows.fnExactLevelsForRow.named == Tryz.pinned.checked.prog.varsNamed 4) = true := by kernel_rfl
theorem closed : joinedFacts Tryz.pinned.checked.prog 4 Tryz.f4 (OpenSpec.ofChange Rows.fnExactLevelsForSpec).bare Rows.fnExactLevelsForRow = true := by
  unfold joinedFacts
  rw [closedA, closedB, closedC, closedD]
  kernel_rfl
end Go.Proofs.YtcaahdjhbmmcnaaGreatDoor.fnExactLevelsFor
