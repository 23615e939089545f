/-
  The facts that the row of laws.FnEnvs asks of the seat's program, reckoned by the kernel one by one.
-/
import Derived.Lib.Hide
import Derived.Test.YtgppcegcpiaocaaGreatDoorCards
import Derived.Test.YtgppcegcpiaocaaGreatDoorTie
import Derived.Deep.DeepHandedRow
namespace Go.Proofs.YtgppcegcpiaocaaGreatDoor.fnEnvs
open Go.ChangeShapes Go.WideShapes Go.ChangeAt Go.RowKit
set_option maxRecDepth 100000
theorem closedA : (Rows.fnEnvsRow.inPlace == Tryz.pinned.checked.prog.inPlace 3) = true := by kernel_rfl
theorem closedB : (Rows.fnEnvsRow.unfollowed == Tryz.pinned.checked.prog.unfollowed 3) = true := by kernel_rfl
theorem closedC : (Rows.fnEnvsRow.recurses == Tryz.pinned.checked.prog.recurses 3) = true := by kernel_rfl
theorem closedD : (Rows.fnEnvsRow.named == Tryz.pinned.checked.prog.varsNamed 3) = true := by kernel_rfl
theorem closed : joinedFacts Tryz.pinned.checked.prog 3 Tryz.f3 (OpenSpec.ofChange Rows.fnEnvsSpec).bare Rows.fnEnvsRow = true := by
  unfold joinedFacts
  rw [closedA, closedB, closedC, closedD]
  kernel_rfl
end Go.Proofs.YtgppcegcpiaocaaGreatDoor.fnEnvs
