/-
  The facts that the row of laws.FnExactKnown asks of the seat's program, reckoned by the kernel one by one.
-/
import Derived.Lib.Hide
import Derived.Test.YtcaahdjhbmmcnaaGreatDoorCards
import Derived.Test.YtcaahdjhbmmcnaaGreatDoorTie
import Derived.Deep.DeepHandedRow
namespace Go.Proofs.YtcaahdjhbmmcnaaGreatDoor.fnExactKnown
open Go.ChangeShapes Go.WideShapes Go.ChangeAt Go.RowKit
set_option maxRecDepth 100000
theorem closedA : (Rows.fnExactKnownRow.inPlace == Tryz.pinned.checked.prog.inPlace 7) = true := by kernel_rfl
theorem closedB : (Rows.fnExactKnownRow.unfollowed == Tryz.pinned.checked.prog.unfollowed 7) = true := by kernel_rfl
theorem closedC : (Rows.fnExactKnownRow.recurses == Tryz.pinned.checked.prog.recurses 7) = true := by kernel_rfl
theorem closedD : (Rows.fnExactKnownRow.named == Tryz.pinned.checked.prog.varsNamed 7) = true := by kernel_rfl
theorem closed : joinedFacts Tryz.pinned.checked.prog 7 Tryz.f7 (OpenSpec.ofChange Rows.fnExactKnownSpec).bare Rows.fnExactKnownRow = true := by
  unfold joinedFacts
  rw [closedA, closedB, closedC, closedD]
  kernel_rfl
end Go.Proofs.YtcaahdjhbmmcnaaGreatDoor.fnExactKnown
