/-
  At every argument laws.FnEnvs answers true and leaves the memory that lay as it lay, where the variables that its row lists hold what their initialisers lay; the row's own card (tied to the seat's program).
-/
import Derived.Test.YtgppcegcpiaocaaGreatDoorCEn
namespace Go.Proofs.YtgppcegcpiaocaaGreatDoor.fnEnvs
open Go.ChangeShapes Go.WideShapes Go.ChangeAt Go.RowKit Go.ChangeMaps
set_option linter.unusedVariables false
set_option maxRecDepth 100000
theorem wfb : Rows.fnEnvsRow.wfByText (OpenSpec.ofChange Rows.fnEnvsSpec) = true := by kernel_rfl
theorem mains : Tryz.pinned.checked.prog.mainIs = some (true, "c71d63c5e0d2f947e94ec17dab134b9674c9c181b01fcdacd060e0fedfd4e984".toList) := by kernel_rfl
theorem goes : false = Rows.fnEnvsRow.goesBy Tryz.pinned.checked.prog := by kernel_rfl
theorem card : Rows.FnEnvsCardSaid :=
  Claim7.holds_tied_plain_at .later [] _ _ _ _ said (fun _ h => by cases h) wfb (fun _ h => by cases h) fnEnvs_row_tie rfl ⟨rfl, rfl⟩ mains rfl plain goes
#print axioms card
end Go.Proofs.YtgppcegcpiaocaaGreatDoor.fnEnvs
