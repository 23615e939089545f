import Derived.Test.YtgonemalnljabaaGreatDoorCRt
namespace Go.Proofs.YtgonemalnljabaaGreatDoor.fnExactRecType
open Go.ChangeShapes Go.WideShapes Go.ChangeAt Go.RowKit Go.ChangeMaps
set_option linter.unusedVariables false
set_option maxRecDepth 100000
theorem wfb:Rows.fnExactRecTypeRow.wfByText (OpenSpec.ofChange Rows.fnExactRecTypeSpec)=true:=by kernel_rfl
theorem mains:Tryz.pinned.checked.prog.mainIs=some (true,"06c6d2c5d9c82e8e4f6741e46d2be53c1dd070d63cdcce965d55f0956b44443e".toList):=by kernel_rfl
theorem goes:false=Rows.fnExactRecTypeRow.goesBy Tryz.pinned.checked.prog:=by kernel_rfl
theorem card:Rows.FnExactRecTypeCardSaid :=
 Claim7.holds_tied_plain_at .later [] _ _ _ _ said (fun _ h=>by cases h) wfb (fun _ h=>by cases h) fnExactRecType_row_tie rfl ⟨rfl,rfl⟩ mains rfl plain goes
#print axioms card
end Go.Proofs.YtgonemalnljabaaGreatDoor.fnExactRecType
