/-
  The law of LabelsOk, walked.
-/
import Derived.Test.YtlaoioicefohiaaLLawsA
import Derived.Test.YtlaoioicefohiaaLI6
import Derived.Test.YtlaoioicefohiaaOpenL
namespace Go.Proofs.Ytlaoioicefohiaa
set_option maxRecDepth 100000
open Go.ChangeShapes Go.WideShapes Go.ChangeAt Go.RowKit

theorem walkLabelsOk {v : Value} {l : List Lbl} (w : World) (h : CameL w v l) :
    Calls Try.prog 7 #[v] w fun e w' => e = .returned (.bool true) ∧ Below w.heap.size w w' :=
  lawLabelsOk w h fun hl hx W b v1 hv => implLabelsOk hv (by omega) fun x hm => by have := hx x hm; unfold maxLen; omega
end Go.Proofs.Ytlaoioicefohiaa
