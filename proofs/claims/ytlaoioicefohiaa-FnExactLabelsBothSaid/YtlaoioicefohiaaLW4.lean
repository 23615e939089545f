/-
  The law of LabelsBoth, walked.
-/
import Derived.Test.YtlaoioicefohiaaLLawsB
import Derived.Test.YtlaoioicefohiaaLI7
import Derived.Test.YtlaoioicefohiaaOpenL
namespace Go.Proofs.Ytlaoioicefohiaa
set_option maxRecDepth 100000
open Go.ChangeShapes Go.WideShapes Go.ChangeAt Go.RowKit

theorem walkLabelsBoth {vA vB : Value} {a b : List Lbl} (w : World) (hA : CameL w vA a) (hB : CameL w vB b) :
    Calls Try.prog 8 #[vA, vB] w fun e w' => e = .returned (.bool true) ∧ Below w.heap.size w w' :=
  lawLabelsBoth w hA hB fun hl hx W b1 b2 v1 v2 h1 h2 => implLabelsBoth h1 h2 (by omega) (by omega) hx
end Go.Proofs.Ytlaoioicefohiaa
