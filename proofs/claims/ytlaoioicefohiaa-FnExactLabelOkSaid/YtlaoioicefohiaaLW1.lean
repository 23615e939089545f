/-
  The laws of LabelOk, LabelText, ReadLabel and LabelIn, walked.
-/
import Derived.Test.YtlaoioicefohiaaLLawsA
import Derived.Test.YtlaoioicefohiaaLI4
import Derived.Test.YtlaoioicefohiaaOpenL
namespace Go.Proofs.Ytlaoioicefohiaa
set_option maxRecDepth 100000
open Go.ChangeShapes Go.WideShapes Go.ChangeAt Go.RowKit

theorem walkLabelOk (k : Int) (n : List UInt8) (w : World) (hn : n.length ≤ maxLen) :
    Calls Try.prog 4 #[.agg #[.int .i64 k, .string ⟨n.toArray⟩]] w fun e w' => e = .returned (.bool true) ∧ Below w.heap.size w w' :=
  lawLabelOk k n w hn fun hl W => implLabelOk k n W (by unfold maxLen; omega)
theorem walkLabelText (k : Int) (n : List UInt8) (w : World) (hn : n.length ≤ maxLen) :
    Calls Try.prog 5 #[.agg #[.int .i64 k, .string ⟨n.toArray⟩]] w fun e w' => e = .returned (.bool true) ∧ Below w.heap.size w w' :=
  lawLabelText k n w hn fun hl W => implLabelText k n W (by unfold maxLen; omega)
theorem walkReadLabel (s : ByteArray) (w : World) (hm : s.size ≤ maxLen) :
    Calls Try.prog 6 #[.string s] w fun e w' => e = .returned (.bool true) ∧ Below w.heap.size w w' :=
  lawReadLabel s w hm fun hl W => implReadLabel s W hl
theorem walkLabelIn {v : Value} {l : List Lbl} (k : Int) (n : List UInt8) (w : World) (h : CameL w v l) (hn : n.length ≤ maxLen) :
    Calls Try.prog 10 #[v, .agg #[.int .i64 k, .string ⟨n.toArray⟩]] w fun e w' => e = .returned (.bool true) ∧ Below w.heap.size w w' :=
  lawLabelIn k n w h hn fun hl _ _ W b v1 hv => implLabelIn hv k n (by omega)
end Go.Proofs.Ytlaoioicefohiaa
