/-
  laws.FnExactParamsIn, walked.
-/
import Derived.Test.YtnklajagefedmaaDoorM8
namespace Go.Proofs.YtnklajagefedmaaDoor
set_option maxRecDepth 100000
open Go.ChangeShapes Go.WideShapes Go.ChangeAt Go.RowKit

theorem walkParamsIn (s : ByteArray) (w : World) (hm : s.size ≤ maxLen) (hv : Vars w) :
    Calls Tryd.prog 12 #[.string s] w fun e w' => e = .returned (.bool true) ∧ Below w.heap.size w w' :=
  lawParamsIn s w hm fun _ W hb => implParamsIn s W (hv.below hb) hm
end Go.Proofs.YtnklajagefedmaaDoor
