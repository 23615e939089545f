/-
  laws.FnExactConstIn, walked.
-/
import Derived.Test.YtnklajagefedmaaDoorTLaw2
import Derived.Test.YtnklajagefedmaaDoorM6
namespace Go.Proofs.YtnklajagefedmaaDoor
set_option maxRecDepth 100000
open Go.ChangeShapes Go.WideShapes Go.ChangeAt Go.RowKit

theorem walkConstIn (s : ByteArray) (w : World) (hm : s.size ≤ maxLen) (hv : Vars w) :
    Calls Tryd.prog 10 #[.string s] w fun e w' => e = .returned (.bool true) ∧ Below w.heap.size w w' :=
  lawConstIn s w hm fun _ W hb => implConstIn s W (hv.below hb) hm
end Go.Proofs.YtnklajagefedmaaDoor
