/-
  laws.FnExactTermOpen, walked.
-/
import Derived.Test.YtnklajagefedmaaDoorTOpenL
import Derived.Test.YtnklajagefedmaaDoorM3
namespace Go.Proofs.YtnklajagefedmaaDoor
set_option maxRecDepth 100000
open Go.ChangeShapes Go.WideShapes Go.ChangeAt Go.RowKit

theorem walkTermOpen (s : ByteArray) (w : World) (hm : s.size ≤ maxLen) (hv : Vars w) :
    Calls Tryd.prog 9 #[.string s] w fun e w' => e = .returned (.bool true) ∧ Below w.heap.size w w' :=
  lawTermOpen s w hm fun _ W hb => implTermOpen s W (hv.below hb) hm
end Go.Proofs.YtnklajagefedmaaDoor
