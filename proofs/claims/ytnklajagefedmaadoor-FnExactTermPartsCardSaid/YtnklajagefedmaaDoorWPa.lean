/-
  laws.FnExactTermParts, walked.
-/
import Derived.Test.YtnklajagefedmaaDoorTLaw2
import Derived.Test.YtnklajagefedmaaDoorM5
namespace Go.Proofs.YtnklajagefedmaaDoor
set_option maxRecDepth 100000
open Go.ChangeShapes Go.WideShapes Go.ChangeAt Go.RowKit

theorem walkTermParts (s : ByteArray) (w : World) (hm : s.size ≤ maxLen) (hv : Vars w) :
    Calls Tryd.prog 7 #[.string s] w fun e w' => e = .returned (.bool true) ∧ Below w.heap.size w w' :=
  lawTermParts s w hm fun _ W hb => implTermParts s W (hv.below hb) hm
end Go.Proofs.YtnklajagefedmaaDoor
