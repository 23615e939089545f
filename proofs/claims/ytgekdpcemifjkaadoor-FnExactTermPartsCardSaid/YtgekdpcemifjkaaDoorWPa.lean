/-
  laws.FnExactTermParts, walked.
-/
import Derived.Test.YtgekdpcemifjkaaDoorTLaw2
import Derived.Test.YtgekdpcemifjkaaDoorM5
namespace Go.Proofs.YtgekdpcemifjkaaDoor
set_option maxRecDepth 100000
open Go.ChangeShapes Go.WideShapes Go.ChangeAt Go.RowKit

theorem walkTermParts (s : ByteArray) (w : World) (hm : s.size ≤ maxLen) (hv : Vars w) :
    Calls Tryd.prog 6 #[.string s] w fun e w' => e = .returned (.bool true) ∧ Below w.heap.size w w' :=
  lawTermParts s w hm fun _ W hb => implTermParts s W (hv.below hb) hm
end Go.Proofs.YtgekdpcemifjkaaDoor
