/-
  laws.FnExactHasName, walked.
-/
import Derived.Test.YtgielbamebjjdaaDoorE3
import Derived.Test.YtgielbamebjjdaaDoorQ1
namespace Go.Proofs.YtgielbamebjjdaaDoor
set_option maxRecDepth 100000
open Go.ChangeShapes Go.WideShapes Go.ChangeAt Go.RowKit

theorem walkHasName (s y : ByteArray) (w : World) (hm : s.size ≤ maxLen) (hm2 : y.size ≤ maxLen) (hv : Vars w) :
    Calls Tryd.prog 3 #[.string s, .string y] w fun e w' => e = .returned (.bool true) ∧ Below w.heap.size w w' :=
  lawHasName s y w hm hm2 fun _ _ W hb => implHasName s y W (hv.below hb) hm
end Go.Proofs.YtgielbamebjjdaaDoor
