/-
  laws.FnExactGiven, walked.
-/
import Derived.Test.YtgmjbdndffdpoaaDoorEL3
import Derived.Test.YtgmjbdndffdpoaaDoorM6
namespace Go.Proofs.YtgmjbdndffdpoaaDoor
set_option maxRecDepth 100000
open Go.ChangeShapes Go.WideShapes Go.ChangeAt Go.RowKit

theorem walkGiven (s : ByteArray) {v : Value} {args : List (List UInt8)} (w : World) (hm : s.size ≤ maxLen) (h : Came w v args) (hv : Vars w) :
    Calls Tryd.prog 5 #[.string s, v] w fun e w' => e = .returned (.bool true) ∧ Below w.heap.size w w' :=
  lawGiven s w hm h fun _ h2 h3 _ _ _ hb hu => implGiven s (hv.below hb) hm hu h2 h3
end Go.Proofs.YtgmjbdndffdpoaaDoor
