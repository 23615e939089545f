/-
  laws.FnExactArrows, walked.
-/
import Derived.Test.YtgmjbdndffdpoaaDoorEL3
import Derived.Test.YtgmjbdndffdpoaaDoorM7
namespace Go.Proofs.YtgmjbdndffdpoaaDoor
set_option maxRecDepth 100000
open Go.ChangeShapes Go.WideShapes Go.ChangeAt Go.RowKit

theorem walkArrows (s : ByteArray) {v : Value} {args : List (List UInt8)} (w : World) (h : Came w v args) (hm : s.size ≤ maxLen) (hv : Vars w) :
    Calls Tryd.prog 8 #[v, .string s] w fun e w' => e = .returned (.bool true) ∧ Below w.heap.size w w' :=
  lawArrows s w hm h fun _ h2 h3 _ _ _ hb hu => implArrows s (hv.below hb) hm hu h2 h3
end Go.Proofs.YtgmjbdndffdpoaaDoor
