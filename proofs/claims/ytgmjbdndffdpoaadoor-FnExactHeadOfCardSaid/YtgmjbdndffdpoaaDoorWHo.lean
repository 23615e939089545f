/-
  laws.FnExactHeadOf and Target, walked.
-/
import Derived.Test.YtgmjbdndffdpoaaDoorEL1
import Derived.Test.YtgmjbdndffdpoaaDoorO1
namespace Go.Proofs.YtgmjbdndffdpoaaDoor
set_option maxRecDepth 100000
open Go.ChangeShapes Go.WideShapes Go.ChangeAt Go.RowKit

theorem walkHeadOf (s : ByteArray) (w : World) (hm : s.size ≤ maxLen) (hv : Vars w) :
    Calls Tryd.prog 3 #[.string s] w fun e w' => e = .returned (.bool true) ∧ Below w.heap.size w w' :=
  lawHeadOf s w hm fun _ W hb => implHeadOf s W (hv.below hb) hm
theorem walkTarget (s : ByteArray) (w : World) (hm : s.size ≤ maxLen) (hv : Vars w) :
    Calls Tryd.prog 7 #[.string s] w fun e w' => e = .returned (.bool true) ∧ Below w.heap.size w w' :=
  lawTarget s w hm fun _ W hb => implTarget s W (hv.below hb) hm
end Go.Proofs.YtgmjbdndffdpoaaDoor
