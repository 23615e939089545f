/-
  laws.FnExactArgsOf and Domains, walked.
-/
import Derived.Test.YtgmjbdndffdpoaaDoorEL2
import Derived.Test.YtgmjbdndffdpoaaDoorO5
namespace Go.Proofs.YtgmjbdndffdpoaaDoor
set_option maxRecDepth 100000
open Go.ChangeShapes Go.WideShapes Go.ChangeAt Go.RowKit

theorem walkArgsOf (s : ByteArray) (w : World) (hm : s.size ≤ maxLen) (hv : Vars w) :
    Calls Tryd.prog 4 #[.string s] w fun e w' => e = .returned (.bool true) ∧ Below w.heap.size w w' :=
  lawArgsOf s w hm fun _ W hb => implArgsOf s W (hv.below hb) hm
theorem walkDomains (s : ByteArray) (w : World) (hm : s.size ≤ maxLen) (hv : Vars w) :
    Calls Tryd.prog 6 #[.string s] w fun e w' => e = .returned (.bool true) ∧ Below w.heap.size w w' :=
  lawDomains s w hm fun _ W hb => implDomains s W (hv.below hb) hm
end Go.Proofs.YtgmjbdndffdpoaaDoor
