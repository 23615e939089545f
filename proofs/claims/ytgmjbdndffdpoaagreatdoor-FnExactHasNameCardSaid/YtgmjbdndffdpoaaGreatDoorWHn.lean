/-
  laws.FnExactHasName, walked.
-/
import Derived.Test.YtgmjbdndffdpoaaGreatDoorEL4
import Derived.Test.YtgmjbdndffdpoaaGreatDoorM8
namespace Go.Proofs.YtgmjbdndffdpoaaGreatDoor
set_option maxRecDepth 100000
open Go.ChangeShapes Go.WideShapes Go.ChangeAt Go.RowKit

theorem walkHasName (s y : ByteArray) (w : World) (hm : s.size ≤ maxLen) (hm2 : y.size ≤ maxLen) (hv : Vars w) :
    Calls Tryz.prog 5 #[.string s, .string y] w fun e w' => e = .returned (.bool true) ∧ Below w.heap.size w w' :=
  lawHasName s y w hm hm2 fun _ _ W hb => implHasName s y W (hv.below hb) hm
end Go.Proofs.YtgmjbdndffdpoaaGreatDoor
