/-
  laws.FnExactUsesIn, walked.
-/
import Derived.Test.YtgmjbdndffdpoaaGreatDoorEL2u
import Derived.Test.YtgmjbdndffdpoaaGreatDoorM8
namespace Go.Proofs.YtgmjbdndffdpoaaGreatDoor
set_option maxRecDepth 100000
open Go.ChangeShapes Go.WideShapes Go.ChangeAt Go.RowKit

theorem walkUsesIn (s : ByteArray) (w : World) (hm : s.size ≤ maxLen) (hv : Vars w) :
    Calls Tryz.prog 4 #[.string s] w fun e w' => e = .returned (.bool true) ∧ Below w.heap.size w w' :=
  lawUsesIn s w hm fun _ W hb => implUsesIn s W (hv.below hb) hm
end Go.Proofs.YtgmjbdndffdpoaaGreatDoor
