/-
  laws.FnExactNamesOf, walked.
-/
import Derived.Test.YtgielbamebjjdaaGreatDoorK2
import Derived.Test.YtgielbamebjjdaaGreatDoorK3
import Derived.Test.YtgielbamebjjdaaGreatDoorOpenD
namespace Go.Proofs.YtgielbamebjjdaaGreatDoor
set_option maxRecDepth 100000
open Go.ChangeShapes Go.WideShapes Go.ChangeAt Go.RowKit

theorem walkNamesOf {d : Dc} {u : Value} (w : World) (hu : CameC w u d.ctors) (hf : d.Fits ∧ -9223372036854775808 ≤ d.flags ∧ d.flags ≤ 9223372036854775807) (hv : Vars w) (hm : MaxLenInt w) :
    Calls Tryz.prog 6 #[d.val u] w fun e w' => e = .returned (.bool true) ∧ Below w.heap.size w w' :=
  lawNamesOf w hu hf.1 fun hs _ _ _ hb h => implNamesOf h hs ⟨hf.2.1, hf.2.2⟩ (hv.below hb) (hm.below hb)
end Go.Proofs.YtgielbamebjjdaaGreatDoor
