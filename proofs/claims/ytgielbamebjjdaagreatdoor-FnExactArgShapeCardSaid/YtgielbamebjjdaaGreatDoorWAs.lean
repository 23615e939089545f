/-
  laws.FnExactArgShape, walked.
-/
import Derived.Test.YtgielbamebjjdaaGreatDoorJA
import Derived.Test.YtgielbamebjjdaaGreatDoorQ2
namespace Go.Proofs.YtgielbamebjjdaaGreatDoor
set_option maxRecDepth 100000
open Go.ChangeShapes Go.WideShapes Go.ChangeAt Go.RowKit

theorem smallJ {n : Nat} (h : n ≤ 1048576) : n ≤ maxLen := by unfold maxLen; omega
theorem walkArgShape (sf nm dm : ByteArray) (w : World) (h1 : sf.size ≤ maxLen) (h2 : nm.size ≤ maxLen) (h3 : dm.size ≤ maxLen) (hv : Vars w) :
    Calls Tryz.prog 7 #[.string sf, .string nm, .string dm] w fun e w' => e = .returned (.bool true) ∧ Below w.heap.size w w' :=
  lawArgShape sf nm dm w h1 h2 h3 fun _ _ k3 W hb => implArgShape sf.data.toList nm.data.toList dm.data.toList W (hv.below hb) (smallJ k3)
end Go.Proofs.YtgielbamebjjdaaGreatDoor
