/-
  laws.FnExactTermLevels, walked.
-/
import Derived.Test.YtnklajagefedmaaGreatDoorFLvL
import Derived.Test.YtnklajagefedmaaGreatDoorM8
namespace Go.Proofs.YtnklajagefedmaaGreatDoor
set_option maxRecDepth 100000
open Go.ChangeShapes Go.WideShapes Go.ChangeAt Go.RowKit

theorem walkTermLevels (s : ByteArray) {v : Value} {args : List (List UInt8)} (w : World) (hm : s.size ≤ maxLen) (h : Came w v args) (hv : Vars w) :
    Calls Tryz.prog 3 #[.string s, v] w fun e w' => e = .returned (.bool true) ∧ Below w.heap.size w w' :=
  lawTermLevels s w hm h fun _ h2 h3 W _ _ hb hu => implTermLevels s (hv.below hb) hm hu (fun x hx => by have := h3 x hx; unfold maxLen; omega) (by omega)
end Go.Proofs.YtnklajagefedmaaGreatDoor
