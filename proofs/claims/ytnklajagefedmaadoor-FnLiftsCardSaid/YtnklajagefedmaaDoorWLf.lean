/-
  laws.FnLifts, walked.
-/
import Derived.Test.YtnklajagefedmaaDoorFGen
import Derived.Test.YtnklajagefedmaaDoorOpenB
import Derived.Test.YtnklajagefedmaaDoorM7
namespace Go.Proofs.YtnklajagefedmaaDoor
set_option maxRecDepth 100000
open Go.ChangeShapes Go.WideShapes Go.ChangeAt Go.RowKit

theorem smallF {n : Nat} (h : n ≤ 1048576) : n ≤ maxLen := by unfold maxLen; omega
theorem walkLifts {v : Value} {l : List UInt8} (w : World) (hl : CameB w v l) (hm : l.length ≤ maxLen) (hv : Vars w) :
    Calls Tryd.prog 4 #[v] w fun e w' => e = .returned (.bool true) ∧ Below w.heap.size w w' :=
  lawLifts w hl hm (fun s x y h W hb => implLifted s x y W (hv.below hb) (smallF h)) (fun s t h h2 W hb => implPutIn s t W (hv.below hb) (smallF h) (smallF h2))
    (fun s h W hb => implTermOpen s W (hv.below hb) (smallF h)) (fun s h W hb => implTermSize s W (hv.below hb) (smallF h))
end Go.Proofs.YtnklajagefedmaaDoor
