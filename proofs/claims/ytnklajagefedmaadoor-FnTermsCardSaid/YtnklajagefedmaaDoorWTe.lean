/-
  laws.FnTerms, walked.
-/
import Derived.Test.YtnklajagefedmaaDoorTGen
import Derived.Test.YtnklajagefedmaaDoorOpenB
import Derived.Test.YtnklajagefedmaaDoorM5
import Derived.Test.YtnklajagefedmaaDoorM6
namespace Go.Proofs.YtnklajagefedmaaDoor
set_option maxRecDepth 100000
open Go.ChangeShapes Go.WideShapes Go.ChangeAt Go.RowKit

theorem smallT {n : Nat} (h : n ≤ 1048576) : n ≤ maxLen := by unfold maxLen; omega
theorem walkTerms {v : Value} {l : List UInt8} (w : World) (hl : CameB w v l) (hm : l.length ≤ maxLen) (hv : Vars w) :
    Calls Tryd.prog 3 #[v] w fun e w' => e = .returned (.bool true) ∧ Below w.heap.size w w' :=
  lawTerms w hl hm (fun s h W hb => implTermOk s W (hv.below hb) (smallT h)) (fun s h W hb => implTermKind s W (hv.below hb) (by omega)) (fun s h W hb => implTermParts s W (hv.below hb) (smallT h))
    (fun s h W hb => implTermSize s W (hv.below hb) (smallT h)) (fun s h W hb => implTermOpen s W (hv.below hb) (smallT h)) (fun n W hb => implVarText n W (hv.below hb))
    (fun s _ h h2 h3 _ _ _ _ hu => implConstText s hu (smallT h) (fun x hx => smallT (h3 x hx)) (by omega)) (fun s h W hb => implConstIn s W (hv.below hb) (smallT h))
end Go.Proofs.YtnklajagefedmaaDoor
