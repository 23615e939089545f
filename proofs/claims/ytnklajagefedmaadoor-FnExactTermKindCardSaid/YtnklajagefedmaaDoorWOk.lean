/-
  laws.FnExactTermOk, TermKind and TermSize, walked.
-/
import Derived.Test.YtnklajagefedmaaDoorTLaw1
import Derived.Test.YtnklajagefedmaaDoorM3
namespace Go.Proofs.YtnklajagefedmaaDoor
set_option maxRecDepth 100000
open Go.ChangeShapes Go.WideShapes Go.ChangeAt Go.RowKit

theorem walkTermOk (s : ByteArray) (w : World) (hm : s.size ≤ maxLen) (hv : Vars w) :
    Calls Tryd.prog 5 #[.string s] w fun e w' => e = .returned (.bool true) ∧ Below w.heap.size w w' :=
  lawTermOk s w hm fun _ W hb => implTermOk s W (hv.below hb) hm
theorem walkTermKind (s : ByteArray) (w : World) (hm : s.size ≤ maxLen) (hv : Vars w) :
    Calls Tryd.prog 6 #[.string s] w fun e w' => e = .returned (.bool true) ∧ Below w.heap.size w w' :=
  lawTermKind s w hm fun h W hb => implTermKind s W (hv.below hb) (by omega)
theorem walkTermSize (s : ByteArray) (w : World) (hm : s.size ≤ maxLen) (hv : Vars w) :
    Calls Tryd.prog 8 #[.string s] w fun e w' => e = .returned (.bool true) ∧ Below w.heap.size w w' :=
  lawTermSize s w hm fun _ W hb => implTermSize s W (hv.below hb) hm
end Go.Proofs.YtnklajagefedmaaDoor
