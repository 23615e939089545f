/-
  laws.FnExactLifted, walked.
-/
import Derived.Test.YtnklajagefedmaaDoorFLaw1
import Derived.Test.YtnklajagefedmaaDoorM7
namespace Go.Proofs.YtnklajagefedmaaDoor
set_option maxRecDepth 100000
open Go.ChangeShapes Go.WideShapes Go.ChangeAt Go.RowKit

theorem walkLifted (s : ByteArray) (x y : Int) (w : World) (hm : s.size ≤ maxLen) {p q : Prop} (_ : p) (_ : q) (hv : Vars w) :
    Calls Tryd.prog 11 #[.string s, .int .i64 x, .int .i64 y] w fun e w' => e = .returned (.bool true) ∧ Below w.heap.size w w' :=
  lawLifted s x y w hm fun _ W hb => implLifted s x y W (hv.below hb) hm
end Go.Proofs.YtnklajagefedmaaDoor
