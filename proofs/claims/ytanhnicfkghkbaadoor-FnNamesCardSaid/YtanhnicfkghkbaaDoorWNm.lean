/-
  FnNames with the program's contracts.
-/
import Derived.Test.YtanhnicfkghkbaaDoorNmL
import Derived.Test.YtanhnicfkghkbaaDoorSU2
import Derived.Test.YtanhnicfkghkbaaDoorOpenB
namespace Go.Proofs.YtanhnicfkghkbaaDoor
open Go.ChangeShapes Go.WideShapes Go.ChangeAt Go.RowKit

theorem walkNames {v : Value} {l : List UInt8} (w : World) (hl : CameB w v l) (hnil : NilB v) (hm : l.length ≤ maxLen) (hv : MaxLenInt w) :
    Calls Tryd.prog 3 #[v] w fun e w' => e = .returned (.bool true) ∧ Below w.heap.size w w' :=
  lawNames w hl hnil hm hv fun _ _ _ _ _ _ _ h1 h2 h3 h4 => implNamesBoth h1 h2 h3 h4
end Go.Proofs.YtanhnicfkghkbaaDoor
