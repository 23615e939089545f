/- WAw -/
import Derived.Test.YtgonemalnljabaaDoorYEL3
import Derived.Test.YtgonemalnljabaaDoorYR2
set_option maxRecDepth 100000
set_option maxHeartbeats 16000000
set_option linter.unusedSimpArgs false
set_option linter.unusedVariables false
namespace Go.Proofs.YtgonemalnljabaaDoor
open Go.ChangeShapes Go.WideShapes Go.ChangeAt Go.RowKit
theorem walkArrows (s:ByteArray) {v:Value} {args:List (List UInt8)} (w:World) (h:Came w v args) (hm:s.size≤maxLen) (hv:Vars w) :
  Calls Tryd.prog 3 #[v,.string s] w fun e w'=>e=.returned (.bool true)∧Below w.heap.size w w' :=
 lawArrows s w hm h fun _ h2 h3 _ _ _ hb hu=>implArrows s (hv.below hb) hm hu h2 h3
end Go.Proofs.YtgonemalnljabaaDoor
