/- EJ4P -/
import Derived.RangeFuncKeeps
import Derived.RangeFuncBound
import Derived.RangeFuncLeaves
import Derived.Shelf.Abstract
import Derived.WalkKit
import Derived.OwnWalkIn
import Derived.TacticsInMore
import Derived.LoopNIn
import Derived.LoopIn
import Derived.Test.YtgonemalnljabaaDoorYE1
import Derived.Test.YtgonemalnljabaaDoorYP1
set_option maxRecDepth 100000
set_option maxHeartbeats 16000000
set_option linter.unusedSimpArgs false
set_option linter.unusedVariables false
namespace Go.Proofs.YtgonemalnljabaaDoor
open Go.ChangeShapes Go.WideShapes Go.ChangeAt Go.RowKit Go.Shelf
attribute [local go_sem] Oper.semAt_some
abbrev Pq (W0:World):={ p:Tm × Value // IRep W0 p.1 p.2 }
def treesQ {W0:World} (l:List (Pq W0)):List Tm:=l.map fun x=>x.1.1
theorem treesQ_len {W0:World} (l:List (Pq W0)):(treesQ l).length=l.length:=by simp [treesQ]
end Go.Proofs.YtgonemalnljabaaDoor
