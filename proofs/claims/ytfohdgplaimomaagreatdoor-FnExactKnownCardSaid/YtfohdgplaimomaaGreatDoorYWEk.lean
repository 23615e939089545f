/- WEk -/
import Derived.Test.YtfohdgplaimomaaGreatDoorYQK
import Derived.Test.YtfohdgplaimomaaGreatDoorYQX
import Derived.Test.YtfohdgplaimomaaGreatDoorYQO
set_option maxRecDepth 100000
set_option maxHeartbeats 16000000
set_option linter.unusedSimpArgs false
set_option linter.unusedVariables false
namespace Go.Proofs.YtfohdgplaimomaaGreatDoor
open Go.ChangeShapes Go.WideShapes Go.ChangeAt Go.RowKit
theorem walkKnown {env:List En} {v:Value} (w:World) (hc:CameE w v env) (hv:Vars w) (hm:MaxLenInt w) :
  Calls Tryz.prog 7 #[v] w fun e w'=>e=.returned (.bool true)∧Below w.heap.size w w' :=
 lawKnown w hc fun hs hl _ _ _ hb h=>implKnownE h hs hc.rng (hv.below hb) (hm.below hb) hl
end Go.Proofs.YtfohdgplaimomaaGreatDoor
