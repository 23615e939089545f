/- WRo -/
import Derived.Test.YtgonemalnljabaaGreatDoorYJR
import Derived.Test.YtgonemalnljabaaGreatDoorYQ3
import Derived.Test.YtgonemalnljabaaGreatDoorYOpenD
set_option maxRecDepth 100000
set_option maxHeartbeats 16000000
set_option linter.unusedSimpArgs false
set_option linter.unusedVariables false
namespace Go.Proofs.YtgonemalnljabaaGreatDoor
open Go.ChangeShapes Go.WideShapes Go.ChangeAt Go.RowKit
theorem walkResultOk {d:Dc} {u:Value} (k:Int) (w:World) (hu:CameC w u d.ctors) (hf:d.Fits∧-9223372036854775808≤d.flags∧d.flags≤9223372036854775807) {p:Prop} (_:p) (hv:Vars w) (hm:MaxLenInt w) :
  Calls Tryz.prog 8 #[d.val u,.int .i64 k] w fun e w'=>e=.returned (.bool true)∧Below w.heap.size w w' :=
 lawResultOk k w hu hf.1 fun hs _ _ _ hb h=>implResultOk h hs ⟨hf.2.1,hf.2.2⟩ (hv.below hb) (hm.below hb) k
end Go.Proofs.YtgonemalnljabaaGreatDoor
