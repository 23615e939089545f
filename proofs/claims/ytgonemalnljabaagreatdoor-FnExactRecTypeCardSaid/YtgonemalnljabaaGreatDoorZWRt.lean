/- WRt -/
import Derived.Test.YtgonemalnljabaaGreatDoorZKLawR
import Derived.Test.YtgonemalnljabaaGreatDoorZK6
import Derived.Test.YtgonemalnljabaaGreatDoorZOpenD
set_option maxRecDepth 100000
set_option maxHeartbeats 16000000
set_option linter.unusedSimpArgs false
set_option linter.unusedVariables false
namespace Go.Proofs.YtgonemalnljabaaGreatDoor
open Go.ChangeShapes Go.WideShapes Go.ChangeAt Go.RowKit
theorem walkRecType{d:Dc}{u:Value}(w:World)(hu:CameC w u d.ctors)(hf:d.Fits∧-9223372036854775808≤d.flags∧d.flags≤9223372036854775807)(hv:Vars w)(hm:MaxLenInt w) :
  Calls Tryz.prog 13 #[d.val u] w fun e w'=>e=.returned (.bool true)∧Below w.heap.size w w' :=
 lawRecType w hu hf.1 fun hs _ _ _ hb h=>implRecType h hs ⟨hf.2.1,hf.2.2⟩ (hv.below hb) (hm.below hb)
end Go.Proofs.YtgonemalnljabaaGreatDoor
