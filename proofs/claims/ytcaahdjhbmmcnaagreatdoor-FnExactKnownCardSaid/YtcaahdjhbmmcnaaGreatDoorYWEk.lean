/- WEk -/
import Derived.Test.YtcaahdjhbmmcnaaGreatDoorYQK
import Derived.Test.YtcaahdjhbmmcnaaGreatDoorYQX
import Derived.Test.YtcaahdjhbmmcnaaGreatDoorYQT
set_option maxRecDepth 100000
set_option maxHeartbeats 16000000
set_option linter.unusedSimpArgs false
set_option linter.unusedVariables false
namespace Go.Proofs.YtcaahdjhbmmcnaaGreatDoor
open Go.ChangeShapes Go.WideShapes Go.ChangeAt Go.RowKit
theorem walkKnown {env:List En} {v:Value} (w:World) (hc:CameE w v env) (hv:Vars w) (hm:MaxLenInt w) :
  Rt 7 #[v] w (.bool true) :=
 lawKnown w hc fun hs hl _ _ _ hb h=>implKnownE h hs hc.rng (hv.below hb) (hm.below hb) hl
end Go.Proofs.YtcaahdjhbmmcnaaGreatDoor
