/- WEi -/
import Derived.Test.YtcaahdjhbmmcnaaGreatDoorYQD
import Derived.Test.YtcaahdjhbmmcnaaGreatDoorYQJ
import Derived.Test.YtcaahdjhbmmcnaaGreatDoorYQT
set_option maxRecDepth 100000
set_option maxHeartbeats 16000000
set_option linter.unusedSimpArgs false
set_option linter.unusedVariables false
namespace Go.Proofs.YtcaahdjhbmmcnaaGreatDoor
open Go.ChangeShapes Go.WideShapes Go.ChangeAt Go.RowKit
theorem walkFoundIn {env:List En} {v:Value} (n:ByteArray) (w:World) (hc:CameE w v env) (hn:n.size<=maxLen) (hv:Vars w) (hm:MaxLenInt w) :
  Rt 3 #[v,.string n] w (.bool true) :=
 lawFoundIn n w hc hn fun hs hl _ _ _ hb h=>implFoundIn h hs hc.rng (hv.below hb) (hm.below hb) n.data.toList (by show n.size<=_;omega)
end Go.Proofs.YtcaahdjhbmmcnaaGreatDoor
