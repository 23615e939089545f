/- WEt -/
import Derived.Test.YtcaahdjhbmmcnaaGreatDoorTQT
import Derived.Test.YtcaahdjhbmmcnaaGreatDoorTQJ
set_option maxRecDepth 100000
set_option maxHeartbeats 16000000
set_option linter.unusedSimpArgs false
set_option linter.unusedVariables false
namespace Go.Proofs.YtcaahdjhbmmcnaaGreatDoor
open Go.ChangeShapes Go.WideShapes Go.ChangeAt Go.RowKit
theorem walkTypeFor{env:List En}{v lv:Value}{ls:List (List UInt8)}(n:ByteArray)(w:World)(hc:fG w v env)(hn:n.size<=maxLen)(hlv:xC4 w lv ls)(hv:Vars w)(hm:MaxLenInt w) :
  Rt 5 #[v,.string n,lv] w (.bool true) :=
 zY2 n w hc hn hlv fun hs hl h2 h3 _ _ _ _ _ hb h hl4=>zM2 h hs hc.rng (hv.below hb) (hm.below hb) n.data.toList (by show n.size<=_;omega) hl4 h2 h3
end Go.Proofs.YtcaahdjhbmmcnaaGreatDoor
