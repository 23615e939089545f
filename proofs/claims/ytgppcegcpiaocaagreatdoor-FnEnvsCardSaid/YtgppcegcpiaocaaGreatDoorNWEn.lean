/- WEn -/
import Derived.Test.YtgppcegcpiaocaaGreatDoorNZQFn
import Derived.Test.YtgppcegcpiaocaaGreatDoorNV1
import Derived.Test.YtgppcegcpiaocaaGreatDoorNQI
import Derived.Test.YtgppcegcpiaocaaGreatDoorNQJ
import Derived.Test.YtgppcegcpiaocaaGreatDoorNP4
set_option maxRecDepth 100000
set_option maxHeartbeats 16000000
set_option linter.unusedSimpArgs false
set_option linter.unusedVariables false
namespace Go.Proofs.YtgppcegcpiaocaaGreatDoor
open Go.ChangeShapes Go.WideShapes Go.ChangeAt Go.RowKit
theorem walkEnvs{v:Value}{l:List UInt8}(w:World)(hl:cM w v l)(hn:l.length<=maxLen)(hv:Vars w)(hm:MaxLenInt w) :
  Rt 3 #[v] w (.bool true) :=
 lawEnvs w hl hn
  (fun _ _ _ hb h=>yE4 h (uY (nR 18)) (fun _ he=>fZ he) (hv.below hb) (hm.below hb) (Nat.le_trans yM5 (by decide)))
  (fun n hn _ _ _ hb h=>zS7 h (uY (nR 18)) (fun _ he=>fZ he) (hv.below hb) (hm.below hb) n hn)
  (fun n hn _ _ _ hb h=>zB6 h (uY (nR 18)) (fun _ he=>fZ he) (hv.below hb) (hm.below hb) n hn)
  (fun n hn _ h1 h2 _ _ _ _ _ hb h hl=>zR2 h (uY (nR 18)) (fun _ he=>fZ he) (hv.below hb) (hm.below hb) n hn hl h1 h2)
  (fun n hn _ h1 h2 _ _ _ _ _ hb h hl=>zI6 h (uY (nR 18)) (fun _ he=>fZ he) (hv.below hb) (hm.below hb) n hn hl h1 h2)
  (fun t ht _ hb=>zI8 ⟨t.toArray⟩ _ (hv.below hb) (by rw[yB];unfold maxLen;omega))
  (fun t ht _ hb=>zJ4 ⟨t.toArray⟩ _ (hv.below hb) (by rw[yB];unfold maxLen;omega))
end Go.Proofs.YtgppcegcpiaocaaGreatDoor
