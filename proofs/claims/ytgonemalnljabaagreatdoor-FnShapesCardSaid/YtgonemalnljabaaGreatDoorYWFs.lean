/- WFs -/
import Derived.Test.YtgonemalnljabaaGreatDoorYJGen
import Derived.Test.YtgonemalnljabaaGreatDoorYQ3
import Derived.Test.YtgonemalnljabaaGreatDoorYJI6
import Derived.Test.YtgonemalnljabaaGreatDoorYJI7
import Derived.Test.YtgonemalnljabaaGreatDoorYJF1
set_option maxRecDepth 100000
set_option maxHeartbeats 16000000
set_option linter.unusedSimpArgs false
set_option linter.unusedVariables false
namespace Go.Proofs.YtgonemalnljabaaGreatDoor
open Go.ChangeShapes Go.WideShapes Go.ChangeAt Go.RowKit
theorem smallK {n:Nat} (h:n≤1048576):n≤maxLen:=by unfold maxLen;omega
theorem walkShapes {v:Value} {l:List UInt8} (w:World) (hl:CameB w v l) (hm:l.length≤maxLen) (hv:Vars w) (hM:MaxLenInt w) :
  Calls Tryz.prog 4 #[v] w fun e w'=>e=.returned (.bool true)∧Below w.heap.size w w' :=
 lawShapes w hl hm (fun _ k hs hr _ _ _ hb h=>implShapesOf h hs ⟨hr.1,hr.2⟩ (hv.below hb) (hM.below hb) k) (fun _ k hs hr _ _ _ hb h=>implResultOk h hs ⟨hr.1,hr.2⟩ (hv.below hb) (hM.below hb) k)
  (fun _ hs hr _ _ _ hb h=>implSelfConst h hs ⟨hr.1,hr.2⟩ (hv.below hb) (hM.below hb)) (fun _ hs hr _ _ _ hb h=>implPositive h hs ⟨hr.1,hr.2⟩ (hv.below hb) (hM.below hb))
  (fun _ hs hr _ _ _ hb h=>implLargeOk h hs ⟨hr.1,hr.2⟩ (hv.below hb) (hM.below hb)) (fun s n t _ _ h3 W hb=>implArgShape s.data.toList n.data.toList t.data.toList W (hv.below hb) (smallK h3))
end Go.Proofs.YtgonemalnljabaaGreatDoor
