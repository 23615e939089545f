/- WRc -/
import Derived.Test.YtgonemalnljabaaGreatDoorXKGen
import Derived.Test.YtgonemalnljabaaGreatDoorXK7
import Derived.Test.YtgonemalnljabaaGreatDoorXP4
import Derived.Test.YtgonemalnljabaaGreatDoorXQ1
import Derived.Test.YtgonemalnljabaaGreatDoorXKQ
import Derived.Test.YtgonemalnljabaaGreatDoorXJF1
set_option maxRecDepth 100000
set_option maxHeartbeats 16000000
set_option linter.unusedSimpArgs false
set_option linter.unusedVariables false
namespace Go.Proofs.YtgonemalnljabaaGreatDoor
open Go.ChangeShapes Go.WideShapes Go.ChangeAt Go.RowKit
theorem smallR {n m:Nat} (h:n≤1048576) (hm:1048576≤m):n≤m:=Nat.le_trans h hm
theorem maxR:1048576≤maxLen:=by unfold maxLen;omega
theorem walkRecursors {v:Value} {l:List UInt8} (w:World) (hl:CameB w v l) (hm:l.length≤maxLen) (hv:Vars w) (hM:MaxLenInt w) :
  Calls Tryz.prog 5 #[v] w fun e w'=>e=.returned (.bool true)∧Below w.heap.size w w' :=
 lawRecursors w hl hm (fun _ hs hr _ _ _ hb h=>implRecType h hs ⟨hr.1,hr.2⟩ (hv.below hb) (hM.below hb))
  (fun _ hs hr _ _ _ hb h=>implRecLevels h hs ⟨hr.1,hr.2⟩ (hv.below hb) (hM.below hb))
  (fun _ hs hr _ _ _ hb h=>implMotiveSort h hs ⟨hr.1,hr.2⟩ (hv.below hb) (hM.below hb))
  (fun _ k hs hr _ _ _ hb h=>implMinorType h hs ⟨hr.1,hr.2⟩ (hv.below hb) (hM.below hb) k)
  (fun _ k _ _ hs hr hp hc h1 h2 h3 h4 _ _ _ _ _ _ _ hb h r1 r2=>implRecStepNil h hs ⟨hr.1,hr.2⟩ (hv.below hb) (hM.below hb) k hp hc h1 h2 h3 h4 r1 r2)
  (fun _ k _ _ _ hs hr hc _ _ _ _ _ _ _ _ _ _ _ _ _ _ _ hb h r1 r2 r3=>implRecStepNo h hs ⟨hr.1,hr.2⟩ (hv.below hb) (hM.below hb) k hc _ _ _ r1 r2 r3)
  (fun s h W hb=>implTermOpen s W (hv.below hb) (smallR h maxR)) (fun s h W hb=>implTermKind s W (hv.below hb) (smallR h (by decide)))
  (fun s h W hb=>implDomains s W (hv.below hb) (smallR h maxR)) (fun n W hb=>implVarText n W (hv.below hb))
end Go.Proofs.YtgonemalnljabaaGreatDoor
