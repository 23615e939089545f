/- WSp -/
import Derived.Test.YtgonemalnljabaaGreatDoorVSpines
import Derived.Test.YtgonemalnljabaaGreatDoorVQ1
import Derived.Test.YtgonemalnljabaaGreatDoorVR1
import Derived.Test.YtgonemalnljabaaGreatDoorVR2
import Derived.Test.YtgonemalnljabaaGreatDoorVEJ8P
import Derived.Test.YtgonemalnljabaaGreatDoorVNsImpl
set_option maxRecDepth 100000
set_option maxHeartbeats 16000000
set_option linter.unusedSimpArgs false
set_option linter.unusedVariables false
namespace Go.Proofs.YtgonemalnljabaaGreatDoor
open Go.ChangeShapes Go.WideShapes Go.ChangeAt Go.RowKit
theorem smallS {n:Nat} (h:n≤1048576):n≤maxLen:=by unfold maxLen;omega
theorem walkSpines {v:Value} {l:List UInt8} (w:World) (hl:CameB w v l) (hm:l.length≤maxLen) (hv:Vars w) :
  Calls Tryz.prog 3 #[v] w fun e w'=>e=.returned (.bool true)∧Below w.heap.size w w' :=
 lawSpines w hl hm (fun s h W hb=>implHeadOf s W (hv.below hb) (smallS h)) (fun s h W hb=>implArgsOf s W (hv.below hb) (smallS h))
  (fun s h W hb=>implDomains s W (hv.below hb) (smallS h)) (fun s h W hb=>implTarget s W (hv.below hb) (smallS h))
  (fun s _ h h2 h3 _ _ _ hb hu=>implGiven s (hv.below hb) (smallS h) hu h2 h3) (fun s _ h h2 h3 _ _ _ hb hu=>implArrows s (hv.below hb) (smallS h) hu h2 h3)
  (fun s h W hb=>implUsesIn s W (hv.below hb) (smallS h)) (fun _ h h2 _ _ _ _ hu=>implNamesOk hu h (fun x hx=>smallS (h2 x hx))) (fun s y h _ W hb=>implHasName s y W (hv.below hb) (smallS h))
end Go.Proofs.YtgonemalnljabaaGreatDoor
