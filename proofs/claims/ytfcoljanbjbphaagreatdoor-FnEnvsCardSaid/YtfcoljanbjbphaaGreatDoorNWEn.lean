/- WEn -/
import Derived.Test.YtfcoljanbjbphaaGreatDoorNZQFn
import Derived.Test.YtfcoljanbjbphaaGreatDoorNQI
import Derived.Test.YtfcoljanbjbphaaGreatDoorNQJ
import Derived.Test.YtfcoljanbjbphaaGreatDoorNP4
set_option maxRecDepth 100000
set_option maxHeartbeats 16000000
set_option linter.unusedSimpArgs false
set_option linter.unusedVariables false
namespace Go.Proofs.YtfcoljanbjbphaaGreatDoor
open Go.ChangeShapes Go.WideShapes Go.ChangeAt Go.RowKit
theorem walkEnvs{v:Value}{l:List UInt8}(w:World)(hl:CameB w v l)(hn:l.length<=maxLen)(hv:Vars w)(hm:MaxLenInt w) :
  Rt 3 #[v] w (.bool true) :=
 lawEnvs w hl hn
  (fun _ _ _ hb h=>implKnownE h (uX (nR 18)) (fun _ he=>eD he) (hv.below hb) (hm.below hb) (Nat.le_trans lib_few (by decide)))
  (fun n hn _ _ _ hb h=>implFoundIn h (uX (nR 18)) (fun _ he=>eD he) (hv.below hb) (hm.below hb) n hn)
  (fun n hn _ _ _ hb h=>implLevelsFor h (uX (nR 18)) (fun _ he=>eD he) (hv.below hb) (hm.below hb) n hn)
  (fun n hn _ h1 h2 _ _ _ _ _ hb h hl=>implTypeFor h (uX (nR 18)) (fun _ he=>eD he) (hv.below hb) (hm.below hb) n hn hl h1 h2)
  (fun n hn _ h1 h2 _ _ _ _ _ hb h hl=>implValueFor h (uX (nR 18)) (fun _ he=>eD he) (hv.below hb) (hm.below hb) n hn hl h1 h2)
  (fun t ht _ hb=>implTermOpen ⟨t.toArray⟩ _ (hv.below hb) (by rw[yB];unfold maxLen;omega))
  (fun t ht _ hb=>implParamsIn ⟨t.toArray⟩ _ (hv.below hb) (by rw[yB];unfold maxLen;omega))
end Go.Proofs.YtfcoljanbjbphaaGreatDoor
