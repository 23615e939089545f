/-
  laws.FnShapes, walked.
-/
import Derived.Test.YtgielbamebjjdaaGreatDoorJF2
import Derived.Test.YtgielbamebjjdaaGreatDoorQ3
import Derived.Test.YtgielbamebjjdaaGreatDoorJI6
import Derived.Test.YtgielbamebjjdaaGreatDoorJI7
import Derived.Test.YtgielbamebjjdaaGreatDoorJF1
namespace Go.Proofs.YtgielbamebjjdaaGreatDoor
set_option maxRecDepth 100000
open Go.ChangeShapes Go.WideShapes Go.ChangeAt Go.RowKit

theorem smallK {n : Nat} (h : n ≤ 1048576) : n ≤ maxLen := by unfold maxLen; omega
theorem walkShapes {v : Value} {l : List UInt8} (w : World) (hl : CameB w v l) (hm : l.length ≤ maxLen) (hv : Vars w) (hM : MaxLenInt w) :
    Calls Tryz.prog 4 #[v] w fun e w' => e = .returned (.bool true) ∧ Below w.heap.size w w' :=
  lawShapes w hl hm (fun _ k hs hr _ _ _ hb h => implShapesOf h hs ⟨hr.1, hr.2⟩ (hv.below hb) (hM.below hb) k) (fun _ k hs hr _ _ _ hb h => implResultOk h hs ⟨hr.1, hr.2⟩ (hv.below hb) (hM.below hb) k)
    (fun _ hs hr _ _ _ hb h => implSelfConst h hs ⟨hr.1, hr.2⟩ (hv.below hb) (hM.below hb)) (fun _ hs hr _ _ _ hb h => implPositive h hs ⟨hr.1, hr.2⟩ (hv.below hb) (hM.below hb))
    (fun _ hs hr _ _ _ hb h => implLargeOk h hs ⟨hr.1, hr.2⟩ (hv.below hb) (hM.below hb)) (fun s n t _ _ h3 W hb => implArgShape s.data.toList n.data.toList t.data.toList W (hv.below hb) (smallK h3))
end Go.Proofs.YtgielbamebjjdaaGreatDoor
