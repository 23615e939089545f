/- VPutM VEndM -/
import Derived.Lib.AppendStr
import Derived.Test.YtgonemalnljabaaGreatDoorVA1
set_option maxRecDepth 100000
set_option maxHeartbeats 16000000
set_option linter.unusedSimpArgs false
set_option linter.unusedVariables false
namespace Go.Proofs.YtgonemalnljabaaGreatDoor
open Go.ChangeShapes Go.WideShapes Go.ChangeAt Go.RowKit
def putRes:Option (List UInt8)→Value
 | some t=>.tuple #[.string ⟨t.toArray⟩,.bool true]
 | none=>.tuple #[.string ⟨#[]⟩,.bool false]
theorem putF_nil (args:List (List UInt8)):putF args []=[]:=by rw [putF]
theorem putF_step (args:List (List UInt8)) {c:UInt8} (h:c≠117) (r:List UInt8):putF args (c :: r)=c :: putF args r:=by
 cases r with
 | nil=>rw [putF_nil,putF]
 | cons d r=>rw [putF,if_neg h]
theorem putF_par (args:List (List UInt8)) (d:UInt8) (r:List UInt8):putF args (117 :: d :: r)=args.getD (d.toNat - 48) [] ++ putF args r:=by
 rw [putF,if_pos rfl]
theorem own_sliceV {w:World} {b n:Nat} {v:Value} {xs:List Value} (h:w.ownsRow b 9 1 v n xs):∃ a cap,v=.slice a n cap:=by
 rcases h.2 with ⟨rfl,rfl⟩ | ⟨g,cap,cur,rfl,_⟩
 ·exact ⟨_,_,rfl⟩
 ·exact ⟨_,_,rfl⟩
theorem endV_ok {l:List UInt8} (h:l.length≤60):((endV (runE l 1 0)) == (l.length:Int))=levelOk l:=by
 rw [levelOk,decide_eq_true h,Bool.true_and,runE,List.drop_zero]
 cases hr:lend 1 l with
 | none=>simp [endV]
 | some k =>
  have e:((k:Int) == (l.length:Int))=decide (some k=some l.length):=by
   by_cases hk:k=l.length
   ·simp [hk]
   ·have h2:¬ ((k:Int)=(l.length:Int)):=by omega
    simp [hk,h2]
  simpa [endV] using e
end Go.Proofs.YtgonemalnljabaaGreatDoor
