/- JI6 -/
import Derived.Test.YtgonemalnljabaaGreatDoorZQ2
import Derived.Test.YtgonemalnljabaaGreatDoorZP6
import Derived.Test.YtgonemalnljabaaGreatDoorZP8
set_option maxRecDepth 100000
set_option maxHeartbeats 16000000
set_option linter.unusedSimpArgs false
set_option linter.unusedVariables false
namespace Go.Proofs.YtgonemalnljabaaGreatDoor
open Go.ChangeShapes Go.WideShapes Go.ChangeAt Go.RowKit
theorem slicesIndexI{w:World}{b:Nat}{v:Value}{l:List Int}(h:w.ownsRow b 3 1 v l.length (l.map iv))(x:Int)(hn:l.length≤10000000) :
  Calls Tryz.prog 142 #[v,.int .i64 x] w fun e w'=>(∃ r:Int,e=.returned (.int .i64 r)∧(0≤r↔x∈l))∧w'=w:=by
 obtain⟨a0,cap,rfl⟩:=own_sliceI h
 have HL:=Ld h
 clear h
 go_enter Tryz.func142,Tryz.ntmps142
 go_wp2
 go_loopw [8] (fun i wr=>∃ k:Nat,k≤l.length∧i=.int .i64 k∧wr=w∧Hid (∀ j (hj:j<l.length),j<k→l[j]≠x)) (fun i _=>l.length - (intOf i).toNat)
 case atStart=>exact⟨0,Nat.zero_le _,rfl,rfl,fun j _ hj=>by omega⟩
 case round =>
  obtain⟨k,hk,rfl,rfl,HN⟩:=hrel
  by_cases hlt:k<l.length
  ·obtain⟨g,cap',e0,_,hgl⟩:=HL.out.form (by omega)
   cases e0
   have ex:(l.map iv)[k]?=some (iv l[k]):=by simp[hlt]
   have cc:=(HL.out.cellAt k (by omega)).trans ex
   unfold iv at cc
   have q1:(0:Int)≤(k:Int):=by omega
   have q2:(k:Int)<(l.length:Int):=by omega
   have HM:=Ld (List.getElem_mem hlt)
   by_cases hx:l[k]=x
   ·have HE:Hid ((0:Int)≤(k:Int)↔x∈l):=⟨fun _=>by rw[← hx];exact HM.out,fun _=>q1⟩
    have d1:(x==l[k])=true:=by rw[beq_iff_eq];exact hx.symm
    clear ex HN hx HL
    generalize l[k]=y at cc d1 HM
    go_wp2
    go_ret
    exact⟨⟨_,rfl,HE.out⟩,rfl⟩
   ·have HN2:Hid (∀ j (hj:j<l.length),j<k+1→l[j]≠x):=fun j hj hjk=>if e:j=k then by subst e;exact hx else HN.out j hj (by omega)
    have d1:(x==l[k])=false:=by rw[beq_eq_false_iff_ne];exact fun e=>hx e.symm
    clear ex HN hx HL
    generalize l[k]=y at cc d1 HM
    go_wp2
    go_roundw
    case rel=>exact⟨k+1,by omega,by go_num,trivial,HN2.out⟩
    case measure=>simp[intOf];omega
  ·have HE:Hid ((0:Int)≤-1↔x∈l):=by
    refine⟨fun h=>absurd h (by decide),fun h=>?_⟩
    obtain⟨j,hj,e⟩:=List.getElem_of_mem h
    exact absurd e (HN.out j hj (by omega))
   clear HN HL
   go_wp2
   go_ret
   exact⟨⟨_,rfl,HE.out⟩,rfl⟩
theorem slicesContainsI{w:World}{b:Nat}{v:Value}{l:List Int}(h:w.ownsRow b 3 1 v l.length (l.map iv))(x:Int)(hn:l.length≤10000000) :
  Calls Tryz.prog 88 #[v,.int .i64 x] w fun e w'=>e=.returned (.bool (decide (x∈l)))∧w'=w:=by
 have f1:=Ld (slicesIndexI h x hn)
 obtain⟨a0,cap,rfl⟩:=own_sliceI h
 clear h hn
 go_enter Tryz.func88,Tryz.ntmps88
 go_wp2_with fail
 (with_reducible refine f1.out.mono ?_);rintro e w1 ⟨⟨r,rfl,hr⟩,rfl⟩
 have HE:Hid (decide ((0:Int)≤r)=decide (x∈l)):=decide_eq_decide.2 hr
 obtain⟨z,hz⟩:∃ z,decide ((0:Int)≤r)=z:=⟨_,rfl⟩
 rw[hz] at HE
 clear hr f1
 go_wp2
 go_ret
 rw[← HE.out]
 exact⟨rfl,rfl⟩
end Go.Proofs.YtgonemalnljabaaGreatDoor
