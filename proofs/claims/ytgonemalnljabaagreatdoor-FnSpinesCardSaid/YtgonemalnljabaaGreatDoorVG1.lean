/- HeldW TCon -/
import Derived.Deep.RegionHeld3
import Derived.Test.YtgonemalnljabaaGreatDoorVBase
import Derived.Test.YtgonemalnljabaaGreatDoorVA1
import Derived.Test.YtgonemalnljabaaGreatDoorVV1
set_option maxRecDepth 100000
set_option maxHeartbeats 16000000
set_option linter.unusedSimpArgs false
set_option linter.unusedVariables false
namespace Go.Proofs.YtgonemalnljabaaGreatDoor
open Go.ChangeShapes Go.WideShapes Go.ChangeAt Go.RowKit
section
variable {P:Program} {ops:Array Oper} {Q:Exit→Act→World→Prop} {md:Region.Mode} {S:World→Prop}
end
theorem con_start (n:ByteArray):(⟨#[99]⟩:ByteArray) ++ n ++ ⟨#[59]⟩=⟨(99 :: (n.data.toList ++ 59 :: lvsB [])).toArray⟩:=by
 apply ByteArray.ext
 simp [lvsB]
theorem con_step (n:List UInt8) (ls:List (List UInt8)) (k:Nat) (hk:k < ls.length):(⟨(99 :: (n ++ 59 :: lvsB (ls.take k))).toArray⟩:ByteArray) ++ ⟨ls[k].toArray⟩ ++ ⟨#[44]⟩=⟨(99 :: (n ++ 59 :: lvsB (ls.take (k+1)))).toArray⟩:=by
 apply ByteArray.ext
 rw [List.take_succ_eq_append_getElem hk,lvsB_append]
 simp [lvsB]
theorem con_end (n:List UInt8) (ls:List (List UInt8)):(⟨(99 :: (n ++ 59 :: lvsB ls)).toArray⟩:ByteArray) ++ ⟨#[46]⟩=⟨(Tm.const n ls).bytes.toArray⟩:=by
 apply ByteArray.ext
 simp [Tm.bytes]
theorem lvsB_take (ls:List (List UInt8)) (k:Nat) (hk:k < ls.length):(lvsB (ls.take k)).length+ls[k].length+1≤(lvsB ls).length:=by
 have h:lvsB ls=lvsB (ls.take (k+1)) ++ lvsB (ls.drop (k+1)):=by rw [← lvsB_append,List.take_append_drop]
 rw [h,List.take_succ_eq_append_getElem hk,lvsB_append]
 simp [lvsB]
 omega
theorem specConst (n:ByteArray) {W:World} {b:Nat} {v:Value} {ls:List (List UInt8)} (h:W.ownsRow b 9 1 v ls.length (ls.map sv)) (hl:ls.length≤1000000) (hz:n.size≤10000000) (hzl:(lvsB ls).length≤10000000) :
  Calls Tryz.prog 103 #[.string n,v] W fun e w'=>e=.returned (.string ⟨(Tm.const n.data.toList ls).bytes.toArray⟩)∧w'=W:=by
 obtain ⟨a0,cap,rfl⟩:=own_sliceV h
 have H0:=con_start n
 have HS:=Ld (con_step n.data.toList ls)
 have HE:=Ld (con_end n.data.toList ls)
 have HT:=Ld (lvsB_take ls)
 have hnl:n.data.toList.length=n.size:=rfl
 go_enter Tryz.func103,Tryz.ntmps103
 go_wp2
 go_loopw [5,6] (fun sv' i wr=>∃ k:Nat,k≤ls.length∧i=.int .i64 k∧sv'=.string ⟨(99 :: (n.data.toList ++ 59 :: lvsB (ls.take k))).toArray⟩∧wr=W) (fun _ i _=>ls.length - (intOf i).toNat)
 case atStart=>exact ⟨0,Nat.zero_le _,rfl,by rw [List.take_zero,← H0],rfl⟩
 case round =>
  obtain ⟨k,hk,rfl,rfl,rfl⟩:=hrel
  by_cases hlt:k < ls.length
  ·obtain ⟨g,cap',e0,_,hgl⟩:=h.form (by omega)
   cases e0
   have ex:(ls.map sv)[k]?=some (sv ls[k]):=by simp [hlt]
   have cc:=(h.cellAt k (by omega)).trans ex
   unfold sv at cc
   have q1:(0:Int)≤(k:Int):=by omega
   have q2:(k:Int) < (ls.length:Int):=by omega
   have HK:=Ld (HS.out k hlt)
   have hT:=HT.out k hlt
   have zs:(⟨(99 :: (n.data.toList ++ 59 :: lvsB (ls.take k))).toArray⟩:ByteArray).size≤20000100:=by
    show (99 :: (n.data.toList ++ 59 :: lvsB (ls.take k))).length≤_
    simp only [List.length_cons,List.length_append]
    omega
   have zx:ls[k].length≤10000000:=by omega
   clear hT
   generalize ls[k]=x at cc HK zx
   generalize (⟨(99 :: (n.data.toList ++ 59 :: lvsB (ls.take k))).toArray⟩:ByteArray)=s at HK zs
   clear ex HS HT
   go_wp2
   go_roundw
   case rel=>exact ⟨k+1,by omega,by go_num,by rw [← HK.out],trivial⟩
   case measure=>simp [intOf];omega
  ·obtain rfl:k=ls.length:=by omega
   rw [List.take_length]
   have d1:decide ((ls.length:Int) < (ls.length:Int))=false:=decide_eq_false (by omega)
   have zs:(⟨(99 :: (n.data.toList ++ 59 :: lvsB ls)).toArray⟩:ByteArray).size≤20000100:=by
    show (99 :: (n.data.toList ++ 59 :: lvsB ls)).length≤_
    simp only [List.length_cons,List.length_append]
    omega
   generalize (⟨(99 :: (n.data.toList ++ 59 :: lvsB ls)).toArray⟩:ByteArray)=s at HE zs
   clear HS HT
   go_wp2
   go_ret
   rw [← HE.out]
   exact ⟨rfl,rfl⟩
end Go.Proofs.YtgonemalnljabaaGreatDoor
