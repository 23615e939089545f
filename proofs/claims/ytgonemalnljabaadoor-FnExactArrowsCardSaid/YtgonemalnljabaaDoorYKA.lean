/- EArr FSay -/
import Derived.Test.YtgonemalnljabaaDoorYEGivP
import Derived.Test.YtgonemalnljabaaDoorYF1
set_option maxRecDepth 100000
set_option maxHeartbeats 16000000
set_option linter.unusedSimpArgs false
set_option linter.unusedVariables false
namespace Go.Proofs.YtgonemalnljabaaDoor
open Go.ChangeShapes Go.WideShapes Go.ChangeAt Go.RowKit
def catD (l:List (List UInt8)):List UInt8:=(l.map fun d=>112 :: d).flatten
theorem catD_take {l:List (List UInt8)} {k:Nat} (h:k < l.length):catD (l.take (k+1))=catD (l.take k) ++ (112 :: l[k]):=by
 rw [catD,List.take_succ_eq_append_getElem h,List.map_append,List.flatten_append]
 simp [catD]
theorem catD_len (l:List (List UInt8)):(catD l).length=l.length+l.flatten.length:=by
 induction l with
 | nil=>rfl
 | cons x r ih =>
  have:catD (x :: r)=(112 :: x) ++ catD r:=rfl
  rw [this,List.length_append,ih]
  simp
  omega
theorem catD_take_le (l:List (List UInt8)) (k:Nat):(catD (l.take k)).length≤(catD l).length:=by
 have h1:=flat_take_le l k
 rw [catD_len,catD_len,List.length_take]
 omega
theorem ba_arrow (a b:List UInt8):(⟨a.toArray⟩:ByteArray) ++ ⟨#[112]⟩ ++ ⟨b.toArray⟩=⟨(a ++ (112 :: b)).toArray⟩:=by
 apply ByteArray.ext
 simp
theorem specArrows (s:ByteArray) {W:World} {b:Nat} {v:Value} {args:List (List UInt8)} (h:W.ownsRow b 9 1 v args.length (args.map sv)) (hs:s.size≤maxLen) (hx:∀ x∈args,x.length≤1048576) (hn:args.length≤10000000) :
  Calls Tryd.prog 5 #[v,.string s] W fun e W'=>e=.returned (putRes (arrowsOf args s.data.toList))∧Below W.heap.size W W':=by
 obtain ⟨a0,cap,rfl⟩:=own_sliceV h
 have hls:s.data.toList.length=s.size:=rfl
 have f1:=Ld (specTermOk s W hs)
 have HO:=Ld h
 unfold maxLen at hs
 by_cases hok:termOk s.data.toList=true
 rotate_left
 ·have HE:Hid (arrowsOf args s.data.toList=none):=by rw [Hid,arrowsOf,if_neg (fun k=>hok k.1)]
  rw [Bool.not_eq_true] at hok
  rw [hok] at f1
  clear h hok hx HO hls
  go_enter Tryd.func5,Tryd.ntmps5
  go_wp2_with fail
  (with_reducible refine f1.out.mono ?_);rintro e w1 ⟨rfl,hb1⟩
  go_wp2
  go_ret2
  rw [HE.out]
  exact ⟨rfl,hb1⟩
 have hs2:s.size≤2000:=by
  rw [← hls]
  have hk:=hok
  unfold termOk at hk
  cases ht:termOf s.data.toList with
  | none=>rw [ht] at hk;cases hk
  | some t=>exact (termOf_is ht).2.2
 have HOK:=Ld hok
 rw [hok] at f1
 by_cases hl:args.length≤2000
 rotate_left
 ·have HE:Hid (arrowsOf args s.data.toList=none):=by rw [Hid,arrowsOf,if_neg (fun k=>by have:=k.2.2;omega)]
  have d1:decide ((2000:Int) < (args.length:Int))=true:=decide_eq_true (by omega)
  have e1:decide (2000 < args.length)=true:=decide_eq_true (by omega)
  clear h hok hx HO hls
  go_enter Tryd.func5,Tryd.ntmps5
  go_wp2_with fail
  (with_reducible refine f1.out.mono ?_);rintro e w1 ⟨rfl,hb1⟩
  go_wp2
  go_ret2
  rw [HE.out]
  exact ⟨rfl,hb1⟩
 have d1:decide ((2000:Int) < (args.length:Int))=false:=decide_eq_false (by omega)
 have e1:decide (2000 < args.length)=false:=decide_eq_false (by omega)
 have HX:=Ld hx
 clear h hok hx hn
 go_enter Tryd.func5,Tryd.ntmps5
 go_wp2_with fail
 (with_reducible refine f1.out.mono ?_);rintro e w1 ⟨rfl,hb1⟩
 have HB1:=Ld hb1
 clear hb1 f1
 go_wp2
 go_loopw [6,7] (fun t i wr=>∃ k:Nat,k≤args.length∧i=.int .i64 k∧t=.string ⟨(catD (args.take k)).toArray⟩∧(catD (args.take k)).length≤2000∧Hid (∀ a∈args.take k,termOk a=true)∧Below W.heap.size W wr) (fun _ i _=>args.length - (intOf i).toNat)
 case atStart=>exact ⟨0,Nat.zero_le _,rfl,rfl,Nat.zero_le _,by simp [Hid],HB1.out⟩
 case round =>
  obtain ⟨k,hk,rfl,rfl,hm,HM,hbr⟩:=hrel
  clear HB1
  have zsz:(⟨(catD (args.take k)).toArray⟩:ByteArray).size=(catD (args.take k)).length:=rfl
  by_cases hlt:k < args.length
  ·have hr:=own_below HO.out hbr
   obtain ⟨g',cap',e0,_,hgl⟩:=hr.form (by omega)
   cases e0
   have ex:(args.map sv)[k]?=some (sv args[k]):=by simp [hlt]
   have cc:=(hr.cellAt k (by omega)).trans ex
   unfold sv at cc
   have HCC:Hid (∀ W',Below wr.heap.size wr W'→W'.cell? ⟨g',k,none⟩=some (.string ⟨args[k].toArray⟩)):=fun W' hb'=>by
    have:=((own_below hr hb').cellAt k (by omega)).trans ex
    exact this
   have q1:(0:Int)≤(k:Int):=by omega
   have q2:(k:Int) < (args.length:Int):=by omega
   have hxk:=HX.out args[k] (List.getElem_mem hlt)
   have hzk:(⟨args[k].toArray⟩:ByteArray).size=args[k].length:=by simp [ByteArray.size]
   have f2:=Ld (specTermOk ⟨args[k].toArray⟩ wr (by unfold maxLen;omega))
   simp only at f2
   have hct:=congrArg List.length (catD_take hlt)
   rw [List.length_append,List.length_cons] at hct
   have hcl:=catD_take_le args (k+1)
   have hcd:=catD_len args
   by_cases hka:termOk args[k]=true
   rotate_left
   ·have HE:Hid (arrowsOf args s.data.toList=none):=by rw [Hid,arrowsOf,if_neg (fun k'=>hka (k'.2.1 _ (List.getElem_mem hlt)))]
    rw [Bool.not_eq_true] at hka
    rw [hka] at f2
    have HB:=Ld hbr
    clear hka HM ex hr hct hcl hcd hbr
    generalize (⟨(catD (args.take k)).toArray⟩:ByteArray)=tx at zsz ⊢
    generalize args[k]=xk at cc f2 hxk hzk HCC
    go_wp2_with fail
    (with_reducible refine f2.out.mono ?_);rintro e w2 ⟨rfl,hb2⟩
    have HB2:=Ld (HB.out.trans (hb2.mono HB.out.size))
    clear hb2 f2 HB
    go_wp2
    go_ret2
    rw [HE.out]
    exact ⟨rfl,HB2.out⟩
   ·have HOKK:=Ld (mem_take_succ (P:=fun a=>termOk a=true) hlt HM.out hka)
    rw [hka] at f2
    by_cases hbig:(catD (args.take k)).length+1+args[k].length≤2000
    rotate_left
    ·have HE:Hid (arrowsOf args s.data.toList=none):=by rw [Hid,arrowsOf,if_neg (fun k'=>by have:=k'.2.2;omega)]
     have d3:decide ((2000:Int) < ((catD (args.take k)).length:Int)+1+(args[k].length:Int))=true:=decide_eq_true (by omega)
     have HB:=Ld hbr
     clear hka HM ex hr hct hcl hcd hbr HOKK
     generalize (catD (args.take k)).length=cl at hm hbig d3 zsz
     generalize (⟨(catD (args.take k)).toArray⟩:ByteArray)=tx at zsz ⊢
     generalize args[k]=xk at cc f2 hxk hzk d3 hbig HCC
     go_wp2_with fail
     (with_reducible refine f2.out.mono ?_);rintro e w2 ⟨rfl,hb2⟩
     have cc2:=HCC.out w2 hb2
     have HB2:=Ld (HB.out.trans (hb2.mono HB.out.size))
     clear hb2 f2 HB
     go_wp2
     go_ret2
     rw [HE.out]
     exact ⟨rfl,HB2.out⟩
    ·have d3:decide ((2000:Int) < ((catD (args.take k)).length:Int)+1+(args[k].length:Int))=false:=decide_eq_false (by omega)
     have HC:Hid ((⟨(catD (args.take k)).toArray⟩:ByteArray) ++ ⟨#[112]⟩ ++ ⟨args[k].toArray⟩=⟨(catD (args.take (k+1))).toArray⟩):=by rw [Hid,ba_arrow,catD_take hlt]
     have hcl2:(catD (args.take (k+1))).length≤2000:=by omega
     have zz:((⟨(catD (args.take k)).toArray⟩:ByteArray) ++ ⟨#[112]⟩).size≤100000:=by rw [ByteArray.size_append,zsz];show _+1≤_;omega
     have HB:=Ld hbr
     have HCL:=Ld hcl2
     clear hka HM ex hr hct hcl hcd hbr hcl2
     generalize (catD (args.take k)).length=cl at hm hbig d3 zsz
     generalize (⟨(catD (args.take k)).toArray⟩:ByteArray)=tx at zsz HC zz ⊢
     generalize args[k]=xk at cc f2 hxk hzk d3 hbig HC HCC
     go_wp2_with fail
     (with_reducible refine f2.out.mono ?_);rintro e w2 ⟨rfl,hb2⟩
     have cc2:=HCC.out w2 hb2
     have HB2:=Ld (HB.out.trans (hb2.mono HB.out.size))
     clear hb2 f2 HB
     go_wp2
     go_roundw
     case rel=>exact ⟨k+1,by omega,by go_num,by rw [← HC.out],HCL.out,HOKK.out,HB2.out⟩
     case measure=>simp [intOf];omega
  ·obtain rfl:k=args.length:=by omega
   have HM2:=HM.out
   have hcd:=catD_len args
   rw [List.take_length] at HM2 hm zsz ⊢
   have dk:decide ((args.length:Int) < (args.length:Int))=false:=decide_eq_false (by omega)
   have HB:=Ld hbr
   by_cases hbig:(catD args).length+s.size≤2000
   ·have HE:Hid (arrowsOf args s.data.toList=some (catD args ++ s.data.toList)):=by
     rw [Hid,arrowsOf,if_pos ⟨HOK.out,HM2,by rw [hls];omega⟩]
     rfl
    have d4:decide ((2000:Int) < ((catD args).length:Int)+(s.size:Int))=false:=decide_eq_false (by omega)
    have HC:Hid ((⟨(catD args).toArray⟩:ByteArray) ++ s=⟨(catD args ++ s.data.toList).toArray⟩):=by rw [Hid,← ba_app]
    clear HM HM2 hbr HOK hcd
    generalize catD args ++ s.data.toList=res at HC HE
    generalize (catD args).length=cl at hm hbig d4 zsz
    generalize (⟨(catD args).toArray⟩:ByteArray)=tx at zsz HC ⊢
    go_wp2
    go_ret2
    rw [HE.out,HC.out]
    exact ⟨rfl,HB.out⟩
   ·have HE:Hid (arrowsOf args s.data.toList=none):=by rw [Hid,arrowsOf,if_neg (fun k'=>by have:=k'.2.2;omega)]
    have d4:decide ((2000:Int) < ((catD args).length:Int)+(s.size:Int))=true:=decide_eq_true (by omega)
    clear HM HM2 hbr HOK hcd
    generalize (catD args).length=cl at hm hbig d4 zsz
    generalize (⟨(catD args).toArray⟩:ByteArray)=tx at zsz ⊢
    go_wp2
    go_ret2
    rw [HE.out]
    exact ⟨rfl,HB.out⟩
end Go.Proofs.YtgonemalnljabaaDoor
namespace Go.Proofs.YtgonemalnljabaaDoor
open Go
open Classical in
noncomputable def sayT (st:Option (List UInt8)) (R:Tm):Option (List UInt8):=st.bind fun B=>if R.Ok∧B.length+R.bytes.length≤2000 then some (B ++ R.bytes) else none
theorem sayT_some {B:List UInt8} {R:Tm} (h:R.Ok) (hl:B.length+R.bytes.length≤2000):sayT (some B) R=some (B ++ R.bytes):=if_pos ⟨h,hl⟩
theorem sayT_fail {B:List UInt8} {R:Tm} (h:¬ (R.Ok∧B.length+R.bytes.length≤2000)):sayT (some B) R=none:=if_neg h
end Go.Proofs.YtgonemalnljabaaDoor
