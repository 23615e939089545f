/- GI5R KI7 TIBo -/
import Derived.Test.YtgonemalnljabaaGreatDoorXP6
import Derived.Test.YtgonemalnljabaaGreatDoorXP4
import Derived.Test.YtgonemalnljabaaGreatDoorXK6
import Derived.Test.YtgonemalnljabaaGreatDoorXP8
import Derived.Test.YtgonemalnljabaaGreatDoorXP3
import Derived.Test.YtgonemalnljabaaGreatDoorXQ1
set_option maxRecDepth 100000
set_option maxHeartbeats 16000000
set_option linter.unusedSimpArgs false
set_option linter.unusedVariables false
namespace Go.Proofs.YtgonemalnljabaaGreatDoor
open Go.ChangeShapes Go.WideShapes Go.ChangeAt Go.RowKit
theorem recText2 (nm:List UInt8):(⟨nm.toArray⟩:ByteArray) ++ ⟨#[46]⟩ ++ ⟨#[114,101,99]⟩=⟨(nm ++ 46 :: recB).toArray⟩:=by
 apply ByteArray.ext
 simp [recB]
theorem implRecName {w:World} {d:Dc} {b:Nat} {u:Value} (h:w.ownsRow b 42 2 u d.ctors.length (flatC d.ctors)) (hs:d.Small) (hr:d.Rng) (hv:Vars w) (hm:MaxLenInt w) :
  Calls Tryz.prog 98 #[d.val u] w fun e w'=>e=.returned (.string ⟨(recName d).toArray⟩)∧Below w.heap.size w w':=by
 obtain ⟨kd,nm,ps,fl,ty,vl,cs⟩:=d
 obtain ⟨ua,uc,rfl⟩:=row_sliceD h
 have HB0:=Ld (alloc_any w (.cells #[.int .i64 kd,.string ⟨nm.toArray⟩,.int .i64 ps,.int .i64 fl,.string ⟨ty.toArray⟩,.string ⟨vl.toArray⟩,.slice ua cs.length uc] 36))
 have f1:=Ld (implIsData (d:=⟨kd,nm,ps,fl,ty,vl,cs⟩) (own_below h HB0.out) hs hr (hv.below HB0.out) (hm.below HB0.out))
 have hval:Dc.val ⟨kd,nm,ps,fl,ty,vl,cs⟩ (.slice ua cs.length uc)=.agg #[.int .i64 kd,.string ⟨nm.toArray⟩,.int .i64 ps,.int .i64 fl,.string ⟨ty.toArray⟩,.string ⟨vl.toArray⟩,.slice ua cs.length uc]:=rfl
 rw [hval] at f1 ⊢
 have s1:=hs.name
 simp only at s1 f1
 have HE:Hid (recName ⟨kd,nm,ps,fl,ty,vl,cs⟩=if kd=4∧declOk ⟨kd,nm,ps,fl,ty,vl,cs⟩=true then nm ++ 46 :: recB else []):=rfl
 have HX:=Ld (declBox (w:=w) (kd:=kd) (ps:=ps) (fl:=fl) (nm:=nm) (ty:=ty) (vl:=vl) (u:=.slice ua cs.length uc))
 have hrt:=recText2 nm
 have znm:=size_sv nm
 have hz:((⟨nm.toArray⟩:ByteArray) ++ (⟨#[46]⟩:ByteArray)).size=nm.length+1:=by rw [ByteArray.size_append,znm];rfl
 obtain ⟨c0,c1,c2,c3,c4,c5,c6⟩:=HX.out _ (Below.refl _ _)
 clear h hval hs hr hv hm
 have HD:Hid ((kd=4∧declOk ⟨kd,nm,ps,fl,ty,vl,cs⟩=true)↔(decide (kd=4) && declOk ⟨kd,nm,ps,fl,ty,vl,cs⟩)=true):=by rw [Hid,Bool.and_eq_true,decide_eq_true_eq]
 generalize (decide (kd=4) && declOk ⟨kd,nm,ps,fl,ty,vl,cs⟩)=ok at f1 HD
 go_enter Tryz.func98,Tryz.ntmps98
 go_wp2_with fail
 (with_reducible refine f1.out.mono ?_);rintro e w1 ⟨rfl,hb⟩
 have HB1:=Ld (HB0.out.trans (hb.mono HB0.out.size))
 clear c0 c1 c2 c3 c4 c5 c6
 obtain ⟨c0,c1,c2,c3,c4,c5,c6⟩:=HX.out _ hb
 clear hb f1 HX
 cases ok
 ·have HF:Hid (recName ⟨kd,nm,ps,fl,ty,vl,cs⟩=[]):=by rw [Hid,HE.out,if_neg (fun h=>by have:=HD.out.1 h;cases this)]
  go_wp2
  go_ret
  rw [HF.out]
  exact ⟨rfl,HB1.out⟩
 ·have HF:Hid (recName ⟨kd,nm,ps,fl,ty,vl,cs⟩=nm ++ 46 :: recB):=by rw [Hid,HE.out,if_pos (HD.out.2 rfl)]
  generalize nm ++ 46 :: recB=rn at hrt HF
  go_wp2
  go_ret
  rw [HF.out]
  exact ⟨rfl,HB1.out⟩
theorem implEachOne (s:ByteArray) (W:World) (hv:Vars W) (hs:s.size≤maxLen) (h:termOk s.data.toList=true) :
  Calls Tryz.prog 153 #[.string s] W fun e W'=>e=.returned (.bool false)∧Below W.heap.size W W':=by
 have f1:=implTermOk s W hv hs
 rw [h] at f1
 have f1:=Ld f1
 clear hv hs h
 go_enter Tryz.func153,Tryz.ntmps153
 go_wp2_with fail
 (with_reducible refine f1.out.mono ?_);rintro e w1 ⟨rfl,hb1⟩
 have HB:=Ld hb1
 clear hb1 f1
 go_wp2
 go_ret
 exact ⟨rfl,HB.out⟩
theorem termsIndex {w:World} {b:Nat} {v:Value} {ls:List (List UInt8)} (h:w.ownsRow b 9 1 v ls.length (ls.map sv)) (hv:Vars w) (hn:ls.length≤1048576) (hx:∀ x∈ls,termOk x=true∧x.length≤2000) :
  Calls Tryz.prog 193 #[v,.func (.func 153) #[] #[]] w fun e w'=>e=.returned (.int .i64 (-1))∧Below w.heap.size w w':=by
 obtain ⟨a0,cap,rfl⟩:=row_slice h
 have HL:=Ld h
 have HES:=Ld hx
 have FP:=Ld fun (t:List UInt8) (W:World) (hW:Below w.heap.size w W) (ht:termOk t=true∧t.length≤2000)=>implEachOne ⟨t.toArray⟩ W (hv.below hW) (by rw [size_sv];unfold maxLen;omega) ht.1
 have e1:=enters_of Tryz.func153 (by kernel_rfl) rfl
 clear h hx hv
 go_enter Tryz.func193,Tryz.ntmps193
 go_wp2
 go_loopw [8] (fun i wr=>∃ k:Nat,k≤ls.length∧i=.int .i64 k∧Hid (Below w.heap.size w wr)) (fun i _=>ls.length - (intOf i).toNat)
 case atStart=>exact ⟨0,Nat.zero_le _,rfl,Below.refl _ _⟩
 case round =>
  obtain ⟨k,hk,rfl,HW⟩:=hrel
  by_cases hlt:k < ls.length
  ·have hrow:=own_below HL.out HW.out
   obtain ⟨g,cap',e0,_,hgl⟩:=hrow.form (by omega)
   cases e0
   have ex:(ls.map sv)[k]?=some (sv ls[k]):=by simp [hlt]
   have x1:=(hrow.cellAt k (by omega)).trans ex
   unfold sv at x1
   have q1:(0:Int)≤(k:Int):=by omega
   have q2:(k:Int) < (ls.length:Int):=by omega
   have f1:=Ld (FP.out ls[k] wr HW.out (HES.out _ (List.getElem_mem hlt)))
   generalize ls[k]=t at x1 f1
   clear ex hrow hgl
   go_wp2_with fail
   (with_reducible refine f1.out.mono ?_);rintro e w2 ⟨rfl,hb2⟩
   have HW2:=Ld (HW.out.trans (hb2.mono HW.out.size))
   clear hb2 f1 x1
   go_wp2
   go_roundw
   case rel=>exact ⟨k+1,by omega,by go_num,HW2.out⟩
   case measure=>simp [intOf];omega
  ·clear HL FP HES
   go_wp2
   go_ret
   exact ⟨rfl,HW.out⟩
theorem termsContains {w:World} {b:Nat} {v:Value} {ls:List (List UInt8)} (h:w.ownsRow b 9 1 v ls.length (ls.map sv)) (hv:Vars w) (hn:ls.length≤1048576) (hx:∀ x∈ls,termOk x=true∧x.length≤2000) :
  Calls Tryz.prog 152 #[v,.func (.func 153) #[] #[]] w fun e w'=>e=.returned (.bool false)∧Below w.heap.size w w':=by
 have f1:=Ld (termsIndex h hv hn hx)
 obtain ⟨a0,cap,rfl⟩:=row_slice h
 clear h hv hn hx
 go_enter Tryz.func152,Tryz.ntmps152
 go_wp2_with fail
 (with_reducible refine f1.out.mono ?_);rintro e w1 ⟨rfl,hb⟩
 have HB:=Ld hb
 clear f1 hb
 go_wp2
 go_ret
 exact ⟨rfl,HB.out⟩
theorem implEachIsTerm {w:World} {b:Nat} {v:Value} {ls:List (List UInt8)} (h:w.ownsRow b 9 1 v ls.length (ls.map sv)) (hv:Vars w) (hn:ls.length≤1048576) (hx:∀ x∈ls,termOk x=true∧x.length≤2000) :
  Calls Tryz.prog 99 #[v] w fun e w'=>e=.returned (.bool true)∧Below w.heap.size w w':=by
 have f1:=Ld (termsContains h hv hn hx)
 obtain ⟨a0,cap,rfl⟩:=row_slice h
 clear h hv hn hx
 go_enter Tryz.func99,Tryz.ntmps99
 go_wp2_with fail
 (with_reducible refine f1.out.mono ?_);rintro e w1 ⟨rfl,hb⟩
 have HB:=Ld hb
 clear f1 hb
 go_wp2
 go_ret
 exact ⟨rfl,HB.out⟩
theorem implRecStepNo {w:World} {d:Dc} {b:Nat} {u:Value} (h:w.ownsRow b 42 2 u d.ctors.length (flatC d.ctors)) (hs:d.Small) (hr:d.Rng) (hv:Vars w) (hm:MaxLenInt w) (k:Int) (hk:isCtor d k=false) (v1 v2 v3:Value)
  {b1 b2 b3 n1 n2 n3:Nat} {l1 l2 l3:List Value} (h1:w.ownsRow b1 9 1 v1 n1 l1) (h2:w.ownsRow b2 9 1 v2 n2 l2) (h3:w.ownsRow b3 9 1 v3 n3 l3) :
  Calls Tryz.prog 41 #[d.val u,v1,v2,.int .i64 k,v3] w fun e w'=>e=.returned (putRes none)∧Below w.heap.size w w':=by
 have FC:=Ld fun (W:World) (hW:Below w.heap.size w W)=>implCtorAtN (own_below h hW) hs hr (hv.below hW) (hm.below hW) k
 obtain ⟨kd,nm,ps,fl,ty,vl,cs⟩:=d
 obtain ⟨ua,uc,rfl⟩:=row_sliceD h
 obtain ⟨a1,c1',rfl⟩:=row_slice h1
 obtain ⟨a2,c2',rfl⟩:=row_slice h2
 obtain ⟨a3,c3',rfl⟩:=row_slice h3
 have hval:Dc.val ⟨kd,nm,ps,fl,ty,vl,cs⟩ (.slice ua cs.length uc)=.agg #[.int .i64 kd,.string ⟨nm.toArray⟩,.int .i64 ps,.int .i64 fl,.string ⟨ty.toArray⟩,.string ⟨vl.toArray⟩,.slice ua cs.length uc]:=rfl
 rw [hval] at FC ⊢
 obtain ⟨W0,hW0⟩:∃ W0,w.alloc (.cells #[.int .i64 kd,.string ⟨nm.toArray⟩,.int .i64 ps,.int .i64 fl,.string ⟨ty.toArray⟩,.string ⟨vl.toArray⟩,.slice ua cs.length uc] 36)=W0:=⟨_,rfl⟩
 have HX:Hid (∀ W,Below W0.heap.size W0 W→W.cell? ⟨w.heap.size,0,none⟩=some (.int .i64 kd)∧W.cell? ⟨w.heap.size,1,none⟩=some (.string ⟨nm.toArray⟩)∧W.cell? ⟨w.heap.size,2,none⟩=some (.int .i64 ps)∧W.cell? ⟨w.heap.size,3,none⟩=some (.int .i64 fl)∧W.cell? ⟨w.heap.size,4,none⟩=some (.string ⟨ty.toArray⟩)∧W.cell? ⟨w.heap.size,5,none⟩=some (.string ⟨vl.toArray⟩)∧W.cell? ⟨w.heap.size,6,none⟩=some (.slice ua cs.length uc)):=by
  rw [Hid,← hW0];exact declBox
 have HB0:Hid (Below w.heap.size w W0):=by rw [Hid,← hW0];exact alloc_any _ _
 obtain ⟨c0,c1,c2,c3,c4,c5,c6⟩:=HX.out _ (Below.refl _ _)
 have f1:=FC.out _ HB0.out
 unfold CtorAnsN at f1
 rw [hk] at f1
 have f1:=Ld f1
 clear h h1 h2 h3 hval hs hr hv hm FC hk
 go_enter Tryz.func41,Tryz.ntmps41
 go_wp2_with fail
 (with_reducible refine f1.out.mono ?_);rintro e w1 ⟨n,t,rfl,-,hb⟩
 have ha:=alloc_any w1 (.cells #[.string ⟨n.toArray⟩,.string ⟨t.toArray⟩] 42)
 have hk1:=hb.trans (ha.mono hb.size)
 have HB1:=Ld (HB0.out.trans (hk1.mono HB0.out.size))
 clear c0 c1 c2 c3 c4 c5 c6 ha hW0
 obtain ⟨c0,c1,c2,c3,c4,c5,c6⟩:=HX.out _ hk1
 clear hb hk1 f1 HX
 go_wp2
 go_ret2
 exact ⟨rfl,HB1.out⟩
theorem givenOf_none {x:List UInt8} (h:termOk x=true) (hl:x.length≤2000):givenOf x []=some x:=by
 rw [givenOf,if_pos ⟨h,fun a ha=>(by cases ha),by simp;exact hl⟩]
 simp
theorem lvsB_le2:∀ {ls:List (List UInt8)},(∀ y∈ls,y.length≤2000)→(lvsB ls).length≤ls.length*2001
 | [],_=>by simp [lvsB]
 | x :: r,h=>by
  have h1:=h x List.mem_cons_self
  have h2:=lvsB_le2 (ls:=r) fun y hy=>h y (List.mem_cons_of_mem _ hy)
  simp only [lvsB,List.length_append,List.length_cons]
  omega
theorem recName_data {d:Dc} (h:isData d=true):nameOk (recName d)=true∧(recName d).length≤40:=by
 have h0:=h
 simp only [isData,Bool.and_eq_true,decide_eq_true_eq] at h
 obtain ⟨hk4,hok⟩:=h
 have hok2:=hok
 simp only [declOk,Bool.and_eq_true,declKindOk,hk4] at hok
 have h1:=hok.2.2.2.2
 rw [if_neg (by omega),if_neg (by omega),if_pos trivial] at h1
 simp only [dataOk,Bool.and_eq_true,decide_eq_true_eq] at h1
 have h2:=h1.2.2.2.2.2.1.2
 rw [recName,if_pos ⟨hk4,hok2⟩]
 exact ⟨h2,nameOk_le h2⟩
theorem recLevels_le {d:Dc} (h:isData d=true):d.params≤recLevels d∧recLevels d≤3:=by
 obtain ⟨_,h2,h3,_⟩:=isData_parts h
 unfold recLevels
 rw [if_pos h]
 split<;>omega
theorem implRecStepNil {w:World} {d:Dc} {b:Nat} {u:Value} (h:w.ownsRow b 42 2 u d.ctors.length (flatC d.ctors)) (hs:d.Small) (hr:d.Rng) (hv:Vars w) (hm:MaxLenInt w) (k:Nat) {ls xs:List (List UInt8)} (hpos:positive d=true) (hk:isCtor d (k:Int)=true)
  (hll:(ls.length:Int)=recLevels d) (hxl:xs.length=d.ctors.length+1) (hlv:∀ x∈ls,levelOk x=true∧x.length≤2000) (hxs:∀ x∈xs,termOk x=true∧x.length≤2000) {b1 b2:Nat} {v1 v2:Value}
  (r1:w.ownsRow b1 9 1 v1 ls.length (ls.map sv)) (r2:w.ownsRow b2 9 1 v2 xs.length (xs.map sv)) :
  Calls Tryz.prog 41 #[d.val u,v1,v2,.int .i64 (k:Int),.slice none 0 0] w fun e w'=>e=.returned (putRes (if (domainsOf (ctorType d (k:Int))).length=0 then xs[k+1]? else none))∧Below w.heap.size w w':=by
 obtain ⟨rs,hrs⟩:∃ rs,(if (domainsOf (ctorType d (k:Int))).length=0 then xs[k+1]? else none)=rs:=⟨_,rfl⟩
 rw [hrs]
 have HRY:Hid ((domainsOf (ctorType d (k:Int))).length=0→rs=xs[k+1]?):=fun h=>by rw [← hrs,if_pos h]
 have HRN:Hid ((domainsOf (ctorType d (k:Int))).length≠0→rs=none):=fun h=>by rw [← hrs,if_neg h]
 clear hrs
 have hdt:=(isCtor_lt hk).2.2
 have hkl:k < d.ctors.length:=by have:=(isCtor_lt hk).2.1;omega
 obtain ⟨hrn,hrl⟩:=recName_data hdt
 obtain ⟨hp1,hp2⟩:=recLevels_le hdt
 obtain ⟨_,hp0,hp3,_⟩:=isData_parts hdt
 have h6:=isCtor_six hk
 have FC:=Ld fun (W:World) (hW:Below w.heap.size w W)=>implCtorAtN (own_below h hW) hs hr (hv.below hW) (hm.below hW) (k:Int)
 have FP:=fun (W:World) (hW:Below w.heap.size w W)=>implPositive (own_below h hW) hs hr (hv.below hW) (hm.below hW)
 have FL:=fun (W:World) (hW:Below w.heap.size w W)=>implRecLevels (own_below h hW) hs hr (hv.below hW) (hm.below hW)
 rw [hpos] at FP
 rw [← hll] at FL hp1 hp2
 have FN:=Ld fun (W:World) (hW:Below w.heap.size w W)=>implRecName (own_below h hW) hs hr (hv.below hW) (hm.below hW)
 have FS:=fun (W:World) (hW:Below w.heap.size w W)=>implShapesOf (own_below h hW) hs hr (hv.below hW) (hm.below hW) (k:Int)
 have hsl:shapesOf d (k:Int)=(domainsOf (ctorType d (k:Int))).map fun x=>argShape (selfConst d) d.name x:=by rw [shapesOf,if_pos hk]
 have hcst:constText (recName d) ls=(Tm.const (recName d) ls).bytes:=by
  rw [constText,if_pos ⟨hrn,by omega,fun x hx=>(hlv x hx).1⟩]
 have hcx:=ctor_short hs.each (k:Int)
 have HV:=Ld hv
 have H1:=Ld r1
 have H2:=Ld r2
 have HXS:=Ld hxs
 have HLV:=Ld hlv
 obtain ⟨a1,e1,rfl⟩:=row_slice r1
 obtain ⟨a2,e2,rfl⟩:=row_slice r2
 have hcap:ls.length≤e1:=by
  rcases id r1.2 with ⟨e,e0⟩ | ⟨g,cap,cur,e,_,_,hnc,_⟩
  ·injection e with _ e2 _
   omega
  ·injection e with _ _ e2
   omega
 obtain ⟨kd,nm,ps,fl,ty,vl,cs⟩:=d
 obtain ⟨ua,uc,rfl⟩:=row_sliceD h
 have hval:Dc.val ⟨kd,nm,ps,fl,ty,vl,cs⟩ (.slice ua cs.length uc)=.agg #[.int .i64 kd,.string ⟨nm.toArray⟩,.int .i64 ps,.int .i64 fl,.string ⟨ty.toArray⟩,.string ⟨vl.toArray⟩,.slice ua cs.length uc]:=rfl
 simp only [hval] at FC FP FL FN FS ⊢
 simp only at hkl h6 hp0 hp1 hp3 hxl
 obtain ⟨pn,rfl⟩:∃ pn:Nat,ps=(pn:Int):=⟨ps.toNat,by omega⟩
 obtain ⟨W0,hW0⟩:∃ W0,w.alloc (.cells #[.int .i64 kd,.string ⟨nm.toArray⟩,.int .i64 pn,.int .i64 fl,.string ⟨ty.toArray⟩,.string ⟨vl.toArray⟩,.slice ua cs.length uc] 36)=W0:=⟨_,rfl⟩
 have HX:Hid (∀ W,Below W0.heap.size W0 W→W.cell? ⟨w.heap.size,0,none⟩=some (.int .i64 kd)∧W.cell? ⟨w.heap.size,1,none⟩=some (.string ⟨nm.toArray⟩)∧W.cell? ⟨w.heap.size,2,none⟩=some (.int .i64 pn)∧W.cell? ⟨w.heap.size,3,none⟩=some (.int .i64 fl)∧W.cell? ⟨w.heap.size,4,none⟩=some (.string ⟨ty.toArray⟩)∧W.cell? ⟨w.heap.size,5,none⟩=some (.string ⟨vl.toArray⟩)∧W.cell? ⟨w.heap.size,6,none⟩=some (.slice ua cs.length uc)):=by
  rw [Hid,← hW0];exact declBox
 have HB0:Hid (Below w.heap.size w W0):=by rw [Hid,← hW0];exact alloc_any _ _
 have hz0:W0.heap.size=w.heap.size+1:=by rw [← hW0];simp
 obtain ⟨c0,c1,c2,c3,c4,c5,c6⟩:=HX.out _ (Below.refl _ _)
 have f1:=FC.out _ HB0.out
 unfold CtorAnsN at f1
 rw [hk] at f1
 have f1:=Ld f1
 have FP:=Ld FP
 have FL:=Ld FL
 have HSL:=Ld hsl
 have FS:=Ld FS
 have HCS:=Ld hcst
 have HXL:=Ld hxl
 clear hxl
 clear h hval hs hr hv hm FC hk hpos hdt hll r1 r2 hxs hlv hsl hcst
 go_enter Tryz.func41,Tryz.ntmps41
 go_wp2_with fail
 (with_reducible refine f1.out.mono ?_);rintro e w1 ⟨n,t,rfl,hct,hb⟩
 have ha:=alloc_any w1 (.cells #[.string ⟨n.toArray⟩,.string ⟨t.toArray⟩] 42)
 have hz1:W0.heap.size≤w1.heap.size:=hb.size
 have HKA:Hid (Below W0.heap.size W0 (w1.alloc (.cells #[.string ⟨n.toArray⟩,.string ⟨t.toArray⟩] 42))):=hb.trans (ha.mono hz1)
 have HCT:=Ld (hct (by first | rfl | trivial)).1
 have HXC:Hid (∀ W,Below (w1.alloc (.cells #[.string ⟨n.toArray⟩,.string ⟨t.toArray⟩] 42)).heap.size (w1.alloc (.cells #[.string ⟨n.toArray⟩,.string ⟨t.toArray⟩] 42)) W→W.cell? ⟨w1.heap.size,0,none⟩=some (.string ⟨n.toArray⟩)∧W.cell? ⟨w1.heap.size,1,none⟩=some (.string ⟨t.toArray⟩)):=by
  intro W hW
  have h:=fun i=>hW.cell (p:=⟨w1.heap.size,i,none⟩) (by simp)
  have k:=World.news_of_block (cs:=#[.string ⟨n.toArray⟩,.string ⟨t.toArray⟩]) (t:=42) (fr:=(0,0)) (heap_alloc_new w1 _)
  exact ⟨(h 0).trans (k 0 _ rfl),(h 1).trans (k 1 _ rfl)⟩
 clear c0 c1 c2 c3 c4 c5 c6
 obtain ⟨c0,c1,c2,c3,c4,c5,c6⟩:=HX.out _ HKA.out
 obtain ⟨d0,d1,d2,d3,d4,d5,d6⟩:=HX.out _ hb
 clear hb ha hct f1 hW0
 obtain ⟨WA,hWA⟩:∃ WA,(w1.alloc (.cells #[.string ⟨n.toArray⟩,.string ⟨t.toArray⟩] 42))=WA:=⟨_,rfl⟩
 rw [hWA] at HXC HKA c0 c1 c2 c3 c4 c5 c6
 have HAB:Hid (Below w.heap.size w WA):=HB0.out.trans (HKA.out.mono HB0.out.size)
 have f2:=Ld (FP.out _ HAB.out)
 rw [← HCT.out] at hcx
 go_wp2_with fail
 clear hWA
 (with_reducible refine f2.out.mono ?_);rintro e w2 ⟨rfl,hb2⟩
 have HK2:=Ld (HKA.out.trans (hb2.mono HKA.out.size))
 have HB2:=Ld (HAB.out.trans (hb2.mono HAB.out.size))
 have HA2:=Ld hb2
 clear hb2 f2 c0 c1 c2 c3 c4 c5 c6 d0 d1 d2 d3 d4 d5 d6
 obtain ⟨c0,c1,c2,c3,c4,c5,c6⟩:=HX.out _ HK2.out
 have f3:=Ld (FL.out _ HB2.out)
 go_wp2_with fail
 (with_reducible refine f3.out.mono ?_);rintro e w3 ⟨rfl,hb3⟩
 have HK3:=Ld (HK2.out.trans (hb3.mono HK2.out.size))
 have HB3:=Ld (HB2.out.trans (hb3.mono HB2.out.size))
 have HA3:=Ld (HA2.out.trans (hb3.mono HA2.out.size))
 clear hb3 f3 c0 c1 c2 c3 c4 c5 c6 HK2 HB2 HA2 FP FL
 obtain ⟨c0,c1,c2,c3,c4,c5,c6⟩:=HX.out _ HK3.out
 have hwc:IntKind.i64.wrap ((cs.length:Int)+1)=(xs.length:Int):=by rw [IntWalk.i64_in _ (by omega)];have:=HXL.out;omega
 have HKL:=Ld hkl
 have f4:=Ld (FN.out _ HB3.out)
 clear FN
 generalize recName ⟨kd,nm,pn,fl,ty,vl,cs⟩=rn at f4 HCS hrl
 go_wp2_with fail
 (with_reducible refine f4.out.mono ?_);rintro e w4 ⟨rfl,hb4⟩
 have HK4:=Ld (HK3.out.trans (hb4.mono HK3.out.size))
 have HB4:=Ld (HB3.out.trans (hb4.mono HB3.out.size))
 have HA4:=Ld (HA3.out.trans (hb4.mono HA3.out.size))
 have f5:=implConstText (⟨rn.toArray⟩:ByteArray) (own_below H1.out HB4.out) (by rw [size_sv];unfold maxLen;omega) (fun x hx=>by have:=(HLV.out x hx).2;unfold maxLen;omega) (by omega)
 rw [show ((⟨rn.toArray⟩:ByteArray)).data.toList=rn from rfl] at f5
 have hcl:(constText rn ls).length≠0:=by
  rw [HCS.out]
  have:=(Tm.const rn ls).bytes_pos
  omega
 have hcl2:(constText rn ls).length≤100000:=by
  rw [HCS.out]
  have h9:=lvsB_le2 (ls:=ls) (fun x hx=>(HLV.out x hx).2)
  simp only [Tm.bytes,List.length_cons,List.length_append,List.length_nil]
  omega
 generalize constText rn ls=cst at f5 hcl hcl2
 have f5:=Ld f5
 clear hb4 f4 HK3 HB3 HA3 HCS c0 c1 c2 c3 c4 c5 c6
 obtain ⟨c0,c1,c2,c3,c4,c5,c6⟩:=HX.out _ HK4.out
 go_wp2_with fail
 (with_reducible refine f5.out.mono ?_);rintro e w5 ⟨rfl,hb5⟩
 have HK5:=Ld (HK4.out.trans (hb5.mono HK4.out.size))
 have HB5:=Ld (HB4.out.trans (hb5.mono HB4.out.size))
 have HA5:=Ld (HA4.out.trans (hb5.mono HA4.out.size))
 obtain ⟨x0,x1⟩:=HXC.out _ HA5.out
 have f6:=implDomains ⟨t.toArray⟩ w5 (HV.out.below HB5.out) (by rw [size_sv];unfold maxLen;omega)
 rw [show ((⟨t.toArray⟩:ByteArray)).data.toList=t from rfl] at f6
 unfold LRes' at f6
 have f6:=Ld f6
 clear hb5 f5 HK4 HB4 HA4 c0 c1 c2 c3 c4 c5 c6
 obtain ⟨c0,c1,c2,c3,c4,c5,c6⟩:=HX.out _ HK5.out
 have hsl:=HSL.out
 rw [← HCT.out] at hsl HRY HRN
 have hdl:=domainsOf_len t
 generalize domainsOf t=ds at f6 hsl hdl HRY HRN
 have HSL2:=Ld hsl
 clear hsl HSL
 go_wp2_with fail
 (with_reducible refine f6.out.mono ?_);rintro e w6 ⟨v6,rfl,hv6,hb6⟩
 have HK6:=Ld (HK5.out.trans (hb6.mono HK5.out.size))
 have HB6:=Ld (HB5.out.trans (hb6.mono HB5.out.size))
 have HA6:=Ld (HA5.out.trans (hb6.mono HA5.out.size))
 obtain ⟨a6,e6,rfl⟩:=row_slice hv6
 have hne2:(cst == [])=false:=by
  rw [beq_eq_false_iff_ne]
  intro he
  rw [he] at hcl
  exact hcl rfl
 have f7:=Ld (implEachIsTerm (own_below H2.out HB6.out) (HV.out.below HB6.out) (by have:=HXL.out;omega) HXS.out)
 clear hb6 hv6 f6 HK5 HB5 HA5 c0 c1 c2 c3 c4 c5 c6 x0 x1
 obtain ⟨c0,c1,c2,c3,c4,c5,c6⟩:=HX.out _ HK6.out
 go_wp2_with fail
 (with_reducible refine f7.out.mono ?_);rintro e w7 ⟨rfl,hb7⟩
 have HK7:=Ld (HK6.out.trans (hb7.mono HK6.out.size))
 have HB7:=Ld (HB6.out.trans (hb7.mono HB6.out.size))
 clear hb7 f7 HK6 HB6 HA6 c0 c1 c2 c3 c4 c5 c6 hne2
 obtain ⟨c0,c1,c2,c3,c4,c5,c6⟩:=HX.out _ HK7.out
 by_cases hz:ds.length=0
 rotate_left
 ·have hq:((0:Int) == (ds.length:Int))=false:=by
   rw [beq_eq_false_iff_ne]
   omega
  have HF:=Ld (HRN.out hz)
  clear HRN HRY HX HXC FS hz
  go_wp2
  go_ret2
  rw [HF.out]
  exact ⟨rfl,HB7.out⟩
 obtain rfl:ds=[]:=List.length_eq_zero_iff.1 hz
 obtain ⟨k1,hk1⟩:∃ k1,k1=k+1:=⟨_,rfl⟩
 have hk1l:k1 < xs.length:=by have:=HXL.out;have:=HKL.out;omega
 have hwk:IntKind.i64.wrap ((k:Int)+1)=(k1:Int):=by rw [IntWalk.i64_in _ (by have:=HXL.out;have:=HKL.out;omega)];omega
 have hr2:=own_below H2.out HB7.out
 obtain ⟨g2,cap2,e0,_,hgl2⟩:=hr2.form (by omega)
 cases e0
 have ex:(xs.map sv)[k1]?=some (sv xs[k1]):=by simp [hk1l]
 have cc:=(hr2.cellAt k1 (by omega)).trans ex
 unfold sv at cc
 obtain ⟨hxt,hxn⟩:=HXS.out _ (List.getElem_mem hk1l)
 have HF:Hid (rs=some xs[k1]):=by
  have h1:=HRY.out rfl
  rw [← hk1] at h1
  rw [Hid,h1]
  exact List.getElem?_eq_getElem hk1l
 have q1:(0:Int)≤(k1:Int):=by omega
 have q2:(k1:Int) < (xs.length:Int):=by omega
 generalize xs[k1]=x at cc hxt hxn HF
 have f8:=implGiven (⟨x.toArray⟩:ByteArray) (ls:=[]) (HV.out.below HB7.out) (by rw [size_sv];unfold maxLen;omega) (World.ownsRow_nil w7 0 9 1) (by simp) (fun a ha=>by cases ha)
 rw [show ((⟨x.toArray⟩:ByteArray)).data.toList=x from rfl,givenOf_none hxt hxn,show putRes (some x)=.tuple #[.string ⟨x.toArray⟩,.bool true] from rfl] at f8
 have f8:=Ld f8
 clear ex hgl2 hr2 HRY HRN hk1 HKL
 go_wp2_with fail
 (with_reducible refine f8.out.mono ?_);rintro e w8 ⟨rfl,hb8⟩
 have HK8:=Ld (HK7.out.trans (hb8.mono HK7.out.size))
 have HB8:=Ld (HB7.out.trans (hb8.mono HB7.out.size))
 have f9:=implGiven (⟨cst.toArray⟩:ByteArray) (HV.out.below HB8.out) (by rw [size_sv];unfold maxLen;omega) (own_below H2.out HB8.out) (by have:=HXL.out;omega) (fun a ha=>by have:=(HXS.out a ha).2;omega)
 obtain ⟨o9,ho9⟩:=putRes_get (givenOf ((⟨cst.toArray⟩:ByteArray)).data.toList xs)
 rw [ho9] at f9
 generalize (givenOf ((⟨cst.toArray⟩:ByteArray)).data.toList xs).getD []=g9 at f9
 have f9:=Ld f9
 clear hb8 f8 HK7 HB7 c0 c1 c2 c3 c4 c5 c6 cc ho9
 obtain ⟨c0,c1,c2,c3,c4,c5,c6⟩:=HX.out _ HK8.out
 go_wp2_with fail
 (with_reducible refine f9.out.mono ?_);rintro e w9 ⟨rfl,hb9⟩
 have HK9:=Ld (HK8.out.trans (hb9.mono HK8.out.size))
 have HB9:=Ld (HB8.out.trans (hb9.mono HB8.out.size))
 clear hb9 f9 HK8 HB8 c0 c1 c2 c3 c4 c5 c6
 obtain ⟨d0,d1,d2,d3,d4,d5,d6⟩:=HX.out _ HK9.out
 have q3:(pn:Int)≤(e1:Int):=by omega
 have q4:(0:Int)≤(pn:Int):=by omega
 have ha9:=alloc_any w9 (.cells #[.string ⟨g9.toArray⟩,.slice a1 pn e1,.slice a6 0 e6,.slice none 0 0] 120)
 have HKa:=Ld (HK9.out.trans (ha9.mono HK9.out.size))
 have HBa:=Ld (HB9.out.trans (ha9.mono HB9.out.size))
 obtain ⟨c0,c1,c2,c3,c4,c5,c6⟩:=HX.out _ HKa.out
 have f10:=FS.out _ HBa.out
 rw [HSL2.out] at f10
 unfold IRes at f10
 have f10:=Ld f10
 clear ha9 HK9 HB9 FS
 go_wp2_with fail
 (with_reducible refine f10.out.mono ?_);rintro e w10 ⟨v10,rfl,hv10,hb10⟩
 have HB10:=Ld (HBa.out.trans (hb10.mono HBa.out.size))
 obtain ⟨a10,e10,rfl⟩:=own_sliceI hv10
 clear hb10 hv10 f10 HKa HBa c0 c1 c2 c3 c4 c5 c6 d0 d1 d2 d3 d4 d5 d6
 go_wp2
 go_loopw [13,16,100] (fun ok r i wr=>ok=.bool true∧r=.string ⟨x.toArray⟩∧i=.int .i64 0∧Hid (Below w.heap.size w wr)) (fun _ _ _ _=>0)
 case atStart=>exact ⟨rfl,rfl,rfl,HB10.out⟩
 case round =>
  obtain ⟨rfl,rfl,rfl,HBr⟩:=hrel
  go_wp2
  go_ret2
  rw [HF.out]
  exact ⟨rfl,HBr.out⟩
theorem implTermOpen (s:ByteArray) (W:World) (hv:Vars W) (hs:s.size≤maxLen) :
  Calls Tryz.prog 35 #[.string s] W fun e W'=>e=.returned (.int .i64 (termOpen s.data.toList:Int))∧Below W.heap.size W W':=by
 have f1:=Ld (implReadTerm s W hv hs)
 clear hv hs
 go_enter Tryz.func35,Tryz.ntmps35
 go_wp2_with fail
 (with_reducible refine f1.out.mono ?_);rintro e w1 ⟨hb,⟨t,v,ht,rfl,hr⟩ | ⟨hno,rfl⟩⟩
 ·have HB:=Ld hb
  have HE:Hid (termOpen s.data.toList=t.opn):=by rw [Hid,termOpen,termOf_some ht]
  have hle:=t.size_le
  have h2:=ht.2.2
  rw [← ht.2.1] at h2
  have f2:=Ld (implOpenOf t v w1 0 ht.1 (by omega) hr)
  rw [Nat.sub_zero] at f2
  rw [show ((0:Nat):Int)=0 from rfl] at f2
  obtain ⟨T,x,rfl⟩:=hr.iface
  clear hb ht hr f1 hle h2
  generalize t.opn=z at f2 HE
  go_wp2_with fail
  (with_reducible refine f2.out.mono ?_);rintro e w2 ⟨rfl,hb2⟩
  have HB2:=Ld (HB.out.trans (hb2.mono HB.out.size))
  clear hb2
  go_wp2
  go_ret
  rw [HE.out]
  exact ⟨rfl,HB2.out⟩
 ·have HB:=Ld hb
  have HE:Hid (termOpen s.data.toList=0):=by rw [Hid,termOpen,termOf_none hno]
  clear hb hno f1
  go_wp2
  go_ret
  rw [HE.out]
  exact ⟨rfl,HB.out⟩
end Go.Proofs.YtgonemalnljabaaGreatDoor
