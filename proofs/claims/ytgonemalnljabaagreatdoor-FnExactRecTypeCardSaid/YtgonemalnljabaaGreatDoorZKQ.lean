/- KI4 TIHv -/
import Derived.Test.YtgonemalnljabaaGreatDoorZJI7
import Derived.Test.YtgonemalnljabaaGreatDoorZP8
import Derived.Test.YtgonemalnljabaaGreatDoorZQ1
import Derived.Test.YtgonemalnljabaaGreatDoorZKA
set_option maxRecDepth 100000
set_option maxHeartbeats 16000000
set_option linter.unusedSimpArgs false
set_option linter.unusedVariables false
namespace Go.Proofs.YtgonemalnljabaaGreatDoor
open Go.ChangeShapes Go.WideShapes Go.ChangeAt Go.RowKit
theorem implMotiveSort{w:World}{d:Dc}{b:Nat}{u:Value}(h:w.ownsRow b 42 2 u d.ctors.length (xI d.ctors))(hs:d.Small)(hr:d.Rng)(hv:Vars w)(hm:MaxLenInt w) :
  Calls Tryz.prog 38 #[d.val u] w fun e w'=>e=.returned (.string ⟨(yG d).toArray⟩)∧Below w.heap.size w w':=by
 have FD:=Ld fun (W:World) (hW:Below w.heap.size w W)=>implIsData (zA h hW) hs hr (hv.below hW) (hm.below hW)
 have FL:=Ld fun (W:World) (hW:Below w.heap.size w W)=>implLargeOk (zA h hW) hs hr (hv.below hW) (hm.below hW)
 have HV:=Ld hv
 have hid:(decide (d.kind=4)&&zZ d)=isData d:=rfl
 rw[hid] at FD
 have HE:Hid (yG d=if isData d=true then (if largeOk d=true then 115::117::(Lib.itoa d.params++[46]) else [115,122,46]) else []):=rfl
 have HP:Hid (isData d=true→0≤d.params∧d.params≤3):=fun h=>declOk_params (by rw[← hid,Bool.and_eq_true] at h;exact h.2)
 clear hid
 obtain⟨kd,nm,ps,fl,ty,vl,cs⟩:=d
 obtain⟨ua,uc,rfl⟩:=zR h
 have hval:Dc.val ⟨kd,nm,ps,fl,ty,vl,cs⟩ (.slice ua cs.length uc)=.agg #[.int .i64 kd,.string ⟨nm.toArray⟩,.int .i64 ps,.int .i64 fl,.string ⟨ty.toArray⟩,.string ⟨vl.toArray⟩,.slice ua cs.length uc]:=rfl
 rw[hval] at FD FL ⊢
 simp only at HE HP
 obtain⟨W0,hW0⟩:∃ W0,w.alloc (.cells #[.int .i64 kd,.string ⟨nm.toArray⟩,.int .i64 ps,.int .i64 fl,.string ⟨ty.toArray⟩,.string ⟨vl.toArray⟩,.slice ua cs.length uc] 36)=W0:=⟨_,rfl⟩
 have HX:Hid (∀ W,Below W0.heap.size W0 W→W.cell? ⟨w.heap.size,0,none⟩=some (.int .i64 kd)∧W.cell? ⟨w.heap.size,1,none⟩=some (.string ⟨nm.toArray⟩)∧W.cell? ⟨w.heap.size,2,none⟩=some (.int .i64 ps)∧W.cell? ⟨w.heap.size,3,none⟩=some (.int .i64 fl)∧W.cell? ⟨w.heap.size,4,none⟩=some (.string ⟨ty.toArray⟩)∧W.cell? ⟨w.heap.size,5,none⟩=some (.string ⟨vl.toArray⟩)∧W.cell? ⟨w.heap.size,6,none⟩=some (.slice ua cs.length uc)):=by
  rw[Hid,← hW0];exact xF
 have HB0:Hid (Below w.heap.size w W0):=by rw[Hid,← hW0];exact zI _ _
 obtain⟨c0,c1,c2,c3,c4,c5,c6⟩:=HX.out _ (Below.refl _ _)
 have f1:=Ld (FD.out _ HB0.out)
 clear h hval hs hr hv hm FD
 generalize isData ⟨kd,nm,ps,fl,ty,vl,cs⟩=b1 at f1 HE HP
 generalize largeOk ⟨kd,nm,ps,fl,ty,vl,cs⟩=b2 at FL HE
 generalize yG ⟨kd,nm,ps,fl,ty,vl,cs⟩=r at HE ⊢
 go_enter Tryz.func38,Tryz.ntmps38
 go_wp2_with fail
 (with_reducible refine f1.out.mono ?_);rintro e w1 ⟨rfl,hb⟩
 have HK1:=Ld hb
 have HB1:=Ld (HB0.out.trans (hb.mono HB0.out.size))
 clear c0 c1 c2 c3 c4 c5 c6
 obtain⟨c0,c1,c2,c3,c4,c5,c6⟩:=HX.out _ hb
 clear hb f1 hW0
 cases b1
 ·have HF:Hid (r=[]):=by rw[Hid,HE.out];rfl
  clear FL HX HE HP
  go_wp2
  go_ret
  rw[HF.out]
  exact⟨rfl,HB1.out⟩
 obtain⟨p0,p3⟩:=HP.out rfl
 obtain⟨n,rfl⟩:∃ n:Nat,ps=(n:Int):=⟨ps.toNat,by omega⟩
 have f2:=Ld (FL.out _ HB1.out)
 clear HP FL
 go_wp2_with fail
 (with_reducible refine f2.out.mono ?_);rintro e w2 ⟨rfl,hb2⟩
 have hk2:=HK1.out.trans (hb2.mono HK1.out.size)
 have HB2:=Ld (HB1.out.trans (hb2.mono HB1.out.size))
 clear c0 c1 c2 c3 c4 c5 c6
 obtain⟨c0,c1,c2,c3,c4,c5,c6⟩:=HX.out _ hk2
 have HK2:=Ld hk2
 clear hb2 hk2 f2 HK1
 cases b2
 ·have HF:Hid (r=[115,122,46]):=by rw[Hid,HE.out];rfl
  have hr2:yD (w2.alloc (.cells #[.string ⟨([122]:List UInt8).toArray⟩] 110)) (.sort ([122]:List UInt8)) (.iface 108 (.pointer (some ⟨w2.heap.size,0,none⟩))):=⟨_,rfl,heap_alloc_new _ _⟩
  have ba2:=zI w2 (.cells #[.string ⟨([122]:List UInt8).toArray⟩] 110)
  have f5:=Ld (implText (HV.out.below (HB2.out.trans (ba2.mono HB2.out.size))) (t:=.sort ([122]:List UInt8)) trivial hr2 (by simp[Tm.bytes]))
  have HBA:=Ld (HB2.out.trans (ba2.mono HB2.out.size))
  clear hr2 ba2
  go_wp2_with fail
  (with_reducible refine f5.out.mono ?_);rintro e w5 ⟨rfl,hb5⟩
  have HB5:=Ld (HBA.out.trans (hb5.mono HBA.out.size))
  clear hb5 f5
  go_wp2
  go_ret
  rw[HF.out]
  exact⟨rfl,HB5.out⟩
 ·have HF:Hid (r=(Tm.sort (117::Lib.decDigits n)).bytes):=by
   rw[Hid,HE.out]
   show 115::117::(Lib.itoa ((n:Nat):Int)++[46])=_
   rw[Lib.itoa_nonneg]
   rfl
  have hdk:(Lib.decDigits n).length≤21:=by rw[Lib.decDigits_one (by omega)];simp
  have f3:=Ld (implParamLevel (n:=n) w2 (by omega) (HV.out.below HB2.out))
  generalize Lib.decDigits n=dg at f3 HF hdk
  go_wp2_with fail
  (with_reducible refine f3.out.mono ?_);rintro e w3 ⟨rfl,hb3⟩
  have HB3:=Ld (HB2.out.trans (hb3.mono HB2.out.size))
  clear hb3 f3 c0 c1 c2 c3 c4 c5 c6
  have hr3:yD (w3.alloc (.cells #[.string ⟨(117::dg).toArray⟩] 110)) (.sort (117::dg)) (.iface 108 (.pointer (some ⟨w3.heap.size,0,none⟩))):=⟨_,rfl,heap_alloc_new _ _⟩
  have ba3:=zI w3 (.cells #[.string ⟨(117::dg).toArray⟩] 110)
  have f5:=Ld (implText (HV.out.below (HB3.out.trans (ba3.mono HB3.out.size))) (t:=.sort (117::dg)) trivial hr3 (by simp[Tm.bytes];omega))
  have HBA:=Ld (HB3.out.trans (ba3.mono HB3.out.size))
  clear hr3 ba3
  go_wp2_with fail
  (with_reducible refine f5.out.mono ?_);rintro e w5 ⟨rfl,hb5⟩
  have HB5:=Ld (HBA.out.trans (hb5.mono HBA.out.size))
  clear hb5 f5
  go_wp2
  go_ret
  rw[HF.out]
  exact⟨rfl,HB5.out⟩
theorem implVarText(n:Int)(W:World)(hv:Vars W) :
  Calls Tryz.prog 39 #[.int .i64 n] W fun e W'=>e=.returned (.string ⟨(yO n).toArray⟩)∧Below W.heap.size W W':=by
 by_cases h:0≤n∧n≤999
 ·obtain⟨u,rfl⟩:∃ u:Nat,n=(u:Int):=⟨n.toNat,by omega⟩
  have HE:Hid (yO (u:Int)=(Tm.var u).bytes):=by rw[Hid,yO,if_pos h];rfl
  have hok:(Tm.var u).Lim 9999:=by show u≤9999;omega
  have hle:(Tm.var u).bytes.length≤100000000:=by
   have:=digits_len (u:=u) (by omega)
   simp only[Tm.bytes,List.length_cons,List.length_append,List.length_nil]
   omega
  have hb0:=Below.alloc (Below.refl W.heap.size W) (Nat.le_refl _) (.cells #[.int .i64 (u:Int)] 113)
  have f1:=Ld (implText (hv.below hb0) (t:=.var u) (v:=.iface 111 (.pointer (some ⟨W.heap.size,0,none⟩))) hok ⟨_,rfl,heap_alloc_new _ _⟩ hle)
  have HB0:=Ld hb0
  have d1:decide ((999:Int)<(u:Int))=false:=decide_eq_false (by omega)
  have d2:decide ((u:Int)<0)=false:=decide_eq_false (by omega)
  generalize (Tm.var u).bytes=tb at f1 HE
  clear h hok hle hv hb0
  go_enter Tryz.func39,Tryz.ntmps39
  go_wp2_with fail
  (with_reducible refine f1.out.mono ?_);rintro e w1 ⟨rfl,hb⟩
  have HB:=Ld (HB0.out.trans (hb.mono HB0.out.size))
  clear hb
  go_wp2
  go_ret
  rw[HE.out]
  exact⟨rfl,HB.out⟩
 ·have HE:Hid (yO n=[]):=by rw[Hid,yO,if_neg h]
  clear hv
  by_cases h0:n<0
  ·have d1:decide (n<0)=true:=decide_eq_true h0
   clear h
   go_enter Tryz.func39,Tryz.ntmps39
   go_wp2
   go_ret
   rw[HE.out]
   exact⟨rfl,Below.refl _ _⟩
  ·have d1:decide (n<0)=false:=decide_eq_false h0
   have d2:decide ((999:Int)<n)=true:=decide_eq_true (by omega)
   clear h
   go_enter Tryz.func39,Tryz.ntmps39
   go_wp2
   go_ret
   rw[HE.out]
   exact⟨rfl,Below.refl _ _⟩
end Go.Proofs.YtgonemalnljabaaGreatDoor
