/- KI4 -/
import Derived.Test.YtcaahdjhbmmcnaaGreatDoorYQ7
import Derived.Test.YtcaahdjhbmmcnaaGreatDoorYP8
import Derived.Test.YtcaahdjhbmmcnaaGreatDoorYQ1
import Derived.Test.YtcaahdjhbmmcnaaGreatDoorYKA
set_option maxRecDepth 100000
set_option maxHeartbeats 16000000
set_option linter.unusedSimpArgs false
set_option linter.unusedVariables false
namespace Go.Proofs.YtcaahdjhbmmcnaaGreatDoor
open Go.ChangeShapes Go.WideShapes Go.ChangeAt Go.RowKit
theorem implRecLevels {w:World} {d:Dc} {b:Nat} {u:Value} (h:w.ownsRow b 88 2 u d.ctors.length (flatC d.ctors)) (hs:d.Small) (hr:d.Rng) (hv:Vars w) (hm:MaxLenInt w) :
  Rt 76 #[d.val u] w (.int .i64 (recLevels d)):=by
 have FD:=Ld fun (W:World) (hW:Below w.heap.size w W)=>implIsData (own_below h hW) hs hr (hv.below hW) (hm.below hW);have FL:=Ld fun (W:World) (hW:Below w.heap.size w W)=>implLargeOk (own_below h hW) hs hr (hv.below hW) (hm.below hW);have HV:=Ld hv;have hid:(decide (d.kind=4) && declOk d)=isData d:=rfl;rw [hid] at FD;have HE:Hid (recLevels d=if isData d=true then (if largeOk d=true then d.params+1 else d.params) else 0):=rfl;have HP:Hid (isData d=true->0<=d.params/\d.params<=3):=fun h=>declOk_params (by rw [← hid,Bool.and_eq_true] at h;exact h.2);clear hid;obtain ⟨kd,nm,ps,fl,ty,vl,cs⟩:=d;obtain ⟨ua,uc,rfl⟩:=row_sliceD h;have hval:=dval kd nm ps fl ty vl cs (.slice ua cs.length uc);rw [hval] at FD FL |-;simp only at HE HP;obtain ⟨W0,hW0⟩:∃ W0,w.alloc (dC kd nm ps fl ty vl (.slice ua cs.length uc) 52)=W0:=⟨_,rfl⟩;have HX:Hid (∀ W,Below W0.heap.size W0 W->W.cell? ⟨w.heap.size,0,none⟩=some (.int .i64 kd)/\W.cell? ⟨w.heap.size,1,none⟩=some (.string ⟨nm.toArray⟩)/\W.cell? ⟨w.heap.size,2,none⟩=some (.int .i64 ps)/\W.cell? ⟨w.heap.size,3,none⟩=some (.int .i64 fl)/\W.cell? ⟨w.heap.size,4,none⟩=some (.string ⟨ty.toArray⟩)/\W.cell? ⟨w.heap.size,5,none⟩=some (.string ⟨vl.toArray⟩)/\W.cell? ⟨w.heap.size,6,none⟩=some (.slice ua cs.length uc)):=by
  rw [Hid,← hW0];exact declBox
 have HB0:Hid (Below w.heap.size w W0):=by rw [Hid,← hW0];exact alloc_any _ _
 obtain ⟨c0,c1,c2,c3,c4,c5,c6⟩:=HX.out _ (bR _ _);have f1:=Ld (FD.out _ HB0.out);clear h hval hs hr hv hm FD;generalize isData ⟨kd,nm,ps,fl,ty,vl,cs⟩=b1 at f1 HE HP;generalize largeOk ⟨kd,nm,ps,fl,ty,vl,cs⟩=b2 at FL HE;generalize recLevels ⟨kd,nm,ps,fl,ty,vl,cs⟩=r at HE |-;go_enter Tryz.func76,Tryz.ntmps76;go_wp2_with fail;(with_reducible refine mo f1.out fun w1 hb=>?_);have HK1:=Ld hb;have HB1:=bt HB0.out hb;clear c0 c1 c2 c3 c4 c5 c6;obtain ⟨c0,c1,c2,c3,c4,c5,c6⟩:=HX.out _ hb;clear hb f1 hW0;cases b1
 ·have HF:Hid (r=0):=(by rw [Hid,HE.out];rfl);clear FL HX HE HP;go_wp2;go_ret;rw [HF.out];exact ⟨rfl,HB1.out⟩
 obtain ⟨p0,p3⟩:=HP.out rfl;obtain ⟨n,rfl⟩:∃ n:Nat,ps=(n:Int):=⟨ps.toNat,by omega⟩;have f2:=Ld (FL.out _ HB1.out);clear HP FL;go_wp2_with fail;(with_reducible refine mo f2.out fun w2 hb2=>?_);have hk2:=HK1.out.trans (hb2.mono HK1.out.size);have HB2:=bt HB1.out hb2;clear c0 c1 c2 c3 c4 c5 c6;obtain ⟨c0,c1,c2,c3,c4,c5,c6⟩:=HX.out _ hk2;have HK2:=Ld hk2;clear hb2 hk2 f2 HK1;cases b2
 ·have HF:Hid (r=(n:Int)):=(by rw [Hid,HE.out];rfl);go_wp2;go_ret;rw [HF.out];exact ⟨rfl,HB2.out⟩
 ·have HF:Hid (r=(n:Int)+1):=(by rw [Hid,HE.out];rfl);have hw:IntKind.i64.wrap ((n:Int)+1)=(n:Int)+1:=IntWalk.i64_in _ (by omega);go_wp2;go_ret;rw [HF.out];exact ⟨rfl,HB2.out⟩
end Go.Proofs.YtcaahdjhbmmcnaaGreatDoor
