/- GDataP GSelfP GI1 GI2 GI3P GI3 GI4P GI3C -/
import Derived.Lib.Strings
import Derived.Test.YtcaahdjhbmmcnaaGreatDoorYA6
import Derived.Test.YtcaahdjhbmmcnaaGreatDoorYG1
import Derived.Test.YtcaahdjhbmmcnaaGreatDoorYA1
import Derived.Test.YtcaahdjhbmmcnaaGreatDoorYA2
import Derived.Test.YtcaahdjhbmmcnaaGreatDoorYP3
import Derived.Test.YtcaahdjhbmmcnaaGreatDoorYP4
import Derived.Test.YtcaahdjhbmmcnaaGreatDoorYP1
set_option maxRecDepth 100000
set_option maxHeartbeats 16000000
set_option linter.unusedSimpArgs false
set_option linter.unusedVariables false
namespace Go.Proofs.YtcaahdjhbmmcnaaGreatDoor
open Go.ChangeShapes Go.WideShapes Go.ChangeAt Go.RowKit
theorem declBox {w:World} {kd ps fl:Int} {nm ty vl:List UInt8} {u:Value}:∀ W,Below (w.alloc (dC kd nm ps fl ty vl u 52)).heap.size (w.alloc (dC kd nm ps fl ty vl u 52)) W ->
  W.cell? ⟨w.heap.size,0,none⟩=some (.int .i64 kd)/\W.cell? ⟨w.heap.size,1,none⟩=some (.string ⟨nm.toArray⟩)/\W.cell? ⟨w.heap.size,2,none⟩=some (.int .i64 ps)/\W.cell? ⟨w.heap.size,3,none⟩=some (.int .i64 fl)/\W.cell? ⟨w.heap.size,4,none⟩=some (.string ⟨ty.toArray⟩)/\W.cell? ⟨w.heap.size,5,none⟩=some (.string ⟨vl.toArray⟩)/\W.cell? ⟨w.heap.size,6,none⟩=some u:=by
 intro W hb;have h:=fun i=>hb.cell (p:=⟨w.heap.size,i,none⟩) (by simp);have k:=World.news_of_block (cs:=#[.int .i64 kd,.string ⟨nm.toArray⟩,.int .i64 ps,.int .i64 fl,.string ⟨ty.toArray⟩,.string ⟨vl.toArray⟩,u]) (t:=52) (fr:=(0,0)) (heap_alloc_new w _);exact ⟨(h 0).trans (k 0 _ rfl),(h 1).trans (k 1 _ rfl),(h 2).trans (k 2 _ rfl),(h 3).trans (k 3 _ rfl),(h 4).trans (k 4 _ rfl),(h 5).trans (k 5 _ rfl),(h 6).trans (k 6 _ rfl)⟩
theorem addRec (nm:List UInt8):∃ x,addRes ⟨nm.toArray⟩ ⟨#[114,101,99]⟩=.tuple #[.string x,.bool (nameOk nm && nameOk (nm ++ 46 :: recB))]:=by
 have hr:nameOk [114,101,99]=true:=by decide
 have e:(⟨nm.toArray⟩ ++ (⟨#[46]⟩:ByteArray) ++ ⟨#[114,101,99]⟩:ByteArray).data.toList=nm ++ 46 :: recB:=by simp [recB]
 unfold addRes;rw [e];simp only [hr,true_and];by_cases h1:nameOk nm=true/\nameOk (nm ++ 46 :: recB)=true
 ·rw [iP h1,h1.1,h1.2];exact ⟨_,rfl⟩
 ·rw [iN h1];refine ⟨⟨#[]⟩,?_⟩;rw [show (nameOk nm && nameOk (nm ++ 46 :: recB))=false by rw [Bool.eq_false_iff];intro h;rw [Bool.and_eq_true] at h;exact h1 h]
theorem declOk_params {d:Dc} (h:declOk d=true):0<=d.params/\d.params<=3:=by
 simp only [declOk,Bool.and_eq_true,decide_eq_true_eq] at h;exact h.2.1
theorem and_not_zero {a m:BitVec 64} (h:a &&& ~~~m=0#64):a.toNat<=m.toNat:=by
 have e:a=a &&& m:=by
  ext i hi;have:=congrArg (fun v:BitVec 64=>v.getLsbD i) h;simp at this;simp;exact fun h1=>by simpa [BitVec.getLsbD_eq_getElem hi] using this h1 hi
 calc a.toNat=(a &&& m).toNat:=by rw [← e]
  _=a.toNat &&& m.toNat:=BitVec.toNat_and ..
  _<=m.toNat:=Nat.and_le_right
theorem toNat_ofInt64 {x:Int} (h1:-9223372036854775808<=x) (h2:x<=9223372036854775807):((BitVec.ofInt 64 x).toNat:Int)=if x < 0 then x+18446744073709551616 else x:=by
 rw [BitVec.toNat_ofInt];split<;>omega
theorem bits_andNot_zero {x m:Int} (hm:0<=m) (hm2:m<=6) (h1:-9223372036854775808<=x) (h2:x<=9223372036854775807) (h:bits .andNot .i64 x m=0):0<=x/\x<=m:=by
 have h':IntKind.wrap .i64 ((BitVec.ofInt 64 x &&& ~~~ BitVec.ofInt 64 m).toNat)=0:=h;generalize hr:BitVec.ofInt 64 x &&& ~~~ BitVec.ofInt 64 m=r at h';have hr0:r=0#64:=by
  have hlt:=r.isLt;apply BitVec.eq_of_toNat_eq;rw [show (0#64).toNat=0 from rfl];generalize r.toNat=n at h' hlt;unfold IntKind.wrap at h';simp only [IntKind.signed,IntKind.bits] at h';simp at h';omega
 rw [hr0] at hr;have hle:=and_not_zero hr;have ex:=toNat_ofInt64 h1 h2;have em:=toNat_ofInt64 (x:=m) (by omega) (by omega);split at ex<;>split at em<;>omega
theorem flags_0 {x:Int} (h1:-9223372036854775808<=x) (h2:x<=9223372036854775807):(bits .andNot .i64 x 0=0)↔x=0:=by
 refine ⟨fun h=>?_,fun h=>?_⟩
 ·have:=bits_andNot_zero (by decide) (by decide) h1 h2 h;omega
 ·subst h;decide
theorem flags_1 {x:Int} (h1:-9223372036854775808<=x) (h2:x<=9223372036854775807):(bits .andNot .i64 x 1=0)↔x=0\/x=1:=by
 refine ⟨fun h=>?_,fun h=>?_⟩
 ·have:=bits_andNot_zero (by decide) (by decide) h1 h2 h;omega
 ·rcases h with rfl | rfl<;>decide
theorem flags_6 {x:Int} (h1:-9223372036854775808<=x) (h2:x<=9223372036854775807):(bits .andNot .i64 x 6=0)↔0<=x/\x<=7/\x.tmod 2=0:=by
 have hc:0<=x->x<=7->x=0\/x=1\/x=2\/x=3\/x=4\/x=5\/x=6\/x=7:=by omega
 refine ⟨fun h=>?_,fun h=>?_⟩
 ·have:=bits_andNot_zero (by decide) (by decide) h1 h2 h;refine ⟨by omega,by omega,?_⟩;rcases hc (by omega) (by omega) with rfl | rfl | rfl | rfl | rfl | rfl | rfl | rfl<;>first | decide | exact absurd h (by decide)
 ·obtain ⟨a,b,c⟩:=h;rcases hc a b with rfl | rfl | rfl | rfl | rfl | rfl | rfl | rfl<;>first | decide | exact absurd c (by decide)
def knownK (k:Int):Bool:=decide (1<=k) && decide (k<=4)
def valueK (k:Int):Bool:=decide (k=2) || decide (k=3)
def mostK (k:Int):Int:=if k=4 then 2 else 3
def flagsK (k:Int):Int:=if k=2\/k=3 then 1 else if k=4 then 6 else 0
theorem implKnown (k:Int) (w:World):Calls Tryz.prog 107 #[.int .i64 k] w fun e w'=>e=.returned (.bool (knownK k))/\w'=w:=by
 by_cases h1:1<=k
 ·by_cases h2:k<=4
  ·have HE:=Ld (show knownK k=true by simp [knownK,h1,h2]);have d1:decide (1<=k)=true:=dT h1;have d2:decide (k<=4)=true:=dT h2;go_enter Tryz.func107,Tryz.ntmps107;go_wp2;go_ret;rw [HE.out];exact ⟨rfl,rfl⟩
  ·have HE:=Ld (show knownK k=false by simp [knownK,h2]);have d1:decide (1<=k)=true:=dT h1;have d2:decide (k<=4)=false:=dF h2;go_enter Tryz.func107,Tryz.ntmps107;go_wp2;go_ret;rw [HE.out];exact ⟨rfl,rfl⟩
 ·have HE:=Ld (show knownK k=false by simp [knownK,h1]);have d1:decide (1<=k)=false:=dF h1;go_enter Tryz.func107,Tryz.ntmps107;go_wp2;go_ret;rw [HE.out];exact ⟨rfl,rfl⟩
theorem implHasValue (k:Int) (w:World):Calls Tryz.prog 156 #[.int .i64 k] w fun e w'=>e=.returned (.bool (valueK k))/\w'=w:=by
 by_cases h1:k=2
 ·subst h1;go_enter Tryz.func156,Tryz.ntmps156;go_wp2;go_ret;exact ⟨rfl,rfl⟩
 ·by_cases h2:k=3
  ·subst h2;go_enter Tryz.func156,Tryz.ntmps156;go_wp2;go_ret;exact ⟨rfl,rfl⟩
  ·have HE:=Ld (show valueK k=false by simp [valueK,h1,h2]);have d1:(k == 2)=false:=beq_eq_false_iff_ne.2 h1;have d2:(k == 3)=false:=beq_eq_false_iff_ne.2 h2;clear h1 h2;go_enter Tryz.func156,Tryz.ntmps156;go_wp2;go_ret;rw [HE.out];exact ⟨rfl,rfl⟩
theorem implMost (k:Int) (w:World):Calls Tryz.prog 109 #[.int .i64 k] w fun e w'=>e=.returned (.int .i64 (mostK k))/\w'=w:=by
 by_cases h1:k=4
 ·subst h1;go_enter Tryz.func109,Tryz.ntmps109;go_wp2;go_ret;exact ⟨rfl,rfl⟩
 ·have HE:=Ld (show mostK k=3 by simp [mostK,h1]);have d1:(k == 4)=false:=beq_eq_false_iff_ne.2 h1;clear h1;go_enter Tryz.func109,Tryz.ntmps109;go_wp2;go_ret;rw [HE.out];exact ⟨rfl,rfl⟩
theorem implFlags (k:Int) (w:World):Calls Tryz.prog 110 #[.int .i64 k] w fun e w'=>e=.returned (.int .i64 (flagsK k))/\w'=w:=by
 by_cases h2:k=2
 ·subst h2;go_enter Tryz.func110,Tryz.ntmps110;go_wp2;go_ret;exact ⟨rfl,rfl⟩
 by_cases h3:k=3
 ·subst h3;go_enter Tryz.func110,Tryz.ntmps110;go_wp2;go_ret;exact ⟨rfl,rfl⟩
 by_cases h4:k=4
 ·subst h4;go_enter Tryz.func110,Tryz.ntmps110;go_wp2;go_ret;exact ⟨rfl,rfl⟩
 have HE:=Ld (show flagsK k=0 by simp [flagsK,h2,h3,h4]);have d2:(k == 2)=false:=beq_eq_false_iff_ne.2 h2;have d3:(k == 3)=false:=beq_eq_false_iff_ne.2 h3;have d4:(k == 4)=false:=beq_eq_false_iff_ne.2 h4;clear h2 h3 h4;go_enter Tryz.func110,Tryz.ntmps110;go_wp2;go_ret;rw [HE.out];exact ⟨rfl,rfl⟩
theorem implIsClosed (d:Dc) (a:Option Addr) (n c:Nat) (t:List UInt8) (w:World) (hv:Vars w) (ht:t.length<=maxLen) :
  Rt 111 #[d.val (.slice a n c),.string ⟨t.toArray⟩] w (.bool (closedOf t d.params)):=by
 obtain ⟨kd,nm,ps,fl,ty,vl,cs⟩:=d;rw [show Dc.val ⟨kd,nm,ps,fl,ty,vl,cs⟩ (.slice a n c)=.agg #[.int .i64 kd,.string ⟨nm.toArray⟩,.int .i64 ps,.int .i64 fl,.string ⟨ty.toArray⟩,.string ⟨vl.toArray⟩,.slice a n c] from rfl];show Calls _ _ _ _ fun e w'=>e=.returned (.bool (closedOf t ps))/\_;have bx:=alloc_any w (dC kd nm ps fl ty vl (.slice a n c) 52);have HB0:=Ld bx;have HX:=Ld (declBox (w:=w) (kd:=kd) (ps:=ps) (fl:=fl) (nm:=nm) (ty:=ty) (vl:=vl) (u:=.slice a n c));have f1:=Ld (implReadTerm ⟨t.toArray⟩ (w.alloc (dC kd nm ps fl ty vl (.slice a n c) 52)) (hv.below bx) (by rw [size_sv];exact ht));unfold ReadAns at f1;simp only at f1;clear hv ht bx;go_enter Tryz.func111,Tryz.ntmps111;go_wp2_with fail;(with_reducible refine f1.out.mono ?_);rintro e w1 ⟨hb,⟨tm,v,ht,rfl,hr⟩ | ⟨hno,rfl⟩⟩
 ·have HB:=bt HB0.out hb;have HE:Hid (closedOf t ps=(decide (tm.opn=0) && decide ((tm.params:Int)<=ps))):=by
   have e1:termOk t=true:=(by rw [termOk,termOf_some ht];rfl);rw [Hid,closedOf,e1,termOpen,paramsIn,termOf_some ht];rfl
  have hle:=tm.size_le;have h2:=ht.2.2;rw [← ht.2.1] at h2;have hok:=ht.1;have f2:=Ld fun (W:World) (hW:Below w1.heap.size w1 W)=>implOpenOf tm v W 0 hok (by omega) (hr.below hW);simp only [Nat.sub_zero,show ((0:Nat):Int)=0 from rfl] at f2;have f3:=Ld fun (W:World) (hW:Below w1.heap.size w1 W)=>implParamsOf tm.size tm v W (nR _) hok (hr.below hW);obtain ⟨T,x,rfl⟩:=hr.iface;obtain ⟨_,_,c2,_,_,_,_⟩:=HX.out _ hb;have hsz:w.heap.size < w1.heap.size:=(by have:=hb.size;simp at this;omega);clear hb ht hr f1 hle h2 hok HX HB0;generalize tm.opn=z at f2 HE;generalize tm.params=q at f3 HE;go_wp2;refine wp_region_held_drew (S:=(fun w'=>w'.cell? ⟨w.heap.size,2,none⟩=some (.int .i64 ps))) (by kernel_rfl) c2 (fun hS0=>?_);refine qV 0 12 (.bool true) hS0 ?_;simp only [Act.put,eA,eB,eC];refine qV 1 13 (.bool true) hS0 ?_;simp only [Act.put,eA,eB,eC];refine qV 2 14 (.iface T x) hS0 ?_;simp only [Act.put,eA,eB,eC];refine qR 3 fun K hK=>?_;go_simp;(with_reducible refine mo (f2.out _ (bR _ _).drew) fun w2 hb2=>?_);have hb12:Below w1.heap.size w1 w2:=((bR w1.heap.size w1).drew).trans hb2;have HB2:=bt HB.out hb12;have e2:w2.cell? ⟨w.heap.size,2,none⟩=some (.int .i64 ps):=(hb12.cell (p:=⟨w.heap.size,2,none⟩) hsz).trans c2;have hsz2:w.heap.size < w2.heap.size:=Nat.lt_of_lt_of_le hsz hb12.size;have H12:=Ld hb12;refine hK.out _ _ e2 (fun hS1=>?_);clear hK K hb2 hb12 hS0 f2
  try simp only [Act.put,eA,eB,eC]
  by_cases z0:z=0;rotate_left
  ·have d0:((z:Int) == 0)=false:=(by rw [bF];omega);have HF:Hid (closedOf t ps=false):=(by rw [Hid,HE.out];simp [z0]);clear z0;refine qV 4 16 (.bool false) hS1 ?_;simp only [Act.put,eA,eB,eC];refine qV 5 17 (.bool false) hS1 ?_;simp only [Act.put,eA,eB,eC];refine qV 6 18 (.bool false) hS1 ?_;simp only [Act.put,eA,eB,eC];refine qS 7 19 hS1 ?_;simp only [Act.put,eA,eB,eC];refine qS 8 20 hS1 ?_;simp only [Act.put,eA,eB,eC];refine qS 9 21 hS1 ?_;simp only [Act.put,eA,eB,eC];refine qS 10 22 hS1 ?_;simp only [Act.put,eA,eB,eC];refine qS 11 23 hS1 ?_;simp only [Act.put,eA,eB,eC];refine qV 12 24 (.bool false) hS1 ?_;simp only [Act.put,eA,eB,eC];refine qV 13 4 (.bool false) hS1 ?_;simp only [Act.put,eA,eB,eC];refine wpAnyH_done (by kernel_rfl) ?_ _;go_wp2;go_ret;rw [HF.out];exact ⟨rfl,HB2.out⟩
  subst z0;refine qV 4 16 (.bool true) hS1 ?_;simp only [Act.put,eA,eB,eC];refine qV 5 17 (.bool true) hS1 ?_;simp only [Act.put,eA,eB,eC];refine qV 6 18 (.bool true) hS1 ?_;simp only [Act.put,eA,eB,eC];refine qV 7 19 (.iface T x) hS1 ?_;simp only [Act.put,eA,eB,eC];refine qV 9 21 (.pointer (some ⟨w.heap.size,2,none⟩)) hS1 ?_;simp only [Act.put,eA,eB,eC];refine qV 10 22 (.int .i64 ps) hS1 ?_;simp only [Act.put,eA,eB,eC];refine qR 8 fun K hK=>?_;go_simp;(with_reducible refine mo (f3.out _ H12.out) fun w3 hb3=>?_);have HB3:=bt HB2.out hb3;have e3:w3.cell? ⟨w.heap.size,2,none⟩=some (.int .i64 ps):=(hb3.cell (p:=⟨w.heap.size,2,none⟩) hsz2).trans e2;refine hK.out _ _ e3 (fun hS2=>?_);clear hK K hb3 hS1 f3
  try simp only [Act.put,eA,eB,eC]
  by_cases z1:(q:Int)<=ps
  ·have d1:decide ((q:Int)<=ps)=true:=dT z1;have HF:Hid (closedOf t ps=true):=(by rw [Hid,HE.out];simp [z1]);clear z1;refine qV 11 23 (.bool true) hS2 ?_;simp only [Act.put,eA,eB,eC];refine qV 12 24 (.bool true) hS2 ?_;simp only [Act.put,eA,eB,eC];refine qV 13 4 (.bool true) hS2 ?_;simp only [Act.put,eA,eB,eC];refine wpAnyH_done (by kernel_rfl) ?_ _;go_wp2;go_ret;rw [HF.out];exact ⟨rfl,HB3.out⟩
  ·have d1:decide ((q:Int)<=ps)=false:=dF z1;have HF:Hid (closedOf t ps=false):=(by rw [Hid,HE.out];simp [z1]);clear z1;refine qV 11 23 (.bool false) hS2 ?_;simp only [Act.put,eA,eB,eC];refine qV 12 24 (.bool false) hS2 ?_;simp only [Act.put,eA,eB,eC];refine qV 13 4 (.bool false) hS2 ?_;simp only [Act.put,eA,eB,eC];refine wpAnyH_done (by kernel_rfl) ?_ _;go_wp2;go_ret;rw [HF.out];exact ⟨rfl,HB3.out⟩
 ·have HB:=bt HB0.out hb;have HE:Hid (closedOf t ps=false):=by
   have e1:termOk t=false:=(by rw [termOk,termOf_none hno];rfl);rw [Hid,closedOf,e1];rfl
  obtain ⟨_,_,c2,_,_,_,_⟩:=HX.out _ hb;clear hb hno f1 HX;go_wp2;refine wp_region_held_drew (S:=(fun w'=>w'.cell? ⟨w.heap.size,2,none⟩=some (.int .i64 ps))) (by kernel_rfl) c2 (fun hS0=>?_);refine qV 0 12 (.bool false) hS0 ?_;simp only [Act.put,eA,eB,eC];refine qV 1 13 (.bool false) hS0 ?_;simp only [Act.put,eA,eB,eC];refine qS 2 14 hS0 ?_;simp only [Act.put,eA,eB,eC];refine qS 3 15 hS0 ?_;simp only [Act.put,eA,eB,eC];refine qS 4 16 hS0 ?_;simp only [Act.put,eA,eB,eC];refine qV 5 17 (.bool false) hS0 ?_;simp only [Act.put,eA,eB,eC];refine qV 6 18 (.bool false) hS0 ?_;simp only [Act.put,eA,eB,eC];refine qS 7 19 hS0 ?_;simp only [Act.put,eA,eB,eC];refine qS 8 20 hS0 ?_;simp only [Act.put,eA,eB,eC];refine qS 9 21 hS0 ?_;simp only [Act.put,eA,eB,eC];refine qS 10 22 hS0 ?_;simp only [Act.put,eA,eB,eC];refine qS 11 23 hS0 ?_;simp only [Act.put,eA,eB,eC];refine qV 12 24 (.bool false) hS0 ?_;simp only [Act.put,eA,eB,eC];refine qV 13 4 (.bool false) hS0 ?_;simp only [Act.put,eA,eB,eC];refine wpAnyH_done (by kernel_rfl) ?_ _;go_wp2;go_ret;rw [HE.out];exact ⟨rfl,HB.out.drew⟩
theorem implValueOk (d:Dc) (a:Option Addr) (n c:Nat) (w:World) (hv:Vars w) (ht:d.value.length<=maxLen) :
  Rt 112 #[d.val (.slice a n c)] w (.bool (if valueK d.kind=true then closedOf d.value d.params else decide (d.value=[]))):=by
 have f1:=Ld fun (W:World) (hW:Below w.heap.size w W)=>implIsClosed d a n c d.value W (hv.below hW) ht;obtain ⟨kd,nm,ps,fl,ty,vl,cs⟩:=d;simp only [show Dc.val ⟨kd,nm,ps,fl,ty,vl,cs⟩ (.slice a n c)=.agg #[.int .i64 kd,.string ⟨nm.toArray⟩,.int .i64 ps,.int .i64 fl,.string ⟨ty.toArray⟩,.string ⟨vl.toArray⟩,.slice a n c] from rfl] at f1 |-;have f0:=Ld fun W=>implHasValue kd W;have bx:=alloc_any w (dC kd nm ps fl ty vl (.slice a n c) 52);obtain ⟨c0,c1,c2,c3,c4,c5,c6⟩:=declBox (w:=w) (kd:=kd) (ps:=ps) (fl:=fl) (nm:=nm) (ty:=ty) (vl:=vl) (u:=.slice a n c) _ (bR _ _);have f2:=Ld (f1.out _ bx);have HB0:=Ld bx;clear f1 hv ht bx;generalize valueK kd=b at f0 |-;generalize closedOf vl ps=r at f2 |-;go_enter Tryz.func112,Tryz.ntmps112;go_wp2_with fail;(with_reducible refine mo (f0.out _) ?_);rintro w1 rfl;cases b
 ·by_cases k2:vl=[]
  ·have d2:(vl == [])=true:=(by rw [beq_iff_eq];exact k2);have HE:Hid (decide (vl=[])=true):=dT k2;clear k2 f2;go_wp2;go_ret;simp only [HE.out];exact ⟨rfl,HB0.out⟩
  ·have d2:(vl == [])=false:=(by rw [bF];exact k2);have HE:Hid (decide (vl=[])=false):=dF k2;clear k2 f2;go_wp2;go_ret;simp only [HE.out];exact ⟨rfl,HB0.out⟩
 ·go_wp2_with fail;(with_reducible refine mo f2.out fun w2 hb2=>?_);have HB:=bt HB0.out hb2;clear hb2 f2 c0 c1 c2 c3 c4 c5 c6;go_wp2;go_ret;exact ⟨rfl,HB.out⟩
end Go.Proofs.YtcaahdjhbmmcnaaGreatDoor
namespace Go.Proofs.YtcaahdjhbmmcnaaGreatDoor
open Go
noncomputable def ctorNameOk (c nm:List UInt8):Bool:=headOk nm c && (decide ((nparts (restOf nm c)).length=1) && decide (restOf nm c≠recB))
theorem ctorOk_name (nm:List UInt8) (p:Int) (c t:List UInt8):ctorOk nm p (c,t)=(ctorNameOk c nm && closedOf t p):=by
 simp only [ctorOk,tailOk,ctorNameOk,Bool.and_assoc]
theorem addPart (nm p:List UInt8):∃ x,addRes ⟨nm.toArray⟩ ⟨p.toArray⟩=.tuple #[.string x,.bool (nameOk nm && (nameOk p && nameOk (nm ++ 46 :: p)))]:=by
 have e:(⟨nm.toArray⟩ ++ (⟨#[46]⟩:ByteArray) ++ ⟨p.toArray⟩:ByteArray).data.toList=nm ++ 46 :: p:=by simp
 unfold addRes;rw [e];by_cases h1:nameOk nm=true/\nameOk p=true/\nameOk (nm ++ 46 :: p)=true
 ·rw [iP h1,h1.1,h1.2.1,h1.2.2];exact ⟨_,rfl⟩
 ·rw [iN h1];refine ⟨⟨#[]⟩,?_⟩;rw [show (nameOk nm && (nameOk p && nameOk (nm ++ 46 :: p)))=false by rw [Bool.eq_false_iff];intro h;rw [Bool.and_eq_true,Bool.and_eq_true] at h;exact h1 h]
theorem nameOk_nil:nameOk []=false:=by decide
theorem ctorName_hit (nm p:List UInt8):restOf nm (nm ++ 46 :: p)=p/\ctorNameOk (nm ++ 46 :: p) nm=((nameOk p && nameOk (nm ++ 46 :: p)) && (decide ((nparts p).length=1) && decide (p≠recB))):=by
 have hr:restOf nm (nm ++ 46 :: p)=p:=by
  unfold restOf;rw [show nm ++ 46 :: p=(nm ++ [46]) ++ p by simp,show nm.length+1=(nm ++ [46]).length by simp,List.drop_left]
 refine ⟨hr,?_⟩;have ht:(nm ++ 46 :: p).take (nm.length+1)=nm ++ [46]:=by
  rw [show nm ++ 46 :: p=(nm ++ [46]) ++ p by simp,show nm.length+1=(nm ++ [46]).length by simp,List.take_left]
 unfold ctorNameOk headOk;rw [hr,ht];by_cases hp:nameOk p=true
 ·have hlt:nm.length+1 < (nm ++ 46 :: p).length:=by
   have:p≠[]:=fun e=>by rw [e,nameOk_nil] at hp;cases hp
   have:=List.length_pos_iff.2 this;simp;omega
  have hlt2:0 < p.length:=(by simp at hlt;omega);simp [hp,hlt2]
 ·have h0:nparts p=[]:=iN hp;simp [h0]
theorem ctorName_miss {c nm:List UInt8} (h:Lib.hasPrefix c (nm ++ [46])=false):ctorNameOk c nm=false:=by
 rw [Bool.eq_false_iff];intro h1;simp only [ctorNameOk,headOk,Bool.and_eq_true,decide_eq_true_eq] at h1;obtain ⟨⟨_,h2,h3⟩,_⟩:=h1;rw [← Lib.hasPrefix_of_take] at h;have e1:(nm ++ ([46]:List UInt8)).length=nm.length+1:=by simp
 rw [e1,h3] at h;have e2:decide (nm.length+1<=c.length)=true:=dT (by omega);rw [e2] at h;simp at h
theorem hasPrefix_form {c q:List UInt8} (h:Lib.hasPrefix c q=true):c=q ++ Lib.trimPrefix c q:=by
 unfold Lib.trimPrefix;rw [iP h];unfold Lib.hasPrefix at h;rw [List.isPrefixOf_iff_prefix] at h;obtain ⟨r,rfl⟩:=h;rw [List.drop_left]
open Classical in
theorem ctors_in {l:List Ct} {k:Nat} (hk:k<=l.length) (n:List UInt8):(n∈(l.take k).map fun c=>c.1)↔∃ (j:Nat) (hj:j < k) (hl:j < l.length),l[j].1=n:=by
 constructor
 ·intro h;obtain ⟨c,hc,rfl⟩:=List.mem_map.1 h;obtain ⟨j,hj,e⟩:=List.mem_iff_getElem.1 hc;rw [List.length_take] at hj;refine ⟨j,by omega,by omega,?_⟩;rw [List.getElem_take] at e;rw [e]
 ·rintro ⟨j,hj,hl,rfl⟩;refine List.mem_map.2 ⟨l[j],?_,rfl⟩;rw [List.mem_iff_getElem];exact ⟨j,by rw [List.length_take];omega,by rw [List.getElem_take]⟩
end Go.Proofs.YtcaahdjhbmmcnaaGreatDoor
namespace Go.Proofs.YtcaahdjhbmmcnaaGreatDoor
open Go.ChangeShapes Go.WideShapes Go.ChangeAt Go.RowKit
theorem implIsCtorName (c nm:List UInt8) (w:World) (hnm:nameOk nm=true) (hc:c.length<=1048576) (hm:MaxLenInt w) :
  Rt 201 #[.string ⟨c.toArray⟩,.string ⟨nm.toArray⟩] w (.bool (ctorNameOk c nm)):=by
 have hl40:nm.length<=40:=nameOk_le hnm;have f1:=Ld fun W=>Tryz.strings_CutPrefix ⟨c.toArray⟩ ((⟨nm.toArray⟩:ByteArray) ++ (⟨#[46]⟩:ByteArray)) W;simp only [show ((⟨nm.toArray⟩:ByteArray) ++ (⟨#[46]⟩:ByteArray)).data.toList=nm ++ [46] by simp] at f1;have znm:=size_sv nm;have hz:((⟨nm.toArray⟩:ByteArray) ++ (⟨#[46]⟩:ByteArray)).size=nm.length+1:=by rw [ByteArray.size_append,znm];rfl
 by_cases hp:Lib.hasPrefix c (nm ++ [46])=true
 ·obtain ⟨p,hpp⟩:∃ p,Lib.trimPrefix c (nm ++ [46])=p:=⟨_,rfl⟩;have hform:=hasPrefix_form hp;rw [hpp,List.append_assoc,List.singleton_append] at hform;rw [hp,hpp] at f1;obtain ⟨hrest,hok⟩:=ctorName_hit nm p;rw [← hform] at hok;have hlp:p.length<=1048576:=(by rw [hform] at hc;simp at hc;omega);have HE:=Ld hok;obtain ⟨x,hx⟩:=addPart nm p;rw [hnm,Bool.true_and,← hform] at hx;have f2:=Ld fun W=>implNameAdd ⟨nm.toArray⟩ ⟨p.toArray⟩ W (by rw [size_sv];unfold maxLen;omega) (by rw [size_sv];unfold maxLen;omega);rw [hx] at f2;have f3:=Ld fun W (hW:MaxLenInt W)=>implNameParts ⟨p.toArray⟩ W (by rw [size_sv];unfold maxLen;omega) hW;simp only at f3;unfold LRes at f3;have hnp:=nparts_le5 p;clear hok hx hrest hform hpp hp hlp hc hnm;generalize (nameOk p && nameOk c)=b1 at f2 HE;generalize nparts p=np at f3 HE hnp;go_enter Tryz.func201,Tryz.ntmps201;go_wp2_with fail;(with_reducible refine mo (f1.out _) ?_);rintro w1 rfl;go_wp2_with fail;(with_reducible refine mo (f2.out _) fun w2 hb2=>?_);have HB2:=Ld hb2;cases b1
  ·have HF:Hid (ctorNameOk c nm=false):=(by rw [Hid,HE.out];rfl);clear hb2 f3;go_wp2;go_ret;rw [HF.out];exact ⟨rfl,HB2.out⟩
  have f4:=Ld (f3.out _ (hm.below hb2));clear hb2 f3 hm;go_wp2_with fail;(with_reducible refine f4.out.mono ?_);rintro e w3 ⟨v,rfl,hv,hb3⟩;obtain ⟨pa,pc,rfl⟩:=row_sliceD hv;have HB3:=bt HB2.out hb3;clear hv hb3 f4;generalize np.length=pn at HE hnp |-;by_cases g1:pn=1;rotate_left
  ·have dg:((pn:Int) == 1)=false:=(by rw [bF];omega);have HF:Hid (ctorNameOk c nm=false):=(by rw [Hid,HE.out];simp [g1]);go_wp2;go_ret;rw [HF.out];exact ⟨rfl,HB3.out⟩
  subst g1;by_cases g2:p=recB
  ·have dr:(p == [114,101,99])=true:=(by rw [beq_iff_eq];exact g2);have HF:Hid (ctorNameOk c nm=false):=(by rw [Hid,HE.out];simp [g2]);clear g2;go_wp2;go_ret;rw [HF.out];exact ⟨rfl,HB3.out⟩
  ·have dr:(p == [114,101,99])=false:=(by rw [bF];exact g2);have HF:Hid (ctorNameOk c nm=true):=(by rw [Hid,HE.out];simp [g2]);clear g2;go_wp2;go_ret;rw [HF.out];exact ⟨rfl,HB3.out⟩
 ·rw [Bool.not_eq_true] at hp;have HF:=Ld (ctorName_miss hp);have ht:Lib.trimPrefix c (nm ++ [46])=c:=(by unfold Lib.trimPrefix;rw [hp];rfl);rw [hp,ht] at f1;obtain ⟨x,hx⟩:=addPart nm c;have f2:=Ld fun W=>implNameAdd ⟨nm.toArray⟩ ⟨c.toArray⟩ W (by rw [size_sv];unfold maxLen;omega) (by rw [size_sv];unfold maxLen;omega);rw [hx] at f2;clear hx ht hp hc hnm hm;generalize (nameOk nm && (nameOk c && nameOk (nm ++ 46 :: c)))=b1 at f2;go_enter Tryz.func201,Tryz.ntmps201;go_wp2_with fail;(with_reducible refine mo (f1.out _) ?_);rintro w1 rfl;go_wp2_with fail;(with_reducible refine mo (f2.out _) fun w2 hb2=>?_);have HB2:=Ld hb2;clear hb2;go_wp2;go_ret;rw [HF.out];exact ⟨rfl,HB2.out⟩
end Go.Proofs.YtcaahdjhbmmcnaaGreatDoor
namespace Go.Proofs.YtcaahdjhbmmcnaaGreatDoor
open Go
noncomputable def dataP (d:Dc):Bool:=(nameOk d.name && nameOk (d.name ++ 46 :: recB)) && (decide (termKind d.type=[115]) && (decide (d.ctors.length<=6) && ctorsOk d.name d.params d.ctors d.ctors.length))
noncomputable def valueP (d:Dc):Bool:=if valueK d.kind=true then closedOf d.value d.params else decide (d.value=[])
noncomputable def declP (d:Dc):Bool:=knownK d.kind && (nameOk d.name && (decide (0<=d.params) && (decide (d.params<=mostK d.kind) && (decide (bits .andNot .i64 d.flags (flagsK d.kind)=0) && (closedOf d.type d.params && (valueP d && (if d.kind=4 then dataP d else decide (d.ctors.length=0))))))))
structure Dc.Rng (d:Dc):Prop where
 flags0:-9223372036854775808<=d.flags
 flags1:d.flags<=9223372036854775807
theorem declOk_prog {d:Dc} (h:d.Rng):declOk d=declP d:=by
 obtain ⟨k,nm,ps,fl,ty,vl,cs⟩:=d;obtain ⟨h1,h2⟩:=h;simp only at h1 h2;have e0:=flags_0 h1 h2;have e1:=flags_1 h1 h2;have e6:=flags_6 h1 h2;rw [Bool.eq_iff_iff];unfold declOk declKindOk declP valueP dataP dataOk;simp only;generalize nameOk nm=a;generalize closedOf ty ps=b;generalize closedOf vl ps=c;generalize nameOk (nm ++ 46 :: recB)=r;generalize ctorsOk nm ps cs cs.length=o;by_cases k1:k=1
 ·subst k1;have f1:knownK 1=true:=(by decide);have f2:valueK 1=false:=(by decide);have f3:mostK 1=3:=(by decide);have f4:flagsK 1=0:=(by decide);rw [f1,f2,f3,f4];simp only [if_true,Bool.and_eq_true,decide_eq_true_eq,e0,true_and,Bool.false_eq_true,if_false,show ((1:Int)=4)=False by simp];constructor
  ·rintro ⟨q1,⟨q2,q3⟩,⟨q4,q5⟩,q6,q7,q8,q9⟩;exact ⟨q1,q2,q3,q7,q6,q8,q9⟩
  ·rintro ⟨q1,q2,q3,q7,q6,q8,q9⟩;exact ⟨q1,⟨q2,q3⟩,⟨by omega,by omega⟩,q6,q7,q8,q9⟩
 by_cases k23:k=2\/k=3
 ·have f1:knownK k=true:=(by rcases k23 with rfl | rfl<;>decide);have f2:valueK k=true:=(by rcases k23 with rfl | rfl<;>decide);have f3:mostK k=3:=(by rcases k23 with rfl | rfl<;>decide);have f4:flagsK k=1:=(by rcases k23 with rfl | rfl<;>decide);have k4:¬ k=4:=(by omega);rw [f1,f2,f3,f4,iN k1,iP k23,iN k4];simp only [if_true,Bool.and_eq_true,decide_eq_true_eq,e1,true_and];constructor
  ·rintro ⟨q1,⟨q2,q3⟩,⟨q4,q5⟩,q6,q7,q8,q9⟩;exact ⟨q1,q2,q3,by omega,q6,q8,q9⟩
  ·rintro ⟨q1,q2,q3,q7,q6,q8,q9⟩;exact ⟨q1,⟨q2,q3⟩,⟨by omega,by omega⟩,q6,by omega,q8,q9⟩
 by_cases k4:k=4
 ·subst k4;have f1:knownK 4=true:=(by decide);have f2:valueK 4=false:=(by decide);have f3:mostK 4=2:=(by decide);have f4:flagsK 4=6:=(by decide);rw [f1,f2,f3,f4,iN k1,iN k23];simp only [if_true,Bool.and_eq_true,decide_eq_true_eq,e6,true_and,Bool.false_eq_true,if_false];constructor
  ·rintro ⟨q1,⟨q2,q3⟩,⟨q4,q5⟩,q6,q7,q8,q9,q10,q11,⟨q12,q13⟩,q14⟩;exact ⟨q1,q2,by omega,⟨q4,q5,q7⟩,q6,q8,⟨q12,q13⟩,q10,q11,q14⟩
  ·rintro ⟨q1,q2,q3,⟨q4,q5,q7⟩,q6,q8,⟨q12,q13⟩,q10,q11,q14⟩;exact ⟨q1,⟨q2,by omega⟩,⟨q4,q5⟩,q6,q7,q8,by omega,q10,q11,⟨q12,q13⟩,q14⟩
 ·have f1:knownK k=false:=by
   simp only [knownK,Bool.and_eq_false_iff,decide_eq_false_iff_not];omega
  rw [f1,iN k1,iN k23,iN k4];simp
end Go.Proofs.YtcaahdjhbmmcnaaGreatDoor
namespace Go.Proofs.YtcaahdjhbmmcnaaGreatDoor
open Go.ChangeShapes Go.WideShapes Go.ChangeAt Go.RowKit
theorem boxC (wr:World) (n t:List UInt8):∀ W,Below (wr.alloc (.cells #[.string ⟨n.toArray⟩,.string ⟨t.toArray⟩] 88)).heap.size (wr.alloc (.cells #[.string ⟨n.toArray⟩,.string ⟨t.toArray⟩] 88)) W->W.cell? ⟨wr.heap.size,0,none⟩=some (.string ⟨n.toArray⟩)/\W.cell? ⟨wr.heap.size,1,none⟩=some (.string ⟨t.toArray⟩):=by
 intro W hb;have h:=fun i=>hb.cell (p:=⟨wr.heap.size,i,none⟩) (by simp);have k:=World.news_of_block (cs:=#[.string ⟨n.toArray⟩,.string ⟨t.toArray⟩]) (t:=88) (fr:=(0,0)) (heap_alloc_new wr _);exact ⟨(h 0).trans (k 0 _ rfl),(h 1).trans (k 1 _ rfl)⟩
theorem implCtorsOk {w:World} {d:Dc} {b:Nat} {u:Value} (h:w.ownsRow b 88 2 u d.ctors.length (flatC d.ctors)) (hs:d.Small) (hnm:nameOk d.name=true) (hv:Vars w) (hm:MaxLenInt w) :
  Rt 159 #[d.val u] w (.bool (decide (d.ctors.length<=6) && ctorsOk d.name d.params d.ctors d.ctors.length)):=by
 obtain ⟨kd,nm,ps,fl,ty,vl,cs⟩:=d;obtain ⟨ua,uc,rfl⟩:=row_sliceD h;have hval:=dval kd nm ps fl ty vl cs (.slice ua cs.length uc);rw [hval];have s5:=hs.each;simp only at s5 h hnm |-;obtain ⟨i0,hi,hz0,hz1,hz2⟩:=info_parts infoStr;have HB0:=Ld (alloc_any w (dC kd nm ps fl ty vl (.slice ua cs.length uc) 52));have HX:=Ld (declBox (w:=w) (kd:=kd) (ps:=ps) (fl:=fl) (nm:=nm) (ty:=ty) (vl:=vl) (u:=.slice ua cs.length uc));have HROW:=Ld (own_below h HB0.out);have HV:=Ld (hv.below HB0.out);have HM:=Ld (hm.below HB0.out);have HI:=Ld fun (t:List UInt8) (W:World) (hW:Vars W) (ht:t.length<=maxLen)=>implIsClosed ⟨kd,nm,ps,fl,ty,vl,cs⟩ ua cs.length uc t W hW ht;simp only [hval] at HI;have hb0:=Ld (bR (w.alloc (dC kd nm ps fl ty vl (.slice ua cs.length uc) 52)).heap.size (w.alloc (dC kd nm ps fl ty vl (.slice ua cs.length uc) 52)));clear h hs hv hm hval;obtain ⟨c0,c1,c2,c3,c4,c5,c6⟩:=HX.out _ (bR _ _);by_cases k5:cs.length<=6;rotate_left
 ·have d5:decide ((6:Int) < (cs.length:Int))=true:=dT (by omega);have HF:Hid ((decide (cs.length<=6) && ctorsOk nm ps cs cs.length)=false):=(by simp [Hid,k5]);clear HX HROW HV HM HI hb0 s5 hnm;go_enter Tryz.func159,Tryz.ntmps159;go_wp2;go_ret;rw [HF.out];exact ⟨rfl,HB0.out⟩
 have d5:decide ((6:Int) < (cs.length:Int))=false:=dF (by omega);have HF:Hid ((decide (cs.length<=6) && ctorsOk nm ps cs cs.length)=ctorsOk nm ps cs cs.length):=by simp [Hid,k5]
 go_enter Tryz.func159,Tryz.ntmps159;go_wp2;generalize hWB:(w.alloc (dC kd nm ps fl ty vl (.slice ua cs.length uc) 52))=W0 at c0 c1 c2 c3 c4 c5 c6 |-;rw [hWB] at HX HROW HB0 HV HM hb0;clear hWB c0 c1 c2 c3 c4 c5 c6;go_loopw [3,13] (fun o i wr=>∃ (k:Nat) (oo:Value),k<=cs.length/\i=.int .i64 k/\oo=o/\Hid (wr.ownsRow W0.heap.size 9 1 oo k (((cs.take k).map fun c=>c.1).map sv))/\Hid (Below W0.heap.size W0 wr)/\Hid (ctorsOk nm ps cs k=true)) (fun _ i _=>cs.length - (intOf i).toNat)
 case atStart=>exact ⟨0,_,Nat.zero_le _,rfl,rfl,World.ownsRow_nil _ _ _ _,hb0.out,ctorsOk_zero _ _ _⟩
 case round =>
  obtain ⟨k,oo,hk,rfl,rfl,HO,HW,HC⟩:=hrel;clear hb0;by_cases hlt:k < cs.length
  ·have hrow:=own_below HROW.out HW.out;obtain ⟨g,cap',eg,_,hgl⟩:=hrow.form (by omega);cases eg;obtain ⟨fa,fb⟩:=flatC_at hlt;have x1:=(hrow.cellAt (k*2) (by omega)).trans fa;have y1:=(hrow.cellAt (k*2+1) (by omega)).trans fb;unfold sv at x1 y1;have q1:=zn k;have q2:(k:Int) < (cs.length:Int):=(by omega);clear fa fb hrow;have HBad:=Ld fun hb=>ctorsOk_bad (nm:=nm) (p:=ps) hlt hb;have HDup:=Ld fun (j:Nat) (hj:j < k) hb=>ctorsOk_dup (nm:=nm) (p:=ps) hlt hj hb;have HGood:=Ld fun h1 h2=>ctorsOk_succ hlt HC.out h1 h2;have HIn:=Ld fun n=>ctors_in (l:=cs) (k:=k) (by omega) n;have HT:Hid (((cs.take (k+1)).map fun c=>c.1).map sv=(((cs.take k).map fun c=>c.1).map sv) ++ [sv cs[k].1]):=by
    rw [Hid,List.take_succ_eq_append_getElem hlt,List.map_append,List.map_append];rfl
   have hel:=s5 cs[k] (List.getElem_mem hlt);have hlen:((cs.take k).map fun c=>c.1).length=k:=(by rw [List.length_map,List.length_take];omega);clear HC;generalize cs[k]=ck at x1 y1 HBad HDup HGood HT hel;obtain ⟨n,t⟩:=ck;simp only at x1 y1 hel HDup HGood HT HBad;obtain ⟨hl1,hl2⟩:=hel;have HCt:=Ld (ctorOk_name nm ps n t);have bwr:=alloc_any wr (.cells #[.string ⟨n.toArray⟩,.string ⟨t.toArray⟩] 88);have HWk:=bt HW.out bwr;have HBC:=Ld (boxC wr n t);have hbk:=bR (wr.alloc (.cells #[.string ⟨n.toArray⟩,.string ⟨t.toArray⟩] 88)).heap.size (wr.alloc (.cells #[.string ⟨n.toArray⟩,.string ⟨t.toArray⟩] 88));have f1:=Ld fun W (hW:MaxLenInt W)=>implIsCtorName n nm W hnm hl1 hW;have f1':=Ld (f1.out (wr.alloc (.cells #[.string ⟨n.toArray⟩,.string ⟨t.toArray⟩] 88)) (HM.out.below HWk.out));have f3:=Ld fun (W:World) (hW:Below W0.heap.size W0 W)=>HI.out t W (HV.out.below hW) (by unfold maxLen;omega);obtain ⟨m1,m2⟩:=HBC.out _ hbk;obtain ⟨e0,e1,e2,e3,e4,e5,e6⟩:=HX.out _ HWk.out;have HOw:=Ld (HO.out.alloc (.cells #[.string ⟨n.toArray⟩,.string ⟨t.toArray⟩] 88));generalize ctorNameOk n nm=b1 at f1' HCt;generalize closedOf t ps=b3 at f3 HCt;have HK:=Ld hbk;clear f1 hbk bwr HO;go_wp2_with fail;(with_reducible refine mo f1'.out fun w1 hb1=>?_);have HW1:=bt HWk.out hb1;have HK1:=Ld (HK.out.trans hb1);have HO2:=Ld (own_below HOw.out hb1);clear m1 m2 e0 e1 e2 e3 e4 e5 e6 hb1 f1';obtain ⟨m1,m2⟩:=HBC.out _ HK1.out;obtain ⟨e0,e1,e2,e3,e4,e5,e6⟩:=HX.out _ HW1.out;cases b1
   ·have HE:Hid (ctorsOk nm ps cs cs.length=false):=HBad.out (by rw [HCt.out];rfl);have HBF:=Ld (HB0.out.trans (HW1.out.mono HB0.out.size));go_wp2;go_ret;rw [HF.out,HE.out];exact ⟨rfl,HBF.out⟩
   have f2:=Ld (implNameIn (w:=w1) (b:=W0.heap.size) (v:=oo) (l:=(cs.take k).map fun c=>c.1) (by rw [hlen];exact HO2.out) n (by rw [hlen];omega));obtain ⟨b2,hb2⟩:∃ b2,inL ((cs.take k).map fun c=>c.1) n=b2:=⟨_,rfl⟩;rw [hb2] at f2;have HB2:=Ld hb2;clear hb2 hlen HOw;obtain ⟨oa,oc,rfl⟩:=row_sliceD HO2.out;have f3':=Ld (f3.out w1 HW1.out);clear f3;go_wp2_with fail;(with_reducible refine mo f2.out ?_);rintro w2 rfl;clear f2;cases b2;rotate_left
   ·have HE:Hid (ctorsOk nm ps cs cs.length=false):=by
     have h1:=HB2.out;simp only [inL,decide_eq_true_eq] at h1;obtain ⟨j,hj,hjl,e⟩:=(HIn.out n).1 h1;exact HDup.out j hj e
    have HBF:=Ld (HB0.out.trans (HW1.out.mono HB0.out.size));go_wp2;go_ret;rw [HF.out,HE.out];exact ⟨rfl,HBF.out⟩
   have HNo:Hid (∀ (j:Nat) (hj:j < k),cs[j].1≠n):=fun j hj e=>by
    have h1:=HB2.out;simp only [inL,decide_eq_false_iff_not] at h1;exact h1 ((HIn.out n).2 ⟨j,hj,by omega,e⟩)
   clear HB2 HIn HDup;go_wp2_with fail;(with_reducible refine mo f3'.out fun w3 hb3=>?_);have HW3:=bt HW1.out hb3;have HK3:=bt HK1.out hb3;have HO3:=Ld (own_below HO2.out hb3);clear m1 m2 e0 e1 e2 e3 e4 e5 e6 hb3 f3' HO2 HK1;obtain ⟨m1,m2⟩:=HBC.out _ HK3.out;have hz:=HW3.out.size;cases b3
   ·have HE:Hid (ctorsOk nm ps cs cs.length=false):=HBad.out (by rw [HCt.out];rfl);have HBF:=Ld (HB0.out.trans (HW3.out.mono HB0.out.size));go_wp2;go_ret;rw [HF.out,HE.out];exact ⟨rfl,HBF.out⟩
   have HC2:Hid (ctorsOk nm ps cs (k+1)=true):=HGood.out (by rw [HCt.out];rfl) HNo.out;clear HBad HGood HNo HCt HBC HK HK3 HW1 HWk;go_wp2_with (at_builtin;refine wpList_append_own _ rfl _ _ 31 rfl W0.heap.size 9 i0 _ 1 16 Tryz.underlying31 hi hz0 hz1 hz2 rfl (by decide) _ _ _ rfl (HO3.out.alloc _) ⟨w3.heap.size,0,none⟩ 1 1 [.string ⟨n.toArray⟩] rfl rfl (oneNew _ _ _) (by simp [Value.oneCell']) (by simp only [maxLen];omega) (by omega) (by simp;omega) ?_;intro v2 w4 hown2 hgrow hnil2);have HO4:Hid (w4.ownsRow W0.heap.size 9 1 v2 (k+1) (((cs.take (k+1)).map fun c=>c.1).map sv)):=by
    rw [Hid,HT.out];exact hown2
   have HW4:Hid (Below W0.heap.size W0 w4):=(HW3.out.alloc hz _).grown hgrow (by simp;omega) (fun q hq=>(HO3.out.lt q hq).1);clear hown2 hgrow;go_wp2;go_roundw
   case rel=>exact ⟨k+1,_,by omega,by go_num,rfl,HO4.out,HW4.out,HC2.out⟩
   case measure=>simp [intOf];omega
  ·obtain rfl:k=cs.length:=(by omega);have HBF:=Ld (HB0.out.trans (HW.out.mono HB0.out.size));go_wp2;go_ret;rw [HF.out,HC.out];exact ⟨rfl,HBF.out⟩
theorem implDataOk {w:World} {d:Dc} {b:Nat} {u:Value} (h:w.ownsRow b 88 2 u d.ctors.length (flatC d.ctors)) (hs:d.Small) (hnm:nameOk d.name=true) (hv:Vars w) (hm:MaxLenInt w) :
  Rt 113 #[d.val u] w (.bool (dataP d)):=by
 have HCO:=Ld fun (W:World) (hW:Below w.heap.size w W)=>implCtorsOk (own_below h hW) hs hnm (hv.below hW) (hm.below hW);obtain ⟨kd,nm,ps,fl,ty,vl,cs⟩:=d;obtain ⟨ua,uc,rfl⟩:=row_sliceD h;have hval:=dval kd nm ps fl ty vl cs (.slice ua cs.length uc);simp only [hval] at HCO |-;have s1:=hs.name;have s2:=hs.type;simp only at s1 s2 hnm;have HE:Hid (dataP ⟨kd,nm,ps,fl,ty,vl,cs⟩=((nameOk nm && nameOk (nm ++ 46 :: recB)) && (decide (termKind ty=[115]) && (decide (cs.length<=6) && ctorsOk nm ps cs cs.length)))):=rfl;obtain ⟨x,hx⟩:=addRec nm;have HB0:=Ld (alloc_any w (dC kd nm ps fl ty vl (.slice ua cs.length uc) 52));have HX:=Ld (declBox (w:=w) (kd:=kd) (ps:=ps) (fl:=fl) (nm:=nm) (ty:=ty) (vl:=vl) (u:=.slice ua cs.length uc));have f1:=Ld fun W=>implNameAdd ⟨nm.toArray⟩ ⟨#[114,101,99]⟩ W (by rw [size_sv];unfold maxLen;omega) (by decide);rw [hx] at f1;have f2:=Ld fun (W:World) (hW:Below w.heap.size w W)=>implTermKind ⟨ty.toArray⟩ W (hv.below hW) (by rw [size_sv];omega);simp only at f2;generalize (nameOk nm && nameOk (nm ++ 46 :: recB))=rc at f1 HE;generalize (decide (cs.length<=6) && ctorsOk nm ps cs cs.length)=co at HCO HE;generalize termKind ty=tk at f2 HE;obtain ⟨c0,c1,c2,c3,c4,c5,c6⟩:=HX.out _ (bR _ _);clear h hx hv hm hs hnm hval;go_enter Tryz.func113,Tryz.ntmps113;go_wp2_with fail;(with_reducible refine mo (f1.out _) fun w1 hb1=>?_);have HBX1:=Ld hb1;have HB1:=bt HB0.out hb1;clear hb1 f1 c0 c1 c2 c3 c4 c5 c6;obtain ⟨c0,c1,c2,c3,c4,c5,c6⟩:=HX.out _ HBX1.out;cases rc
 ·have HF:Hid (dataP ⟨kd,nm,ps,fl,ty,vl,cs⟩=false):=(by rw [Hid,HE.out];rfl);clear HCO f2;go_wp2;go_ret;rw [HF.out];exact ⟨rfl,HB1.out⟩
 have f3:=Ld (f2.out _ HB1.out);clear f2;go_wp2_with fail;(with_reducible refine mo f3.out fun w2 hb2=>?_);have HBX2:=bt HBX1.out hb2;have HB2:=bt HB1.out hb2;clear hb2 f3 c0 c1 c2 c3 c4 c5 c6;obtain ⟨c0,c1,c2,c3,c4,c5,c6⟩:=HX.out _ HBX2.out;by_cases k4:tk=[115];rotate_left
 ·have d4:(tk == [115])=false:=(by rw [bF];exact k4);have HF:Hid (dataP ⟨kd,nm,ps,fl,ty,vl,cs⟩=false):=(by rw [Hid,HE.out];simp [k4]);clear HCO;go_wp2;go_ret;rw [HF.out];exact ⟨rfl,HB2.out⟩
 have d4:(tk == [115])=true:=by rw [beq_iff_eq];exact k4
 have HF:Hid (dataP ⟨kd,nm,ps,fl,ty,vl,cs⟩=co):=by rw [Hid,HE.out];simp [k4]
 have f4:=Ld (HCO.out _ HB2.out);clear HCO k4;go_wp2_with fail;(with_reducible refine mo f4.out fun w3 hb3=>?_);have HB3:=bt HB2.out hb3;clear hb3 f4;go_wp2;go_ret;rw [HF.out];exact ⟨rfl,HB3.out⟩
end Go.Proofs.YtcaahdjhbmmcnaaGreatDoor
