/- JI7 KI4 JI6 TIHv -/
import Derived.Test.YtgppcegcpiaocaaGreatDoorNP6
import Derived.Test.YtgppcegcpiaocaaGreatDoorNUI
import Derived.Test.YtgppcegcpiaocaaGreatDoorNE1
import Derived.Test.YtgppcegcpiaocaaGreatDoorNP3
import Derived.Test.YtgppcegcpiaocaaGreatDoorNP8
import Derived.Test.YtgppcegcpiaocaaGreatDoorNQ1
import Derived.Test.YtgppcegcpiaocaaGreatDoorNQB
import Derived.Test.YtgppcegcpiaocaaGreatDoorNQ2
set_option maxRecDepth 100000
set_option maxHeartbeats 16000000
set_option linter.unusedSimpArgs false
set_option linter.unusedVariables false
namespace Go.Proofs.YtgppcegcpiaocaaGreatDoor
open Go.ChangeShapes Go.WideShapes Go.ChangeAt Go.RowKit
theorem yR3{d:Dc}(h:xQ d=true):∃ l,qQ d.type (.sort l)/\eG d.type=l:=by
 rw[xQ,Bool.and_eq_true,decide_eq_true_eq] at h;have h2:=h.2;simp only[zJ,zQ,Bool.and_eq_true] at h2;have h1:=h2.2.2.2.2;rw[h.1,iN (by decide),iN (by decide),iP rfl] at h1;simp only[xV,Bool.and_eq_true,decide_eq_true_eq] at h1;have hk:xA d.type=[115]:=h1.2.2.2.1;unfold xA yF at hk;cases ht:vN d.type with
|none=>rw[ht] at hk;simp at hk
|some t =>
  have hi:=vS ht;rw[ht] at hk;rw[iP (show (some t).isSome=true from rfl)] at hk;rw[← hi.2.1] at hk;cases t with
 |sort l =>
   refine⟨l,hi,?_⟩;rw[← hi.2.1];unfold eG;simp[Tm.bytes]
 |var n=>simp[Tm.bytes] at hk
 |const n ls=>simp[Tm.bytes] at hk
 |app a b=>simp[Tm.bytes] at hk
 |lam a b=>simp[Tm.bytes] at hk
 |pi a b=>simp[Tm.bytes] at hk
 |lett a b c=>simp[Tm.bytes] at hk
theorem zS4{s l:List UInt8}(h:qQ s (.sort l))(w:World)(hv:Vars w)(hs:s.length<=maxLen) :
  Rt 130 #[.string ⟨s.toArray⟩] w (.string ⟨l.toArray⟩):=by
 have f1:=Ld (yX ⟨s.toArray⟩ w hv (by rw[yB];exact hs));unfold dM at f1;simp only at f1;have HT:=Ld h;clear h hv hs;go_enter Tryz.func130,Tryz.ntmps130;go_wp2_with fail;(with_reducible refine f1.out.mono ?_);rintro e w1 ⟨hb,⟨t,v,ht,rfl,hr⟩|⟨hno,rfl⟩⟩;rotate_left
 ·exact absurd HT.out (hno _)
 obtain rfl:=ht.uniq HT.out;obtain⟨g,rfl,hg⟩:=hr;have c0:w1.cell? ⟨g,0,none⟩=some (.string ⟨l.toArray⟩):=by rw[Lib.cell_of_heap hg];rfl
 have tS:=(gW 98 (.pointer (some ⟨g,0,none⟩)) w1).trans (by rw[iP rfl]);have HB:=Ld hb;clear hb hg ht HT f1;go_wp2;go_ret;exact⟨rfl,HB.out⟩
theorem eN{w:World}{d:Dc}{b:Nat}{u:Value}(h:w.ownsRow b 75 2 u d.ctors.length (xM d.ctors))(hs:d.Small)(hr:d.Rng)(hv:Vars w)(hm:MaxLenInt w) :
  Rt 93 #[d.val u] w (.bool (uC d)):=by
 have FD:=Ld fun (W:World) (hW:Below w.heap.size w W)=>rF (zA h hW) hs hr (hv.below hW) (hm.below hW);have HV:=Ld hv;have s2:=hs.type;have HS:=Ld fun h=>yR3 (d:=d) h;have hid:(decide (d.kind=4)&&zJ d)=xQ d:=rfl;rw[hid] at FD;have HE:Hid (uC d=(xQ d&&xF [43,122] (eG d.type))):=rfl;clear hid;obtain⟨kd,nm,ps,fl,ty,vl,cs⟩:=d;obtain⟨ua,uc,rfl⟩:=zK h;have hval:=gG kd nm ps fl ty vl cs (.slice ua cs.length uc);rw[hval] at FD |-;simp only at s2 HS HE;obtain⟨W0,hW0⟩:∃ W0,w.alloc (dC kd nm ps fl ty vl (.slice ua cs.length uc) 37)=W0:=⟨_,rfl⟩;have HX:Hid (∀ W,Below W0.heap.size W0 W->W.cell? ⟨w.heap.size,0,none⟩=some (.int .i64 kd)/\W.cell? ⟨w.heap.size,1,none⟩=some (.string ⟨nm.toArray⟩)/\W.cell? ⟨w.heap.size,2,none⟩=some (.int .i64 ps)/\W.cell? ⟨w.heap.size,3,none⟩=some (.int .i64 fl)/\W.cell? ⟨w.heap.size,4,none⟩=some (.string ⟨ty.toArray⟩)/\W.cell? ⟨w.heap.size,5,none⟩=some (.string ⟨vl.toArray⟩)/\W.cell? ⟨w.heap.size,6,none⟩=some (.slice ua cs.length uc)):=by
  rw[Hid,← hW0];exact xG
 have HB0:Hid (Below w.heap.size w W0):=by rw[Hid,← hW0];exact zE _ _
 obtain⟨c0,c1,c2,c3,c4,c5,c6⟩:=HX.out _ (bR _ _);have f1:=Ld (FD.out _ HB0.out);clear h hval hs hr hv hm FD;generalize xQ ⟨kd,nm,ps,fl,ty,vl,cs⟩=b1 at f1 HS HE;generalize uC ⟨kd,nm,ps,fl,ty,vl,cs⟩=r at HE |-;go_enter Tryz.func93,Tryz.ntmps93;go_wp2_with fail;(with_reducible refine mo f1.out fun w1 hb=>?_);have HB1:=bt HB0.out hb;clear c0 c1 c2 c3 c4 c5 c6;obtain⟨c0,c1,c2,c3,c4,c5,c6⟩:=HX.out _ hb;clear hb f1 hW0;cases b1
 ·have HF:Hid (r=false):=(by rw[Hid,HE.out,Bool.false_and]);clear HX HS HE;go_wp2;go_ret;rw[HF.out];exact⟨rfl,HB1.out⟩
 obtain⟨l,ht,hl⟩:=HS.out rfl;have HF:Hid (r=xF [43,122] l):=by rw[Hid,HE.out,Bool.true_and,hl]
 have hll:l.length<=2000:=by
  have h1:=ht.2.2;rw[← ht.2.1] at h1;simp[Tm.bytes] at h1;omega
 have f2:=Ld (zS4 ht w1 (HV.out.below HB1.out) (by unfold maxLen;omega));have F3:=Ld fun W=>cC ⟨l.toArray⟩ W (by rw[yB];unfold maxLen;omega);simp only at F3;generalize xF [43,122] l=z at F3 HF;clear HX HS HE ht hl;go_wp2_with fail;(with_reducible refine mo f2.out fun w2 hb2=>?_);have HB2:=bt HB1.out hb2;clear hb2 f2;go_wp2_with fail;(with_reducible refine mo (F3.out _) fun w3 hb3=>?_);have HB3:=bt HB2.out hb3;clear hb3 F3;go_wp2;go_ret;rw[HF.out];exact⟨rfl,HB3.out⟩
theorem zB2{w:World}{d:Dc}{b:Nat}{u:Value}(h:w.ownsRow b 75 2 u d.ctors.length (xM d.ctors))(hs:d.Small)(hr:d.Rng)(hv:Vars w)(hm:MaxLenInt w) :
  Rt 53 #[d.val u] w (.int .i64 (yU d)):=by
 have FD:=Ld fun (W:World) (hW:Below w.heap.size w W)=>rF (zA h hW) hs hr (hv.below hW) (hm.below hW);have FL:=Ld fun (W:World) (hW:Below w.heap.size w W)=>eN (zA h hW) hs hr (hv.below hW) (hm.below hW);have HV:=Ld hv;have hid:(decide (d.kind=4)&&zJ d)=xQ d:=rfl;rw[hid] at FD;have HE:Hid (yU d=if xQ d=true then (if uC d=true then d.params+1 else d.params) else 0):=rfl;have HP:Hid (xQ d=true->0<=d.params/\d.params<=3):=fun h=>vD (by rw[← hid,Bool.and_eq_true] at h;exact h.2);clear hid;obtain⟨kd,nm,ps,fl,ty,vl,cs⟩:=d;obtain⟨ua,uc,rfl⟩:=zK h;have hval:=gG kd nm ps fl ty vl cs (.slice ua cs.length uc);rw[hval] at FD FL |-;simp only at HE HP;obtain⟨W0,hW0⟩:∃ W0,w.alloc (dC kd nm ps fl ty vl (.slice ua cs.length uc) 37)=W0:=⟨_,rfl⟩;have HX:Hid (∀ W,Below W0.heap.size W0 W->W.cell? ⟨w.heap.size,0,none⟩=some (.int .i64 kd)/\W.cell? ⟨w.heap.size,1,none⟩=some (.string ⟨nm.toArray⟩)/\W.cell? ⟨w.heap.size,2,none⟩=some (.int .i64 ps)/\W.cell? ⟨w.heap.size,3,none⟩=some (.int .i64 fl)/\W.cell? ⟨w.heap.size,4,none⟩=some (.string ⟨ty.toArray⟩)/\W.cell? ⟨w.heap.size,5,none⟩=some (.string ⟨vl.toArray⟩)/\W.cell? ⟨w.heap.size,6,none⟩=some (.slice ua cs.length uc)):=by
  rw[Hid,← hW0];exact xG
 have HB0:Hid (Below w.heap.size w W0):=by rw[Hid,← hW0];exact zE _ _
 obtain⟨c0,c1,c2,c3,c4,c5,c6⟩:=HX.out _ (bR _ _);have f1:=Ld (FD.out _ HB0.out);clear h hval hs hr hv hm FD;generalize xQ ⟨kd,nm,ps,fl,ty,vl,cs⟩=b1 at f1 HE HP;generalize uC ⟨kd,nm,ps,fl,ty,vl,cs⟩=b2 at FL HE;generalize yU ⟨kd,nm,ps,fl,ty,vl,cs⟩=r at HE |-;go_enter Tryz.func53,Tryz.ntmps53;go_wp2_with fail;(with_reducible refine mo f1.out fun w1 hb=>?_);have HK1:=Ld hb;have HB1:=bt HB0.out hb;clear c0 c1 c2 c3 c4 c5 c6;obtain⟨c0,c1,c2,c3,c4,c5,c6⟩:=HX.out _ hb;clear hb f1 hW0;cases b1
 ·have HF:Hid (r=0):=(by rw[Hid,HE.out];rfl);clear FL HX HE HP;go_wp2;go_ret;rw[HF.out];exact⟨rfl,HB1.out⟩
 obtain⟨p0,p3⟩:=HP.out rfl;obtain⟨n,rfl⟩:∃ n:Nat,ps=(n:Int):=⟨ps.toNat,by omega⟩;have f2:=Ld (FL.out _ HB1.out);clear HP FL;go_wp2_with fail;(with_reducible refine mo f2.out fun w2 hb2=>?_);have hk2:=HK1.out.trans (hb2.mono HK1.out.size);have HB2:=bt HB1.out hb2;clear c0 c1 c2 c3 c4 c5 c6;obtain⟨c0,c1,c2,c3,c4,c5,c6⟩:=HX.out _ hk2;have HK2:=Ld hk2;clear hb2 hk2 f2 HK1;cases b2
 ·have HF:Hid (r=(n:Int)):=(by rw[Hid,HE.out];rfl);go_wp2;go_ret;rw[HF.out];exact⟨rfl,HB2.out⟩
 ·have HF:Hid (r=(n:Int)+1):=(by rw[Hid,HE.out];rfl);have hw:IntKind.i64.wrap ((n:Int)+1)=(n:Int)+1:=IntWalk.i64_in _ (by omega);go_wp2;go_ret;rw[HF.out];exact⟨rfl,HB2.out⟩
theorem cA{w:World}{d:Dc}{b:Nat}{u:Value}(h:w.ownsRow b 75 2 u d.ctors.length (xM d.ctors))(hs:d.Small)(hr:d.Rng)(hv:Vars w)(hm:MaxLenInt w) :
  Rt 107 #[d.val u] w (.string ⟨(yM d).toArray⟩):=by
 have FD:=Ld fun (W:World) (hW:Below w.heap.size w W)=>rF (zA h hW) hs hr (hv.below hW) (hm.below hW);have FL:=Ld fun (W:World) (hW:Below w.heap.size w W)=>eN (zA h hW) hs hr (hv.below hW) (hm.below hW);have HV:=Ld hv;have hid:(decide (d.kind=4)&&zJ d)=xQ d:=rfl;rw[hid] at FD;have HE:Hid (yM d=if xQ d=true then (if uC d=true then 115::117::(Lib.itoa d.params++[46]) else [115,122,46]) else []):=rfl;have HP:Hid (xQ d=true->0<=d.params/\d.params<=3):=fun h=>vD (by rw[← hid,Bool.and_eq_true] at h;exact h.2);clear hid;obtain⟨kd,nm,ps,fl,ty,vl,cs⟩:=d;obtain⟨ua,uc,rfl⟩:=zK h;have hval:=gG kd nm ps fl ty vl cs (.slice ua cs.length uc);rw[hval] at FD FL |-;simp only at HE HP;obtain⟨W0,hW0⟩:∃ W0,w.alloc (dC kd nm ps fl ty vl (.slice ua cs.length uc) 37)=W0:=⟨_,rfl⟩;have HX:Hid (∀ W,Below W0.heap.size W0 W->W.cell? ⟨w.heap.size,0,none⟩=some (.int .i64 kd)/\W.cell? ⟨w.heap.size,1,none⟩=some (.string ⟨nm.toArray⟩)/\W.cell? ⟨w.heap.size,2,none⟩=some (.int .i64 ps)/\W.cell? ⟨w.heap.size,3,none⟩=some (.int .i64 fl)/\W.cell? ⟨w.heap.size,4,none⟩=some (.string ⟨ty.toArray⟩)/\W.cell? ⟨w.heap.size,5,none⟩=some (.string ⟨vl.toArray⟩)/\W.cell? ⟨w.heap.size,6,none⟩=some (.slice ua cs.length uc)):=by
  rw[Hid,← hW0];exact xG
 have HB0:Hid (Below w.heap.size w W0):=by rw[Hid,← hW0];exact zE _ _
 obtain⟨c0,c1,c2,c3,c4,c5,c6⟩:=HX.out _ (bR _ _);have f1:=Ld (FD.out _ HB0.out);clear h hval hs hr hv hm FD;generalize xQ ⟨kd,nm,ps,fl,ty,vl,cs⟩=b1 at f1 HE HP;generalize uC ⟨kd,nm,ps,fl,ty,vl,cs⟩=b2 at FL HE;generalize yM ⟨kd,nm,ps,fl,ty,vl,cs⟩=r at HE |-;go_enter Tryz.func107,Tryz.ntmps107;go_wp2_with fail;(with_reducible refine mo f1.out fun w1 hb=>?_);have HK1:=Ld hb;have HB1:=bt HB0.out hb;clear c0 c1 c2 c3 c4 c5 c6;obtain⟨c0,c1,c2,c3,c4,c5,c6⟩:=HX.out _ hb;clear hb f1 hW0;cases b1
 ·have HF:Hid (r=[]):=(by rw[Hid,HE.out];rfl);clear FL HX HE HP;go_wp2;go_ret;rw[HF.out];exact⟨rfl,HB1.out⟩
 obtain⟨p0,p3⟩:=HP.out rfl;obtain⟨n,rfl⟩:∃ n:Nat,ps=(n:Int):=⟨ps.toNat,by omega⟩;have f2:=Ld (FL.out _ HB1.out);clear HP FL;go_wp2_with fail;(with_reducible refine mo f2.out fun w2 hb2=>?_);have hk2:=HK1.out.trans (hb2.mono HK1.out.size);have HB2:=bt HB1.out hb2;clear c0 c1 c2 c3 c4 c5 c6;obtain⟨c0,c1,c2,c3,c4,c5,c6⟩:=HX.out _ hk2;have HK2:=Ld hk2;clear hb2 hk2 f2 HK1;cases b2
 ·have HF:Hid (r=[115,122,46]):=(by rw[Hid,HE.out];rfl);have hr2:yK (w2.alloc (.cells #[.string ⟨([122]:List UInt8).toArray⟩] 100)) (.sort ([122]:List UInt8)) (.iface 98 (.pointer (some ⟨w2.heap.size,0,none⟩))):=⟨_,rfl,heap_alloc_new _ _⟩;have ba2:=zE w2 (.cells #[.string ⟨([122]:List UInt8).toArray⟩] 100);have f5:=Ld (pY (HV.out.below (bu HB2.out ba2)) (t:=.sort ([122]:List UInt8)) trivial hr2 (by simp[Tm.bytes]));have HBA:=bt HB2.out ba2;clear hr2 ba2;go_wp2_with fail;(with_reducible refine mo f5.out fun w5 hb5=>?_);have HB5:=bt HBA.out hb5;clear hb5 f5;go_wp2;go_ret;rw[HF.out];exact⟨rfl,HB5.out⟩
 ·have HF:Hid (r=(Tm.sort (117::Lib.decDigits n)).bytes):=by
   rw[Hid,HE.out];show 115::117::(Lib.itoa ((n:Nat):Int)++[46])=_;rw[Lib.itoa_nonneg];rfl
  have hdk:(Lib.decDigits n).length<=21:=(by rw[Lib.decDigits_one (by omega)];simp);have f3:=Ld (mG (n:=n) w2 (by omega) (HV.out.below HB2.out));generalize Lib.decDigits n=dg at f3 HF hdk;go_wp2_with fail;(with_reducible refine mo f3.out fun w3 hb3=>?_);have HB3:=bt HB2.out hb3;clear hb3 f3 c0 c1 c2 c3 c4 c5 c6;have hr3:yK (w3.alloc (.cells #[.string ⟨(117::dg).toArray⟩] 100)) (.sort (117::dg)) (.iface 98 (.pointer (some ⟨w3.heap.size,0,none⟩))):=⟨_,rfl,heap_alloc_new _ _⟩;have ba3:=zE w3 (.cells #[.string ⟨(117::dg).toArray⟩] 100);have f5:=Ld (pY (HV.out.below (bu HB3.out ba3)) (t:=.sort (117::dg)) trivial hr3 (by simp[Tm.bytes];omega));have HBA:=bt HB3.out ba3;clear hr3 ba3;go_wp2_with fail;(with_reducible refine mo f5.out fun w5 hb5=>?_);have HB5:=bt HBA.out hb5;clear hb5 f5;go_wp2;go_ret;rw[HF.out];exact⟨rfl,HB5.out⟩
theorem zE7{w:World}{b:Nat}{v:Value}{l:List Int}(h:w.ownsRow b 3 1 v l.length (l.map iv))(x:Int)(hn:l.length<=10000000) :
  Calls Tryz.prog 164 #[v,.int .i64 x] w fun e w'=>(∃ r:Int,e=.returned (.int .i64 r)/\(0<=r↔x∈l))/\w'=w:=by
 obtain⟨a0,cap,rfl⟩:=jB h;have HL:=Ld h;clear h;go_enter Tryz.func164,Tryz.ntmps164;go_wp2;go_loopw [8] (fun i wr=>∃ k:Nat,k<=l.length/\i=.int .i64 k/\wr=w/\Hid (∀ j (hj:j<l.length),j<k->l[j]≠x)) (fun i _=>l.length - (intOf i).toNat)
 case atStart=>exact⟨0,Nat.zero_le _,rfl,rfl,fun j _ hj=>by omega⟩
 case round =>
  obtain⟨k,hk,rfl,rfl,HN⟩:=hrel;by_cases hlt:k<l.length
  ·obtain⟨g,cap',e0,_,hgl⟩:=HL.out.form (by omega);cases e0;have ex:(l.map iv)[k]?=some (iv l[k]):=(by simp[hlt]);have cc:=(HL.out.cellAt k (by omega)).trans ex;unfold iv at cc;have q1:=zn k;have q2:(k:Int)<(l.length:Int):=(by omega);have HM:=Ld (List.getElem_mem hlt);by_cases hx:l[k]=x
   ·have HE:Hid ((0:Int)<=(k:Int)↔x∈l):=⟨fun _=>by rw[← hx];exact HM.out,fun _=>q1⟩;have d1:(x==l[k])=true:=(by rw[beq_iff_eq];exact hx.symm);clear ex HN hx HL;generalize l[k]=y at cc d1 HM;go_wp2;go_ret;exact⟨⟨_,rfl,HE.out⟩,rfl⟩
   ·have HN2:Hid (∀ j (hj:j<l.length),j<k+1->l[j]≠x):=fun j hj hjk=>if e:j=k then by subst e;exact hx else HN.out j hj (by omega)
    have d1:(x==l[k])=false:=(by rw[bF];exact fun e=>hx e.symm);clear ex HN hx HL;generalize l[k]=y at cc d1 HM;go_wp2;go_roundw
    case rel=>exact⟨k+1,by omega,by go_num,trivial,HN2.out⟩
    case measure=>simp[intOf];omega
  ·have HE:Hid ((0:Int)<=-1↔x∈l):=by
    refine⟨fun h=>absurd h (by decide),fun h=>?_⟩;obtain⟨j,hj,e⟩:=List.getElem_of_mem h;exact absurd e (HN.out j hj (by omega))
   clear HN HL;go_wp2;go_ret;exact⟨⟨_,rfl,HE.out⟩,rfl⟩
theorem fF{w:World}{b:Nat}{v:Value}{l:List Int}(h:w.ownsRow b 3 1 v l.length (l.map iv))(x:Int)(hn:l.length<=10000000) :
  Calls Tryz.prog 144 #[v,.int .i64 x] w fun e w'=>e=.returned (.bool (decide (x∈l)))/\w'=w:=by
 have f1:=Ld (zE7 h x hn);obtain⟨a0,cap,rfl⟩:=jB h;clear h hn;go_enter Tryz.func144,Tryz.ntmps144;go_wp2_with fail;(with_reducible refine f1.out.mono ?_);rintro e w1 ⟨⟨r,rfl,hr⟩,rfl⟩;have HE:Hid (decide ((0:Int)<=r)=decide (x∈l)):=decide_eq_decide.2 hr;obtain⟨z,hz⟩:∃ z,decide ((0:Int)<=r)=z:=⟨_,rfl⟩;rw[hz] at HE;clear hr f1;go_wp2;go_ret;rw[← HE.out];exact⟨rfl,rfl⟩
theorem eK(n:Int)(W:World)(hv:Vars W) :
  Rt 110 #[.int .i64 n] W (.string ⟨(vH n).toArray⟩):=by
 by_cases h:0<=n/\n<=999
 ·obtain⟨u,rfl⟩:∃ u:Nat,n=(u:Int):=⟨n.toNat,by omega⟩;have HE:Hid (vH (u:Int)=(Tm.var u).bytes):=(by rw[Hid,vH,iP h];rfl);have hok:(Tm.var u).Lim 9999:=(by show u<=9999;omega);have hle:(Tm.var u).bytes.length<=100000000:=by
   have:=tY (u:=u) (by omega);simp only[Tm.bytes,lC,lA,List.length_nil];omega
  have hb0:=Below.alloc (bR W.heap.size W) (nR _) (.cells #[.int .i64 (u:Int)] 85);have f1:=Ld (pY (hv.below hb0) (t:=.var u) (v:=.iface 83 (.pointer (some ⟨W.heap.size,0,none⟩))) hok ⟨_,rfl,heap_alloc_new _ _⟩ hle);have HB0:=Ld hb0;have d1:decide ((999:Int)<(u:Int))=false:=dF (by omega);have d2:decide ((u:Int)<0)=false:=dF (by omega);generalize (Tm.var u).bytes=tb at f1 HE;clear h hok hle hv hb0;go_enter Tryz.func110,Tryz.ntmps110;go_wp2_with fail;(with_reducible refine mo f1.out fun w1 hb=>?_);have HB:=bt HB0.out hb;clear hb;go_wp2;go_ret;rw[HE.out];exact⟨rfl,HB.out⟩
 ·have HE:Hid (vH n=[]):=(by rw[Hid,vH,iN h]);clear hv;by_cases h0:n<0
  ·have d1:decide (n<0)=true:=dT h0;clear h;go_enter Tryz.func110,Tryz.ntmps110;go_wp2;go_ret;rw[HE.out];exact⟨rfl,bR _ _⟩
  ·have d1:decide (n<0)=false:=dF h0;have d2:decide ((999:Int)<n)=true:=dT (by omega);clear h;go_enter Tryz.func110,Tryz.ntmps110;go_wp2;go_ret;rw[HE.out];exact⟨rfl,bR _ _⟩
end Go.Proofs.YtgppcegcpiaocaaGreatDoor
