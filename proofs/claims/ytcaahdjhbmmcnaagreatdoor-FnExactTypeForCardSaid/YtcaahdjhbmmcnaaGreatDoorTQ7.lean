/- JI7 JI6 -/
import Derived.Test.YtcaahdjhbmmcnaaGreatDoorTP6
import Derived.Test.YtcaahdjhbmmcnaaGreatDoorTUI
import Derived.Test.YtcaahdjhbmmcnaaGreatDoorTE1
import Derived.Test.YtcaahdjhbmmcnaaGreatDoorTP3
import Derived.Test.YtcaahdjhbmmcnaaGreatDoorTQ2
import Derived.Test.YtcaahdjhbmmcnaaGreatDoorTP8
set_option maxRecDepth 100000
set_option maxHeartbeats 16000000
set_option linter.unusedSimpArgs false
set_option linter.unusedVariables false
namespace Go.Proofs.YtcaahdjhbmmcnaaGreatDoor
open Go.ChangeShapes Go.WideShapes Go.ChangeAt Go.RowKit
theorem yJ8{d:Dc}(h:xD d=true):∃ l,qC d.type (.sort l)/\vT d.type=l:=by
 rw[xD,Bool.and_eq_true,decide_eq_true_eq] at h;have h2:=h.2;simp only[zT,vH,Bool.and_eq_true] at h2;have h1:=h2.2.2.2.2;rw[h.1,iN (by decide),iN (by decide),iP rfl] at h1;simp only[vI,Bool.and_eq_true,decide_eq_true_eq] at h1;have hk:xC d.type=[115]:=h1.2.2.2.1;unfold xC yB at hk;cases ht:vQ d.type with
|none=>rw[ht] at hk;simp at hk
|some t =>
  have hi:=vF ht;rw[ht] at hk;rw[iP (show (some t).isSome=true from rfl)] at hk;rw[← hi.2.1] at hk;cases t with
 |sort l =>
   refine⟨l,hi,?_⟩;rw[← hi.2.1];unfold vT;simp[Tm.bytes]
 |var n=>simp[Tm.bytes] at hk
 |const n ls=>simp[Tm.bytes] at hk
 |app a b=>simp[Tm.bytes] at hk
 |lam a b=>simp[Tm.bytes] at hk
 |pi a b=>simp[Tm.bytes] at hk
 |lett a b c=>simp[Tm.bytes] at hk
theorem zN4{s l:List UInt8}(h:qC s (.sort l))(w:World)(hv:Vars w)(hs:s.length<=maxLen) :
  Rt 162 #[.string ⟨s.toArray⟩] w (.string ⟨l.toArray⟩):=by
 have f1:=Ld (xH ⟨s.toArray⟩ w hv (by rw[zO];exact hs));unfold fB at f1;simp only at f1;have HT:=Ld h;clear h hv hs;go_enter Tryz.func162,Tryz.ntmps162;go_wp2_with fail;(with_reducible refine f1.out.mono ?_);rintro e w1 ⟨hb,⟨t,v,ht,rfl,hr⟩|⟨hno,rfl⟩⟩;rotate_left
 ·exact absurd HT.out (hno _)
 obtain rfl:=ht.uniq HT.out;obtain⟨g,rfl,hg⟩:=hr;have c0:w1.cell? ⟨g,0,none⟩=some (.string ⟨l.toArray⟩):=by rw[Lib.cell_of_heap hg];rfl
 have tS:=(jW 120 (.pointer (some ⟨g,0,none⟩)) w1).trans (by rw[iP rfl]);have HB:=Ld hb;clear hb hg ht HT f1;go_wp2;go_ret;exact⟨rfl,HB.out⟩
theorem gD{w:World}{d:Dc}{b:Nat}{u:Value}(h:w.ownsRow b 88 2 u d.ctors.length (xJ d.ctors))(hs:d.Small)(hr:d.Rng)(hv:Vars w)(hm:MaxLenInt w) :
  Rt 116 #[d.val u] w (.bool (uB d)):=by
 have FD:=Ld fun (W:World) (hW:Below w.heap.size w W)=>sT (zA h hW) hs hr (hv.below hW) (hm.below hW);have HV:=Ld hv;have s2:=hs.type;have HS:=Ld fun h=>yJ8 (d:=d) h;have hid:(decide (d.kind=4)&&zT d)=xD d:=rfl;rw[hid] at FD;have HE:Hid (uB d=(xD d&&xQ [43,122] (vT d.type))):=rfl;clear hid;obtain⟨kd,nm,ps,fl,ty,vl,cs⟩:=d;obtain⟨ua,uc,rfl⟩:=zF h;have hval:=mE kd nm ps fl ty vl cs (.slice ua cs.length uc);rw[hval] at FD |-;simp only at s2 HS HE;obtain⟨W0,hW0⟩:∃ W0,w.alloc (dC kd nm ps fl ty vl (.slice ua cs.length uc) 52)=W0:=⟨_,rfl⟩;have HX:Hid (∀ W,Below W0.heap.size W0 W->W.cell? ⟨w.heap.size,0,none⟩=some (.int .i64 kd)/\W.cell? ⟨w.heap.size,1,none⟩=some (.string ⟨nm.toArray⟩)/\W.cell? ⟨w.heap.size,2,none⟩=some (.int .i64 ps)/\W.cell? ⟨w.heap.size,3,none⟩=some (.int .i64 fl)/\W.cell? ⟨w.heap.size,4,none⟩=some (.string ⟨ty.toArray⟩)/\W.cell? ⟨w.heap.size,5,none⟩=some (.string ⟨vl.toArray⟩)/\W.cell? ⟨w.heap.size,6,none⟩=some (.slice ua cs.length uc)):=by
  rw[Hid,← hW0];exact yZ
 have HB0:Hid (Below w.heap.size w W0):=by rw[Hid,← hW0];exact zG _ _
 obtain⟨c0,c1,c2,c3,c4,c5,c6⟩:=HX.out _ (bR _ _);have f1:=Ld (FD.out _ HB0.out);clear h hval hs hr hv hm FD;generalize xD ⟨kd,nm,ps,fl,ty,vl,cs⟩=b1 at f1 HS HE;generalize uB ⟨kd,nm,ps,fl,ty,vl,cs⟩=r at HE |-;go_enter Tryz.func116,Tryz.ntmps116;go_wp2_with fail;(with_reducible refine mo f1.out fun w1 hb=>?_);have HB1:=bt HB0.out hb;clear c0 c1 c2 c3 c4 c5 c6;obtain⟨c0,c1,c2,c3,c4,c5,c6⟩:=HX.out _ hb;clear hb f1 hW0;cases b1
 ·have HF:Hid (r=false):=(by rw[Hid,HE.out,Bool.false_and]);clear HX HS HE;go_wp2;go_ret;rw[HF.out];exact⟨rfl,HB1.out⟩
 obtain⟨l,ht,hl⟩:=HS.out rfl;have HF:Hid (r=xQ [43,122] l):=by rw[Hid,HE.out,Bool.true_and,hl]
 have hll:l.length<=2000:=by
  have h1:=ht.2.2;rw[← ht.2.1] at h1;simp[Tm.bytes] at h1;omega
 have f2:=Ld (zN4 ht w1 (HV.out.below HB1.out) (by unfold maxLen;omega));have F3:=Ld fun W=>eE ⟨l.toArray⟩ W (by rw[zO];unfold maxLen;omega);simp only at F3;generalize xQ [43,122] l=z at F3 HF;clear HX HS HE ht hl;go_wp2_with fail;(with_reducible refine mo f2.out fun w2 hb2=>?_);have HB2:=bt HB1.out hb2;clear hb2 f2;go_wp2_with fail;(with_reducible refine mo (F3.out _) fun w3 hb3=>?_);have HB3:=bt HB2.out hb3;clear hb3 F3;go_wp2;go_ret;rw[HF.out];exact⟨rfl,HB3.out⟩
theorem zA0{w:World}{b:Nat}{v:Value}{l:List Int}(h:w.ownsRow b 3 1 v l.length (l.map iv))(x:Int)(hn:l.length<=10000000) :
  Calls Tryz.prog 221 #[v,.int .i64 x] w fun e w'=>(∃ r:Int,e=.returned (.int .i64 r)/\(0<=r↔x∈l))/\w'=w:=by
 obtain⟨a0,cap,rfl⟩:=qI h;have HL:=Ld h;clear h;go_enter Tryz.func221,Tryz.ntmps221;go_wp2;go_loopw [8] (fun i wr=>∃ k:Nat,k<=l.length/\i=.int .i64 k/\wr=w/\Hid (∀ j (hj:j<l.length),j<k->l[j]≠x)) (fun i _=>l.length - (intOf i).toNat)
 case atStart=>exact⟨0,Nat.zero_le _,rfl,rfl,fun j _ hj=>by omega⟩
 case round =>
  obtain⟨k,hk,rfl,rfl,HN⟩:=hrel;by_cases hlt:k<l.length
  ·obtain⟨g,cap',e0,_,hgl⟩:=HL.out.form (by omega);cases e0;have ex:(l.map iv)[k]?=some (iv l[k]):=(by simp[hlt]);have cc:=(HL.out.cellAt k (by omega)).trans ex;unfold iv at cc;have q1:=zn k;have q2:(k:Int)<(l.length:Int):=(by omega);have HM:=Ld (List.getElem_mem hlt);by_cases hx:l[k]=x
   ·have HE:Hid ((0:Int)<=(k:Int)↔x∈l):=⟨fun _=>by rw[← hx];exact HM.out,fun _=>q1⟩;have d1:(x==l[k])=true:=(by rw[beq_iff_eq];exact hx.symm);clear ex HN hx HL;generalize l[k]=y at cc d1 HM;go_wp2;go_ret;exact⟨⟨_,rfl,HE.out⟩,rfl⟩
   ·have HN2:Hid (∀ j (hj:j<l.length),j<k+1->l[j]≠x):=fun j hj hjk=>if e:j=k then by subst e;exact hx else HN.out j hj (by omega)
    have d1:(x==l[k])=false:=(by rw[bF];exact fun e=>hx e.symm);clear ex HN hx HL;generalize l[k]=y at cc d1 HM;go_wp2;go_roundw
    case rel=>exact⟨k+1,by omega,by go_num,trivial,HN2.out⟩
    case measure=>simp[intOf];omega
  ·have HE:Hid ((0:Int)<=-1↔x∈l):=by
    refine⟨fun h=>absurd h (by decide),fun h=>?_⟩;obtain⟨j,hj,e⟩:=List.getElem_of_mem h;exact absurd e (HN.out j hj (by omega))
   clear HN HL;go_wp2;go_ret;exact⟨⟨_,rfl,HE.out⟩,rfl⟩
theorem iG{w:World}{b:Nat}{v:Value}{l:List Int}(h:w.ownsRow b 3 1 v l.length (l.map iv))(x:Int)(hn:l.length<=10000000) :
  Calls Tryz.prog 187 #[v,.int .i64 x] w fun e w'=>e=.returned (.bool (decide (x∈l)))/\w'=w:=by
 have f1:=Ld (zA0 h x hn);obtain⟨a0,cap,rfl⟩:=qI h;clear h hn;go_enter Tryz.func187,Tryz.ntmps187;go_wp2_with fail;(with_reducible refine f1.out.mono ?_);rintro e w1 ⟨⟨r,rfl,hr⟩,rfl⟩;have HE:Hid (decide ((0:Int)<=r)=decide (x∈l)):=decide_eq_decide.2 hr;obtain⟨z,hz⟩:∃ z,decide ((0:Int)<=r)=z:=⟨_,rfl⟩;rw[hz] at HE;clear hr f1;go_wp2;go_ret;rw[← HE.out];exact⟨rfl,rfl⟩
end Go.Proofs.YtcaahdjhbmmcnaaGreatDoor
