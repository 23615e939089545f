/- KI6 -/
import Derived.Test.YtcaahdjhbmmcnaaGreatDoorTK5
import Derived.Test.YtcaahdjhbmmcnaaGreatDoorTKQ
import Derived.Test.YtcaahdjhbmmcnaaGreatDoorTR1
import Derived.Test.YtcaahdjhbmmcnaaGreatDoorTKB
set_option maxRecDepth 100000
set_option maxHeartbeats 16000000
set_option linter.unusedSimpArgs false
set_option linter.unusedVariables false
namespace Go.Proofs.YtcaahdjhbmmcnaaGreatDoor
open Go.ChangeShapes Go.WideShapes Go.ChangeAt Go.RowKit
theorem yG4{n:Nat}(h:n<=2):zD (117::Lib.decDigits n)=true/\(117::Lib.decDigits n).length<=2:=by
 have h0:Lib.decDigits 0=[48]:=Lib.decDigits_one (by decide);have h1:Lib.decDigits 1=[49]:=Lib.decDigits_one (by decide);have h2:Lib.decDigits 2=[50]:=Lib.decDigits_one (by decide);have e:n=0\/n=1\/n=2:=by omega
 rcases e with rfl|rfl|rfl
 ·rw[h0];simp[zD,xW]
 ·rw[h1];simp[zD,xW]
 ·rw[h2];simp[zD,xW]
theorem zD2{d:Dc}(h:xD d=true):zN d.name=true/\0<=d.params/\d.params<=2/\zT d=true:=by
 simp only[xD,Bool.and_eq_true,decide_eq_true_eq] at h;obtain⟨hk4,hok⟩:=h;have hp:=xF hok;have hok2:=hok;simp only[zT,Bool.and_eq_true,vH,hk4] at hok;have h1:=hok.2.2.2.2;rw[iN (by omega),iN (by omega),iP trivial] at h1;simp only[vI,Bool.and_eq_true,decide_eq_true_eq] at h1;exact⟨hok.1,hp.1,by have:=h1.2.2.1;omega,hok2⟩
theorem zX2{d:Dc}(h:xD d=true):zU [zM d] (yL d)=some (112::(zM d++yL d)):=by
 obtain⟨h1,h2,h3,h4⟩:=zD2 h;have hc:=oM (n:=d.params.toNat) h1 (by omega);have hsf:zM d=(Tm.const d.name (zW d.params.toNat)).bytes:=by rw[zM,iP h4]
 obtain⟨l,hl,hs,hll⟩:∃ l,yL d=(Tm.sort l).bytes/\zD l=true/\l.length<=2:=by
  unfold yL;rw[iP h];split
  ·obtain⟨n,hn⟩:∃ n:Nat,d.params=(n:Int):=⟨d.params.toNat,by omega⟩;have:=yG4 (n:=n) (by omega);refine⟨117::Lib.decDigits n,?_,this.1,this.2⟩;rw[hn,Lib.itoa_nonneg];rfl
  ·exact⟨[122],rfl,by simp[zD,xW],by simp⟩
 have hg:(Tm.arrows [Tm.const d.name (zW d.params.toNat)] (.sort l)).Good:=by
  refine⟨⟨hc.1,hs⟩,?_⟩;have h5:=uI h1;have h6:=tB (n:=d.params.toNat) (by omega);show (Tm.pi (Tm.const d.name (zW d.params.toNat)) (.sort l)).bytes.length<=2000;simp only[Tm.bytes,lC,lA,List.length_nil];omega
 have:=kH (t:=.sort l) (ds:=[Tm.const d.name (zW d.params.toNat)]) (Tm.Ok.pre (t:=.sort l) hs) (fun a ha=>by
  rw[List.mem_singleton] at ha;rw[ha];exact hc.1.pre)
 rw[rO hg] at this;rw[hsf,hl];exact this
theorem zW0{c:Nat}(h:c<=6):yK (yX ((c:Int)+1)) [yX 0]=some (64::((Tm.var (c+1)).bytes++[118,48,46])):=by
 have e1:yX ((c:Int)+1)=(Tm.var (c+1)).bytes:=by
  rw[show (c:Int)+1=((c+1:Nat):Int) by omega];exact oT (by omega)
 have e2:yX 0=(Tm.var 0).bytes:=oT (n:=0) (by omega);have e3:(Tm.var 0).bytes=[118,48,46]:=by
  have h0:Lib.decDigits 0=[48]:=Lib.decDigits_one (by decide);simp[Tm.bytes,h0]
 have h4:=tO (n:=c+1) (by omega);have hg:((Tm.var (c+1)).given [Tm.var 0]).Good:=by
  refine⟨⟨(by show c+1<=999;omega),(by show 0<=999;omega)⟩,?_⟩;show (Tm.app (.var (c+1)) (.var 0)).bytes.length<=2000;simp only[Tm.bytes,lC,lA,List.length_nil];have h0:Lib.decDigits 0=[48]:=Lib.decDigits_one (by decide);rw[h0];simp only[lC,List.length_nil];omega
 have:=gG (h:=.var (c+1)) (us:=[Tm.var 0]) trivial (fun a ha=>by
  rw[List.mem_singleton] at ha;rw[ha];trivial)
 rw[rO hg] at this;rw[e1,e2];refine this.trans ?_;show some (64::((Tm.var (c+1)).bytes++(Tm.var 0).bytes))=_;rw[e3]
theorem zM4{w:World}{d:Dc}{b:Nat}{u:Value}(h:w.ownsRow b 88 2 u d.ctors.length (xJ d.ctors))(hs:d.Small)(hr:d.Rng)(hv:Vars w)(hm:MaxLenInt w) :
  Rt 89 #[d.val u] w (yC (vW d)):=by
 obtain⟨i0,hi,hz0,hz1,hz2⟩:=info_parts tF;have FD:=Ld fun (W:World) (hW:Below w.heap.size w W)=>sT (zA h hW) hs hr (hv.below hW) (hm.below hW);have FSf:=Ld fun (W:World) (hW:Below w.heap.size w W)=>pH (zA h hW) hs hr (hv.below hW) (hm.below hW);have FMo:=Ld fun (W:World) (hW:Below w.heap.size w W)=>fZ (zA h hW) hs hr (hv.below hW) (hm.below hW);have FMi:=Ld fun (k:Int) (W:World) (hW:Below w.heap.size w W)=>bI (zA h hW) hs hr (hv.below hW) (hm.below hW) k;have HV:=Ld hv;have hid:(decide (d.kind=4)&&zT d)=xD d:=rfl;rw[hid] at FD;clear hid;have HE:Hid (vW d=if xD d=true then (match rS d d.ctors.length 0 with
 |none=>none
 |some ms=>zU ((112::(zM d++yL d))::(ms++[zM d])) (64::((Tm.var (d.ctors.length+1)).bytes++[118,48,46]))) else none):=rfl
 have HSm:=Ld fun h=>kW (d:=d) h;have HMs:=Ld fun h=>zX2 (d:=d) h;have HN:=Ld fun (k:Nat) (hk:k<d.ctors.length)=>iS (d:=d) hk;have HS:=Ld fun (k:Nat) (t:List UInt8) (hk:k<d.ctors.length)=>iR (d:=d) (t:=t) hk;have HEn:=Ld (eU (d:=d) (n:=d.ctors.length));have HTl:=Ld fun (k:Nat) (t:List UInt8)=>mQ (d:=d) (k:=(k:Int)) (r:=t);obtain⟨kd,nm,ps,fl,ty,vl,cs⟩:=d;obtain⟨ua,uc,rfl⟩:=zF h;have hval:=mE kd nm ps fl ty vl cs (.slice ua cs.length uc);simp only[hval] at FD FSf FMo FMi |-;simp only at HE HSm HN HS HEn;obtain⟨W0,hW0⟩:∃ W0,w.alloc (dC kd nm ps fl ty vl (.slice ua cs.length uc) 52)=W0:=⟨_,rfl⟩;have HX:Hid (∀ W,Below W0.heap.size W0 W->W.cell? ⟨w.heap.size,0,none⟩=some (.int .i64 kd)/\W.cell? ⟨w.heap.size,1,none⟩=some (.string ⟨nm.toArray⟩)/\W.cell? ⟨w.heap.size,2,none⟩=some (.int .i64 ps)/\W.cell? ⟨w.heap.size,3,none⟩=some (.int .i64 fl)/\W.cell? ⟨w.heap.size,4,none⟩=some (.string ⟨ty.toArray⟩)/\W.cell? ⟨w.heap.size,5,none⟩=some (.string ⟨vl.toArray⟩)/\W.cell? ⟨w.heap.size,6,none⟩=some (.slice ua cs.length uc)):=by
  rw[Hid,← hW0];exact yZ
 have HB0:Hid (Below w.heap.size w W0):=by rw[Hid,← hW0];exact zG _ _
 obtain⟨c0,c1,c2,c3,c4,c5,c6⟩:=HX.out _ (bR _ _);have f1:=Ld (FD.out _ HB0.out);clear h hval hs hr hv hm FD;generalize xD ⟨kd,nm,ps,fl,ty,vl,cs⟩=dt at f1 HE HSm HMs;generalize vW ⟨kd,nm,ps,fl,ty,vl,cs⟩=res at HE |-;generalize zM ⟨kd,nm,ps,fl,ty,vl,cs⟩=sf at FSf HE HSm HMs;generalize yL ⟨kd,nm,ps,fl,ty,vl,cs⟩=mx at FMo HE HSm HMs;generalize hmn:rS ⟨kd,nm,ps,fl,ty,vl,cs⟩=mn at HE HN HS HEn;generalize hmt:yY ⟨kd,nm,ps,fl,ty,vl,cs⟩=mt at FMi HN HS HTl;clear hmn hmt;go_enter Tryz.func89,Tryz.ntmps89;go_wp2_with fail;(with_reducible refine mo f1.out fun w1 hb=>?_);have HK1:=Ld hb;clear c0 c1 c2 c3 c4 c5 c6;obtain⟨c0,c1,c2,c3,c4,c5,c6⟩:=HX.out _ hb;clear hb f1 hW0;cases dt
 ·have HF:Hid (res=none):=(by rw[Hid,HE.out];rfl);have HB1:=Ld (HB0.out.trans (HK1.out.mono HB0.out.size));clear HE HSm HMs HN HS HEn HTl FSf FMo FMi HX;go_wp2;go_ret2;rw[HF.out];exact⟨rfl,HB1.out⟩
 obtain⟨z1,z2,z3⟩:=HSm.out rfl;have HA:=Ld (HMs.out rfl);have f2:=Ld (FSf.out _ (HB0.out.trans (HK1.out.mono HB0.out.size)));clear HSm HMs FSf;go_wp2_with fail;(with_reducible refine mo f2.out fun w2 hb2=>?_);have hk2:=HK1.out.trans (hb2.mono HK1.out.size);have ha:=zG w2 (.cells #[.string ⟨sf.toArray⟩] 9);have HK2:=bt hk2 ha;have r1:(w2.alloc (.cells #[.string ⟨sf.toArray⟩] 9)).ownsRow w2.heap.size 9 1 (.slice (some ⟨w2.heap.size,0,none⟩) 1 1) [sf].length ([sf].map sv):=World.ownsRow_lit (base:=w2.heap.size) (e:=9) (size:=1) w2 #[.string ⟨sf.toArray⟩] 1 (nR _) (by decide) (by simp);have f3:=Ld (FMo.out _ (HB0.out.trans (HK2.out.mono HB0.out.size)));have f4:=Ld fun (W:World) (hW:Below (w2.alloc (.cells #[.string ⟨sf.toArray⟩] 9)).heap.size (w2.alloc (.cells #[.string ⟨sf.toArray⟩] 9)) W)=>dI (⟨mx.toArray⟩:ByteArray) (HV.out.below (HB0.out.trans ((bu HK2.out hW).mono HB0.out.size))) (by rw[zO];unfold maxLen;omega) (zA r1 hW) (by simp) (by simp;omega);have HK2':=Ld hk2;clear hb2 hk2 ha r1 f2 FMo c0 c1 c2 c3 c4 c5 c6;obtain⟨c0,c1,c2,c3,c4,c5,c6⟩:=HX.out _ HK2.out;obtain⟨d0,d1,d2,d3,d4,d5,d6⟩:=HX.out _ HK2'.out;go_wp2_with fail;(with_reducible refine mo f3.out fun w3 hb3=>?_);have f5:=f4.out _ hb3;rw[HA.out,show yC (some ((112:UInt8)::(sf++mx)))=.tuple #[.string ⟨((112:UInt8)::(sf++mx)).toArray⟩,.bool true] from rfl] at f5;have zmt:((112:UInt8)::(sf++mx)).length<=2001:=by simp;omega
 generalize (112:UInt8)::(sf++mx)=mot at f5 HE zmt;have f5:=Ld f5;have HK3:=bt HK2.out hb3;clear hb3 f3 f4 c0 c1 c2 c3 c4 c5 c6 d0 d1 d2 d3 d4 d5 d6;go_wp2_with fail;(with_reducible refine mo f5.out fun w4 hb4=>?_);have hk4:=HK3.out.trans (hb4.mono HK3.out.size);have ha4:=zG w4 (.cells #[.string ⟨mot.toArray⟩] 9);have hz4:W0.heap.size<=w4.heap.size:=hk4.size;have r4:(w4.alloc (.cells #[.string ⟨mot.toArray⟩] 9)).ownsRow W0.heap.size 9 1 (.slice (some ⟨w4.heap.size,0,none⟩) 1 1) (0+1) ([mot].map sv):=World.ownsRow_lit (base:=W0.heap.size) (e:=9) (size:=1) w4 #[.string ⟨mot.toArray⟩] 1 hz4 (by decide) (by simp);have HR4:=Ld r4;have HK4:=bt hk4 ha4;have HK4':=Ld hk4;obtain⟨c0,c1,c2,c3,c4,c5,c6⟩:=HX.out _ HK4.out;have HMN0:Hid (mn cs.length 0=(mn (cs.length - 0) 0).map (([]:List (List UInt8))++·)):=by
  rw[Hid,Nat.sub_zero];cases mn cs.length 0<;>rfl
 clear hb4 hk4 ha4 r4 f5 HK3 HK2 HK2' HK1 HA;go_wp2;go_loopw [7,31] (fun o i wr=>∃ (k:Nat) (ms:List (List UInt8)) (oo:Value),k<=cs.length/\i=.int .i64 k/\oo=o/\Hid (mn cs.length 0=(mn (cs.length - k) k).map (ms++·))/\Hid (ms.length=k/\∀ x∈ms,x.length<=2000)/\Hid (wr.ownsRow W0.heap.size 9 1 oo (k+1) ((mot::ms).map sv))/\Hid (Below W0.heap.size W0 wr)) (fun _ i _=>cs.length - (intOf i).toNat)
 case atStart=>exact⟨0,[],_,Nat.zero_le _,rfl,rfl,HMN0.out,⟨rfl,fun x hx=>by cases hx⟩,HR4.out,HK4.out⟩
 case round =>
  obtain⟨k,ms,oo,hk,rfl,rfl,HM,HL,HO,HB⟩:=hrel;clear HR4 HK4 HK4' HMN0 c0 c1 c2 c3 c4 c5 c6;obtain⟨c0,c1,c2,c3,c4,c5,c6⟩:=HX.out _ HB.out;obtain⟨oa,oc,eo⟩:=zP HO.out;subst eo;have HBw:=Ld (HB0.out.trans (HB.out.mono HB0.out.size));by_cases hlt:k<cs.length
  ·have q1:=zn k;have q2:(k:Int)<(cs.length:Int):=(by omega);have f6:=FMi.out (k:Int) wr HBw.out;have HNk:=Ld (HN.out k hlt);have HSk:=Ld fun t=>HS.out k t hlt;have HTk:=Ld fun t=>HTl.out k t;obtain⟨mk,hmk⟩:∃ mk,mt (k:Int)=mk:=⟨_,rfl⟩;rw[hmk] at f6 HNk HSk HTk;clear hmk;cases mk with
  |none =>
    have HF:Hid (res=none):=(by rw[Hid,HE.out,HM.out,HNk.out rfl];rfl);rw[show yC (none:Option (List UInt8))=.tuple #[.string ⟨#[]⟩,.bool false] from rfl] at f6;have f6:=Ld f6;clear HNk HSk HTk HN HS HEn HTl HE HM HX FMi;go_wp2_with fail;(with_reducible refine mo f6.out fun w5 hb5=>?_);have HB5:=bt HBw.out hb5;clear hb5 f6;go_wp2;go_ret2;rw[HF.out];exact⟨rfl,HB5.out⟩
  |some t =>
    have htl:=HTk.out t rfl;have HM2:Hid (mn cs.length 0=(mn (cs.length - (k+1)) (k+1)).map ((ms++[t])++·)):=by
     rw[Hid,HM.out,HSk.out t rfl];cases mn (cs.length - (k+1)) (k+1)<;>simp
    have HL2:Hid ((ms++[t]).length=k+1/\∀ x∈ms++[t],x.length<=2000):=by
     refine⟨by rw[lA,HL.out.1];rfl,fun x hx=>?_⟩;rcases List.mem_append.1 hx with hx|hx
     ·exact HL.out.2 x hx
     ·rw[List.mem_singleton] at hx;rw[hx];exact htl
    rw[show yC (some t)=.tuple #[.string ⟨t.toArray⟩,.bool true] from rfl] at f6;have f6:=Ld f6;have zt:=zO t;clear HNk HSk HTk HM HL;go_wp2_with fail;(with_reducible refine mo f6.out fun w5 hb5=>?_);have HB5:=bt HB.out hb5;have ho5:=zA HO.out hb5;have hz5:W0.heap.size<=w5.heap.size:=HB5.out.size;clear hb5 f6 HO HB HBw c0 c1 c2 c3 c4 c5 c6;go_wp2_with (at_builtin;refine wpList_append_own _ rfl _ _ 31 rfl W0.heap.size 9 i0 _ 1 16 Tryz.underlying31 hi hz0 hz1 hz2 rfl (by decide) _ _ _ rfl (ho5.alloc _) ⟨w5.heap.size,0,none⟩ 1 1 [.string ⟨t.toArray⟩] rfl rfl (yI _ _ _) (by simp[Value.oneCell']) (by simp only[maxLen];omega) (by omega) (by simp;omega) ?_);intro v6 w6 ho6 hg6 _;have HO6:Hid (w6.ownsRow W0.heap.size 9 1 v6 (k+1+1) ((mot::(ms++[t])).map sv)):=by
     rw[Hid,List.map_cons,List.map_append];exact ho6
    have HB6:Hid (Below W0.heap.size W0 w6):=(HB5.out.alloc hz5 _).grown hg6 (by simp;omega) (fun q hq=>(ho5.lt q hq).1);clear ho6 hg6 ho5 HB5;go_wp2;go_roundw
    case rel=>exact⟨k+1,ms++[t],_,by omega,by go_num,rfl,HM2.out,HL2.out,HO6.out,HB6.out⟩
    case measure=>simp[intOf];omega
  ·obtain rfl:k=cs.length:=(by omega);have HF:Hid (res=zU (mot::(ms++[sf])) (64::((Tm.var (cs.length+1)).bytes++[118,48,46]))):=by
    rw[Hid,HE.out,HM.out,HEn.out];simp
   have hw1:IntKind.i64.wrap ((cs.length:Int)+1)=(cs.length:Int)+1:=IntWalk.i64_in _ (by omega);have f6:=Ld (gA ((cs.length:Int)+1) wr (HV.out.below HBw.out));have HRs:=Ld (zW0 (c:=cs.length) z3);have hvl:=sU ((cs.length:Int)+1);have hvz:=sU 0;generalize yX ((cs.length:Int)+1)=v1 at f6 HRs hvl;have zv1:=zO v1;clear HM HN HS HEn HTl HE FMi;go_wp2_with fail;(with_reducible refine mo f6.out fun w5 hb5=>?_);have HB5:=bt HBw.out hb5;have f7:=Ld (gA 0 w5 (HV.out.below HB5.out));have HO5:=Ld (zA HO.out hb5);have hs5:W0.heap.size<=w5.heap.size:=Nat.le_trans HB.out.size hb5.size;generalize yX 0=v0 at f7 HRs hvz;have zv0:=zO v0;clear hb5 f6 HO HBw;go_wp2_with fail;(with_reducible refine mo f7.out fun w6 hb6=>?_);have HB6:=bt HB5.out hb6;have hs6:W0.heap.size<=w6.heap.size:=Nat.le_trans hs5 hb6.size;have ha6:=zG w6 (.cells #[.string ⟨v0.toArray⟩] 9);have HB6a:=bt HB6.out ha6;have r6:(w6.alloc (.cells #[.string ⟨v0.toArray⟩] 9)).ownsRow w6.heap.size 9 1 (.slice (some ⟨w6.heap.size,0,none⟩) 1 1) [v0].length ([v0].map sv):=World.ownsRow_lit (base:=w6.heap.size) (e:=9) (size:=1) w6 #[.string ⟨v0.toArray⟩] 1 (nR _) (by decide) (by simp);have f8:=yH4 (⟨v1.toArray⟩:ByteArray) (HV.out.below HB6a.out) (by rw[zO];unfold maxLen;omega) r6 (by simp) (by simp;omega);have HO6:=Ld (zA (zA HO5.out hb6) ha6);rw[HRs.out,show yC (some ((64:UInt8)::((Tm.var (cs.length+1)).bytes++[118,48,46])))=.tuple #[.string ⟨((64:UInt8)::((Tm.var (cs.length+1)).bytes++[118,48,46])).toArray⟩,.bool true] from rfl] at f8
   have hvb:=nL (cs.length+1) (by omega);have zrt:((64:UInt8)::((Tm.var (cs.length+1)).bytes++[118,48,46])).length<=34:=(by simp;omega);generalize (64:UInt8)::((Tm.var (cs.length+1)).bytes++[118,48,46])=rt at f8 HF zrt;have zrs:=zO rt;have f8:=Ld f8;clear hb6 ha6 r6 f7 HO5 HB5 HRs;go_wp2_with fail;(with_reducible refine mo f8.out fun w8 hb8=>?_);have HB8:=bt HB6a.out hb8;have ho8:=zA HO6.out hb8;have hz8:W0.heap.size<=w8.heap.size:=by
    have h1:=hb8.size;simp at h1;omega
   clear hb8 f8 HO6 HB6 HB6a;go_wp2_with (at_builtin;refine wpList_append_own _ rfl _ _ 31 rfl W0.heap.size 9 i0 _ 1 16 Tryz.underlying31 hi hz0 hz1 hz2 rfl (by decide) _ _ _ rfl (ho8.alloc _) ⟨w8.heap.size,0,none⟩ 1 1 [.string ⟨sf.toArray⟩] rfl rfl (yI _ _ _) (by simp[Value.oneCell']) (by simp only[maxLen];omega) (by omega) (by simp;omega) ?_);intro v9 w9 ho9 hg9 _;have HO9:w9.ownsRow W0.heap.size 9 1 v9 (mot::(ms++[sf])).length ((mot::(ms++[sf])).map sv):=by
    rw[List.map_cons,List.map_append,lC,lA,HL.out.1];exact ho9
   have hgo:∀ q,(Value.slice oa (cs.length+1) oc).ownBlock=some q->w.heap.size<=q:=fun q hq=>Nat.le_trans HB0.out.size (ho8.lt q hq).1;have HB9:Hid (Below w.heap.size w w9):=(HB8.out.alloc HB8.out.size _).grown hg9 (by simp;have:=HB8.out.size;omega) hgo
   have f9:=dI (⟨rt.toArray⟩:ByteArray) (HV.out.below HB9.out) (by rw[zO];unfold maxLen;omega) HO9 (by rw[lC,lA,HL.out.1,List.length_singleton];omega) (fun x hx=>by
    rcases List.mem_cons.1 hx with rfl|hx
    ·omega
    ·rcases List.mem_append.1 hx with hx|hx
     ·have:=HL.out.2 x hx;omega
     ·rw[List.mem_singleton] at hx;rw[hx];omega)
   obtain⟨o2,ho⟩:=sQ (zU (mot::(ms++[sf])) rt);rw[show ((⟨rt.toArray⟩:ByteArray)).data.toList=rt from rfl,ho] at f9;have HF2:Hid (yC res=.tuple #[.string ⟨((zU (mot::(ms++[sf])) rt).getD []).toArray⟩,.bool o2]):=(by rw[Hid,HF.out];exact ho);generalize (zU (mot::(ms++[sf])) rt).getD []=rr at f9 HF2;have f9:=Ld f9;obtain⟨a9,k9,rfl⟩:=zP ho9;clear ho9 hg9 ho8 HO9 hgo ho HF HB8;go_wp2_with fail;(with_reducible refine mo f9.out fun w10 hb10=>?_);have HB10:=bt HB9.out hb10;clear f9 hb10 HB9;go_wp2;go_ret2;rw[HF2.out];exact⟨rfl,HB10.out⟩
end Go.Proofs.YtcaahdjhbmmcnaaGreatDoor
