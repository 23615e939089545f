/- QNam QFind QMany QLawF -/
import Derived.Laws.Cover1
import Derived.Test.YtcaahdjhbmmcnaaGreatDoorTQB
import Derived.Test.YtcaahdjhbmmcnaaGreatDoorTP5
import Derived.Test.YtcaahdjhbmmcnaaGreatDoorTG2
import Derived.Test.YtcaahdjhbmmcnaaGreatDoorTKA
import Derived.Test.YtcaahdjhbmmcnaaGreatDoorTJ1
import Derived.Test.YtcaahdjhbmmcnaaGreatDoorTQC
set_option maxRecDepth 100000
set_option maxHeartbeats 16000000
set_option linter.unusedSimpArgs false
set_option linter.unusedVariables false
namespace Go.Proofs.YtcaahdjhbmmcnaaGreatDoor
open Go.ChangeShapes Go.WideShapes Go.ChangeAt Go.RowKit
theorem yD8(nm:List UInt8):(⟨nm.toArray⟩:ByteArray)++⟨#[46,114,101,99]⟩=⟨(nm++46::rP).toArray⟩:=by
 apply ByteArray.ext;simp[rP]
theorem yC7{w:World}{d:Dc}{b:Nat}{u:Value}(h:w.ownsRow b 88 2 u d.ctors.length (xJ d.ctors))(hs:d.Small)(n:List UInt8)(hn:n.length<=281474976710656) :
  Rt 47 #[d.val u,.string ⟨n.toArray⟩] w (.int .i64 (yV d n)):=by
 have H1:=Ld fun h=>zL4 (d:=d) (n:=n) h;have H2:=Ld fun h k hk h1 h0=>zB4 (d:=d) (n:=n) h (k:=k) hk h1 h0;have H3:=Ld fun h h0=>zL3 (d:=d) (n:=n) h h0;generalize yV d n=r at H1 H2 H3 |-;obtain⟨kd,nm,ps,fl,ty,vl,cs⟩:=d;obtain⟨ua,uc,rfl⟩:=zF h;have HB0:=Ld (zG w (dC kd nm ps fl ty vl (.slice ua cs.length uc) 52));have HR:=Ld (zA h HB0.out);have hval:=mE kd nm ps fl ty vl cs (.slice ua cs.length uc);rw[hval];have s1:=hs.name;have s4:=hs.ctors;simp only at H1 H2 H3 HR s1 s4;have zq:=zO n;have znm:=zO nm;obtain⟨c0,c1,c2,c3,c4,c5,c6⟩:=yZ (w:=w) (kd:=kd) (ps:=ps) (fl:=fl) (nm:=nm) (ty:=ty) (vl:=vl) (u:=.slice ua cs.length uc) _ (bR _ _);clear h hval hs;by_cases hq:nm=n
 ·subst hq;have e1:(nm==nm)=true:=(by rw[beq_iff_eq]);have HF:=Ld (H1.out rfl);clear H1 H2 H3 HR;go_enter Tryz.func47,Tryz.ntmps47;go_wp2;go_ret;rw[HF.out];exact⟨rfl,HB0.out⟩
 have e1:(nm==n)=false:=by rw[bF];exact hq
 have HQ:=Ld hq;clear hq H1;go_enter Tryz.func47,Tryz.ntmps47;go_wp2;go_loopw [5] (fun i wr=>∃ k:Nat,k<=cs.length/\i=.int .i64 k/\wr=w.alloc (dC kd nm ps fl ty vl (.slice ua cs.length uc) 52)/\Hid (∀ j (hj:j<cs.length),j<k->cs[j].1≠n)) (fun i _=>cs.length - (intOf i).toNat)
 case atStart=>exact⟨0,Nat.zero_le _,rfl,rfl,fun j _ hj=>by omega⟩
 case round =>
  obtain⟨k,hk,rfl,rfl,HN⟩:=hrel;by_cases hlt:k<cs.length
  ·obtain⟨g,cap',e0,_,hgl⟩:=HR.out.form (by omega);cases e0;obtain⟨fa,fb⟩:=uE hlt;have x1:=(HR.out.cellAt (k*2) (by omega)).trans fa;unfold sv at x1;have q1:=zn k;have q2:(k:Int)<(cs.length:Int):=(by omega);by_cases hx:cs[k].1=n
   ·have HF:=Ld (H2.out HQ.out k hlt hx HN.out);have e2:(cs[k].1==n)=true:=(by rw[beq_iff_eq];exact hx);clear fa fb HN hx H2 H3 HR;generalize cs[k].1=y at x1 e2;go_wp2;go_ret;rw[HF.out];exact⟨by go_num,HB0.out⟩
   ·have HN2:Hid (∀ j (hj:j<cs.length),j<k+1->cs[j].1≠n):=fun j hj hjk=>if e:j=k then by subst e;exact hx else HN.out j hj (by omega)
    have e2:(cs[k].1==n)=false:=(by rw[bF];exact hx);clear fa fb HN hx H2 H3 HR;generalize cs[k].1=y at x1 e2;go_wp2;go_roundw
    case rel=>exact⟨k+1,by omega,by go_num,trivial,HN2.out⟩
    case measure=>simp[intOf];omega
  ·have HF:=Ld (H3.out HQ.out fun j hj=>HN.out j hj (by omega));have hrt:=yD8 nm;clear HN H2 H3 HR;by_cases k4:kd=4;rotate_left
   ·have b4:(kd==4)=false:=(by rw[bF];exact k4);have HG:Hid (r=-1):=(by rw[Hid,HF.out,iN (fun h=>k4 h.1)]);clear HF k4;go_wp2;go_ret;rw[HG.out];exact⟨rfl,HB0.out⟩
   subst k4;by_cases hl:n.length=nm.length+4;rotate_left
   ·have e3:((n.length:Int)==(nm.length:Int)+4)=false:=(by rw[bF];omega);have HG:Hid (r=-1):=by
     rw[Hid,HF.out,iN];rintro ⟨_,h⟩;have:=congrArg List.length h;simp[rP] at this;omega
    clear HF hl;go_wp2;go_ret;rw[HG.out];exact⟨rfl,HB0.out⟩
   have e3:((n.length:Int)==(nm.length:Int)+4)=true:=(by rw[beq_iff_eq];omega);obtain⟨rn,hrn⟩:∃ rn,nm++46::rP=rn:=⟨_,rfl⟩;rw[hrn] at hrt HF;have zr:nm.length+4<=281474976710656:=(by omega);clear hl hrn;by_cases hr:rn=n
   ·have e4:(rn==n)=true:=(by rw[beq_iff_eq];exact hr);have HG:Hid (r=(cs.length:Int)+1):=(by rw[Hid,HF.out,iP ⟨rfl,hr⟩]);clear HF hr;go_wp2;go_ret;rw[HG.out];exact⟨by go_num,HB0.out⟩
   ·have e4:(rn==n)=false:=(by rw[bF];exact hr);have HG:Hid (r=-1):=(by rw[Hid,HF.out,iN (fun h=>hr h.2)]);clear HF hr;go_wp2;go_ret;rw[HG.out];exact⟨rfl,HB0.out⟩
def qA (r:Int × Int × Int):Value:=.tuple #[.int .i64 r.1,.int .i64 r.2.1,.int .i64 r.2.2]
theorem yD3{w:World}{B:Nat}{v:Value}{env:List En}(h:sJ w B v env)(hs:xU env)(oa:Option Addr)(oc:Nat)(n:List UInt8)(hn:n.length<=281474976710656) :
  Rt 28 #[v,.slice oa 0 oc,.string ⟨n.toArray⟩] w (qA (vN env n)):=by
 obtain⟨xs,hx,hr,ho⟩:=h;have hlx:xs.length=env.length:=by rw[← hx,List.length_map]
 obtain⟨ra,rc,rfl⟩:=zF hr;rw[hlx] at hr |-;have HAT:=Ld fun (k:Nat) (hk:k<env.length)=>zG0 hx hk;have HS:=Ld hs.2;have hlen:=hs.1;have HR:=Ld hr;have HO:=Ld ho;have HSK:=Ld fun (k:Nat) (hk:k<env.length) h=>zY9 (n:=n) hk h;have HHT:=Ld fun (k:Nat) (hk:k<env.length) h=>yI0 (n:=n) hk h;have HEN:=Ld fun (k:Nat) (hk:env.length<=k)=>yI1 (n:=n) hk;have HL:=Ld hlx;obtain⟨rr,hrr⟩:∃ rr,vN env n=rr:=⟨_,rfl⟩;have HF0:Hid (rr=oG n (env.drop 0) 0):=by rw[Hid,← hrr,List.drop_zero];rfl
 rw[hrr];clear hr ho hx hlx hs hrr;go_enter Tryz.func28,Tryz.ntmps28;go_wp2;go_loopw [9] (fun i wr=>∃ k:Nat,k<=env.length/\i=.int .i64 k/\Hid (Below w.heap.size w wr)/\Hid (rr=oG n (env.drop k) k)) (fun i _=>env.length - (intOf i).toNat)
 case atStart=>exact⟨0,Nat.zero_le _,rfl,bR _ _,HF0.out⟩
 case round =>
  obtain⟨k,hk,rfl,HW,HFk⟩:=hrel;clear HF0;have hz:=HW.out.size;by_cases hlt:k<env.length;rotate_left
  ·have HF:Hid (rr=(0,-1,0)):=(by rw[Hid,HFk.out];exact HEN.out k (by omega));clear HAT HS HR HO HSK HHT HEN HL HFk;go_wp2;refine bodyPost_ret (v:=qA rr) (by rw[HF.out];simp[results,go_sem,qA]) rfl ⟨rfl,HW.out⟩
  obtain⟨x,ex,mx,hek⟩:=HAT.out k hlt;have hsm:=HS.out _ (List.getElem_mem hlt);have HSk:=Ld (HSK.out k hlt);have HHk:=Ld (HHT.out k hlt);rw[hek] at hsm HSk HHk;obtain⟨g,cap,e0,_,hgl⟩:=HR.out.form (by omega);cases e0;have a8:=oI (zA HR.out HW.out) hlt HL.out ex;have p0:=a8 0 (by decide);have p1:=a8 1 (by decide);have p2:=a8 2 (by decide);have p3:=a8 3 (by decide);have p4:=a8 4 (by decide);have p5:=a8 5 (by decide);have p6:=a8 6 (by decide);have p7:=a8 7 (by decide);have hox:=((HO.out x mx).below HW.out).1;have hnm:=zX0 x.1.1 n;have f1:=Ld (yC7 hox hsm.1 n hn);have F2:=Ld fun (W:World) (hW:Below wr.heap.size wr W)=>sP (zA hox hW) hsm.1;have s4:=hsm.1.ctors;clear a8 ex mx hek HAT HS HR HO HSK HHT HEN HL;generalize yV x.1.1 n=z at f1 HSk HHk hnm;obtain⟨⟨⟨kd,nm,ps,fl,ty,vl,cs⟩,ls⟩,u,vv⟩:=x;obtain⟨ua,uc,hu⟩:=zF hox;simp only at hu s4 hnm;subst hu;have hval:=mE kd nm ps fl ty vl cs (.slice ua cs.length uc);simp only[hval] at f1 F2;simp only at HSk HHk;simp only[uJ,sv,List.getElem?_cons_zero,List.getElem?_cons_succ,Nat.add_zero,Nat.zero_add] at p0 p1 p2 p3 p4 p5 p6 p7;have t1:=zn k;have t2:(k:Int)<(env.length:Int):=(by omega);have e0:((0:Int)==(env.length:Int))=false:=(by rw[bF];omega);have e0n:((0:Int) != (env.length:Int))=true:=(by rw[bne,e0];rfl);have hgw:g<wr.heap.size:=Nat.lt_of_lt_of_le hgl hz
  have HPX:Hid (∀ W,Below wr.heap.size wr W->W.cell? ⟨g,k*8,none⟩=some (.int .i64 kd)/\W.cell? ⟨g,k*8+1,none⟩=some (.string ⟨nm.toArray⟩)/\W.cell? ⟨g,k*8+2,none⟩=some (.int .i64 ps)/\W.cell? ⟨g,k*8+3,none⟩=some (.int .i64 fl)/\W.cell? ⟨g,k*8+4,none⟩=some (.string ⟨ty.toArray⟩)/\W.cell? ⟨g,k*8+5,none⟩=some (.string ⟨vl.toArray⟩)/\W.cell? ⟨g,k*8+6,none⟩=some (.slice ua cs.length uc)):=fun W hW=>⟨(hW.cell (p:=⟨g,k*8,none⟩) hgw).trans p0,(hW.cell (p:=⟨g,k*8+1,none⟩) hgw).trans p1,(hW.cell (p:=⟨g,k*8+2,none⟩) hgw).trans p2,(hW.cell (p:=⟨g,k*8+3,none⟩) hgw).trans p3,(hW.cell (p:=⟨g,k*8+4,none⟩) hgw).trans p4,(hW.cell (p:=⟨g,k*8+5,none⟩) hgw).trans p5,(hW.cell (p:=⟨g,k*8+6,none⟩) hgw).trans p6⟩;clear hox hsm hval;go_wp2_with fail;(with_reducible refine mo f1.out fun w1 hb1=>?_);have HW1:=Ld (HW.out.trans (hb1.mono hz));have f2:=Ld (F2.out w1 hb1);have HB1:=Ld hb1;clear p0 p1 p2 p3 p4 p5 p6 p7 f1 F2 hb1;obtain⟨p0,p1,p2,p3,p4,p5,p6⟩:=HPX.out _ HB1.out;by_cases hz0:z<0
  ·have d1:decide (z<0)=true:=dT hz0;have HFN:Hid (rr=oG n (env.drop (k+1)) (k+1)):=(by rw[Hid,HFk.out];exact HSk.out (fun h=>by omega));clear f2 HPX HSk HHk HFk;go_wp2;go_roundw
   case rel=>exact⟨k+1,by omega,by go_num,HW1.out,HFN.out⟩
   case measure=>simp[intOf];omega
  have d1:decide (z<0)=false:=dF hz0;go_wp2_with fail;(with_reducible refine mo f2.out fun w2 hb2=>?_);have HW2:=bt HW1.out hb2;have HB2:=bt HB1.out hb2;clear p0 p1 p2 p3 p4 p5 p6 hb2 f2;obtain⟨p0,p1,p2,p3,p4,p5,p6⟩:=HPX.out _ HB2.out;clear HPX;generalize hdk:zT ⟨kd,nm,ps,fl,ty,vl,cs⟩=ok at HSk HHk |-;clear hdk;cases ok
  ·have HFN:Hid (rr=oG n (env.drop (k+1)) (k+1)):=(by rw[Hid,HFk.out];exact HSk.out (fun h=>by cases h.2));clear HSk HHk HFk;go_wp2;go_roundw
   case rel=>exact⟨k+1,by omega,by go_num,HW2.out,HFN.out⟩
   case measure=>simp[intOf];omega
  have HFk2:=Ld (HFk.out.trans (HHk.out ⟨by omega,rfl⟩));clear HSk HHk HFk;by_cases hz1:z=0
  ·have e1:(z==0)=true:=(by rw[beq_iff_eq];exact hz1);have HF:Hid (rr=(kd,(k:Int),0)):=(by rw[Hid,HFk2.out,iP hz1]);clear hz0 hz1 HFk2;go_wp2;refine bodyPost_ret (v:=qA rr) (by rw[HF.out];simp[results,go_sem,qA]) rfl ⟨rfl,HW2.out⟩
  have e1:(z==0)=false:=(by rw[bF];exact hz1);by_cases hz2:z - 1<(cs.length:Int)
  ·have d2:decide (z - 1<(cs.length:Int))=true:=dT hz2;have HF:Hid (rr=(5,(k:Int),z - 1)):=(by rw[Hid,HFk2.out,iN hz1,iP hz2]);clear HFk2;go_wp2;refine bodyPost_ret (v:=qA rr) (by rw[HF.out];simp[results,go_sem,qA]) rfl ⟨rfl,HW2.out⟩
  ·have d2:decide (z - 1<(cs.length:Int))=false:=dF hz2;have HF:Hid (rr=(6,(k:Int),0)):=(by rw[Hid,HFk2.out,iN hz1,iN hz2]);clear HFk2;go_wp2;refine bodyPost_ret (v:=qA rr) (by rw[HF.out];simp[results,go_sem,qA]) rfl ⟨rfl,HW2.out⟩
theorem pJ{d:Dc}(h:zT d=true):1<=d.kind/\d.kind<=4:=by
 simp only[zT,vH,Bool.and_eq_true,decide_eq_true_eq] at h;have h1:=h.2.2.2.2;split at h1
 ·omega
 ·split at h1
  ·omega
  ·split at h1
   ·omega
   ·cases h1
def zI3 (env:List En) (r:Int × Int × Int):Prop :=
 r=(0,-1,0)\/∃ (j:Nat) (e:En),env[j]?=some e/\zT e.1=true/\r.2.1=(j:Int)/\((r.1=e.1.kind/\r.2.2=0)\/(r.1=5/\∃ k:Nat,k<e.1.ctors.length/\r.2.2=(k:Int))\/(r.1=6/\e.1.kind=4/\r.2.2=0))
theorem xA3(n:List UInt8)(env:List En):∀ (es:List En) (i:Nat),env.drop i=es->zI3 env (oG n es i):=by
 intro es
 induction es with
|nil=>intro i _;exact .inl rfl
|cons e es ih =>
  intro i hd;have he:env[i]?=some e:=by
   have:=congrArg (fun l=>l[0]?) hd;simpa using this
  have hn:env.drop (i+1)=es:=by
   rw[← List.drop_drop,hd];rfl
  rw[oG];by_cases h:0<=yV e.1 n/\zT e.1=true;rotate_left
  ·rw[iN h];exact ih (i+1) hn
  ·rw[iP h];refine .inr ⟨i,e,he,h.2,?_⟩;by_cases h0:yV e.1 n=0
   ·rw[iP h0];exact⟨rfl,.inl ⟨rfl,rfl⟩⟩
   ·rw[iN h0];by_cases h1:yV e.1 n - 1<(e.1.ctors.length:Int)
    ·rw[iP h1];exact⟨rfl,.inr (.inl ⟨rfl,(yV e.1 n - 1).toNat,by omega,by show yV e.1 n - 1=_;omega⟩)⟩
    ·rw[iN h1];refine⟨rfl,.inr (.inr ⟨rfl,?_,rfl⟩)⟩;unfold yV at h0 h1 h;split at h1
     ·omega
     ·rename_i hq;rw[iN hq] at h0 h;split at h1
      ·rename_i k hk;rw[List.findIdx?_eq_some_iff_getElem] at hk;obtain⟨hk,_⟩:=hk;omega
      ·split at h1
       ·rename_i h4;exact h4.1
       ·omega
theorem gJ(env:List En)(n:List UInt8):zI3 env (vN env n):=xA3 n env env 0 (by rw[List.drop_zero])
noncomputable def tK (env:List En) (r:Int × Int × Int):Int:=if r.1=0 then -1 else match env[r.2.1.toNat]? with
|some e=>if r.1=6 then vX e.1 else e.1.params
|none=>0
noncomputable def iX (env:List En) (n:List UInt8):Int:=tK env (vN env n)
theorem mS{env:List En}{r:Int × Int × Int}{j:Nat}{e:En}(he:env[j]?=some e)(hj:r.2.1=(j:Int))(h0:r.1≠0):tK env r=if r.1=6 then vX e.1 else e.1.params:=by
 unfold tK;rw[iN h0,hj,Int.toNat_natCast,he]
theorem yO7{w:World}{B:Nat}{v:Value}{env:List En}(h:sJ w B v env)(hs:xU env){r:Int × Int × Int}(hr:zI3 env r) :
  Rt 33 #[v,.int .i64 r.1,.int .i64 r.2.1] w (.int .i64 (tK env r)):=by
 obtain⟨xs,hx,hrow,ho⟩:=h;have hlx:xs.length=env.length:=by rw[← hx,List.length_map]
 obtain⟨ra,rc,rfl⟩:=zF hrow;rw[hlx] at hrow |-;rcases hr with rfl|⟨j,e,he,hok,hj,hk⟩
 ·have HE:Hid (tK env (0,-1,0)=-1):=rfl;simp only;clear hrow ho hs;generalize tK env (0,-1,0)=m at HE |-;go_enter Tryz.func33,Tryz.ntmps33;go_wp2;go_ret;rw[HE.out];exact⟨rfl,bR _ _⟩
 have hjl:j<env.length:=by
  rw[List.getElem?_eq_some_iff] at he;exact he.1
 obtain⟨x,ex,mx,hek⟩:=zG0 hx hjl;have hxe:e=x.1:=by
  rw[List.getElem?_eq_getElem hjl] at he;rw[← Option.some.inj he,hek]
 subst hxe;have hkd:=pJ hok;have h0:r.1≠0:=by
  rcases hk with h|h|h
  ·rw[h.1];omega
  ·rw[h.1];decide
  ·rw[h.1];decide
 have HM:=Ld (mS he hj h0);have hsm:=(hs.2 _ (List.mem_of_getElem? he)).1;have h6:r.1=6->x.1.1.kind=4:=by
  intro h;rcases hk with k|k|k
  ·rw[k.1] at h;omega
  ·rw[k.1] at h;cases h
  ·exact k.2.1
 have HRL:Hid (r.1=6->vX x.1.1=(if xQ [43,122] (vT x.1.1.type)=true then x.1.1.params+1 else x.1.1.params)/\xC x.1.1.type=[115]):=by
  intro h;have h4:=h6 h;have hd:xD x.1.1=true:=(by rw[xD,h4,hok];rfl);refine⟨?_,zG6 h4 hok⟩;rw[vX,iP hd,uB,hd,Bool.true_and]
 have hpar:=xF hok;rw[hj];generalize tK env r=m at HM |-;obtain⟨what,ri,rk⟩:=r;simp only at h0 h6 hk hj HM HRL |-;obtain⟨g,cap,e0,_,hgl⟩:=hrow.form (by omega);cases e0;have a8:=oI hrow hjl hlx ex;have p0:=a8 0 (by decide);have p1:=a8 1 (by decide);have p2:=a8 2 (by decide);have p3:=a8 3 (by decide);have p4:=a8 4 (by decide);have p5:=a8 5 (by decide);have p6:=a8 6 (by decide);have p7:=a8 7 (by decide);have hox:=(ho x mx).1;have s2:=hsm.type;clear a8 ex mx hek he hs hrow ho hk h6 hkd hj hlx hx hsm hok;obtain⟨⟨⟨kd,nm,ps,fl,ty,vl,cs⟩,ls⟩,u,vv⟩:=x;obtain⟨ua,uc,hu⟩:=zF hox;simp only at hu HM HRL s2 hpar;subst hu;simp only[uJ,sv,List.getElem?_cons_zero,List.getElem?_cons_succ,Nat.add_zero,Nat.zero_add] at p0 p1 p2 p3 p4 p5 p6 p7;have t1:=zn j;have t2:(j:Int)<(env.length:Int):=by omega
 have e0:(what==0)=false:=by rw[bF];exact h0
 have ha:=zG w (dC kd nm ps fl ty vl (.slice ua cs.length uc) 52);have HA:=Ld ha;have hX:=yZ (w:=w) (kd:=kd) (ps:=ps) (fl:=fl) (nm:=nm) (ty:=ty) (vl:=vl) (u:=.slice ua cs.length uc);have HX:=Ld hX;obtain⟨c0,c1,c2,c3,c4,c5,c6⟩:=hX _ (bR _ _);clear hox ha hX h0;by_cases h6:what=6;rotate_left
 ·have e6:(what==6)=false:=(by rw[bF];exact h6);have HF:Hid (m=ps):=(by rw[Hid,HM.out,iN h6]);clear HM HRL h6 HX;go_enter Tryz.func33,Tryz.ntmps33;go_wp2;go_ret;rw[HF.out];exact⟨rfl,HA.out⟩
 have e6:(what==6)=true:=by rw[beq_iff_eq];exact h6
 obtain⟨HR1,htk⟩:=HRL.out h6;have HF:Hid (m=(if xQ [43,122] (vT ty)=true then ps+1 else ps)):=by rw[Hid,HM.out,iP h6,HR1]
 have hl2:=zR1 htk;have zty:=zO ty;have hsl:(⟨ty.toArray⟩:ByteArray).extract 1 (ty.length - 1)=⟨(vT ty).toArray⟩:=by
  have h1:=nA (⟨ty.toArray⟩:ByteArray) 1 (ty.length - 1);unfold sv at h1;injection h1 with h1
 have hli:(vT ty).length<=ty.length:=by unfold vT;simp;omega
 have f2:=Ld fun W=>nF ⟨(vT ty).toArray⟩ W (by rw[zO];unfold maxLen;omega);simp only at f2;have q1:(1:Int)<=(ty.length:Int) - 1:=by omega
 have q2:(ty.length:Int) - 1<=(ty.length:Int):=by omega
 have q3:((ty.length:Int) - 1).toNat=ty.length - 1:=by omega
 clear HM HRL HR1 htk h6;generalize vT ty=li at hsl f2 HF hli;generalize xQ [43,122] li=bb at f2 HF;go_enter Tryz.func33,Tryz.ntmps33;go_wp2_with fail;(with_reducible refine mo (f2.out _) fun w2 hb2=>?_);have HB2:=bt HA.out hb2;clear c0 c1 c2 c3 c4 c5 c6;obtain⟨c0,c1,c2,c3,c4,c5,c6⟩:=HX.out _ hb2;clear hb2 f2 HX;cases bb
 ·have HG:Hid (m=ps):=(by rw[Hid,HF.out];rfl);go_wp2;go_ret;rw[HG.out];exact⟨rfl,HB2.out⟩
 ·have HG:Hid (m=ps+1):=(by rw[Hid,HF.out];rfl);go_wp2;go_ret;rw[HG.out];exact⟨by go_num,HB2.out⟩
end Go.Proofs.YtcaahdjhbmmcnaaGreatDoor
