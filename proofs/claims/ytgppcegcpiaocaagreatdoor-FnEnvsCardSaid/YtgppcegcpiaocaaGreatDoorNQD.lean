/- JCt JRo JArg JSh GUse1 KMin ULeA JLg KLv KRec QNam QFind QMany QSh -/
import Derived.Laws.Cover1
import Derived.Deep.RegionHeld3
import Derived.Test.YtgppcegcpiaocaaGreatDoorNE1
import Derived.Test.YtgppcegcpiaocaaGreatDoorNG2
import Derived.Test.YtgppcegcpiaocaaGreatDoorNG1
import Derived.Test.YtgppcegcpiaocaaGreatDoorNG3
import Derived.Test.YtgppcegcpiaocaaGreatDoorNQB
import Derived.Test.YtgppcegcpiaocaaGreatDoorNP5
set_option maxRecDepth 100000
set_option maxHeartbeats 16000000
set_option linter.unusedSimpArgs false
set_option linter.unusedVariables false
namespace Go.Proofs.YtgppcegcpiaocaaGreatDoor
open Go.ChangeShapes Go.WideShapes Go.ChangeAt Go.RowKit
noncomputable def tF (d:Dc) (k:Nat):List (List UInt8):=xX d.type++xX d.value++(d.ctors.take k).flatMap fun c=>xX c.2
noncomputable def oI (d:Dc):List (List UInt8):=if zJ d=true then (srt (tF d d.ctors.length)).filter fun x=>decide (d.kind≠4\/x≠d.name) else []
theorem gR(d:Dc)(k:Nat):(tF d k).length<=4000+2000*k:=by
 have h1:=rA d.type;have h2:=rA d.value;have h3:∀ l:List Ct,(l.flatMap fun c=>xX c.2).length<=2000*l.length:=by
  intro l
  induction l with
 |nil=>simp
 |cons c l ih =>
   have:=rA c.2;rw[List.flatMap_cons,lA,lC];omega
 have h4:=h3 (d.ctors.take k);have h5:(d.ctors.take k).length<=k:=by rw[List.length_take];omega
 unfold tF;rw[lA,lA];omega
theorem zD8{d:Dc}{k:Nat}(h:k<d.ctors.length):tF d (k+1)=tF d k++xX d.ctors[k].2:=by
 unfold tF;rw[List.take_succ_eq_append_getElem h,List.flatMap_append,← List.append_assoc];simp
theorem qF{d:Dc}(h:zJ d=true):d.ctors.length<=6:=by
 simp only[zJ,Bool.and_eq_true,decide_eq_true_eq] at h;have hk:=h.2.2.2.2;unfold zQ at hk;split at hk
 ·simp only[Bool.and_eq_true,decide_eq_true_eq] at hk;omega
 ·split at hk
  ·simp only[Bool.and_eq_true,decide_eq_true_eq] at hk;omega
  ·split at hk
   ·simp only[xV,Bool.and_eq_true,decide_eq_true_eq] at hk;exact hk.2.2.2.2.1
   ·cases hk
theorem mA{w:World}{o:Oper}{a:Act}{K:Act->World->Prop}{Q:Exit->Act->World->Prop}(s x:Operand)
  (ho:o.op=.call { callee:=.builtin .append,args:=#[s,x],argTypes:=#[26,26] }) {base b2:Nat} {v1 v2:Value} {l1 l2:List (List UInt8)}
  (hs:a.eval s=v1) (hx:a.eval x=v2) (h1:w.ownsRow base 9 1 v1 l1.length (l1.map sv)) (h2:w.ownsRow b2 9 1 v2 l2.length (l2.map sv)) (hn:l1.length+l2.length<=1000000) (hb:base<=w.heap.size)
  (h:∀ v' w',w'.ownsRow base 9 1 v' (l1++l2).length ((l1++l2).map sv)->Below base w w'->K (a.put o.dst v') w'):o.wp Tryz.prog a w K Q:=by
 obtain⟨i0,hi,iz0,iz1,iz2⟩:=info_parts sH;rcases id h2.2 with ⟨e,e0⟩|⟨g,cap,cur,e,hbg,hg,hnc,hm,hsz,ht⟩
 ·have e2:l2=[]:=List.length_eq_zero_iff.1 e0;subst e2;have hK:K (a.put o.dst v1) w:=h _ _ (by simpa using h1) (bR _ _);have hrun:=run_append_owned_none (P:=Tryz.prog) (w:=w) base 26 o.type 9 i0 1 Tryz.underlying26 hi v1 _ _ h1;have hx':=hx.trans e;clear h h1 h2;unfold Oper.wp;simp[execOp,ho,resolve,invoke,builtin,hs,hx',hrun,Result.andThen];exact hK
 ·refine wp_append_own w s x _ ho base 9 i0 _ 1 16 Tryz.underlying26 hi iz0 iz1 iz2 rfl (by decide) v1 _ _ hs h1 ⟨g,0,none⟩ l2.length cap (l2.map sv) (hx.trans e) (by simp) ?_ (yK9 l2) (by simp only[maxLen];omega) (by omega) hb ?_
  ·intro j u hu;obtain⟨hj,rfl⟩:=List.getElem?_eq_some_iff.1 hu;have hj2:j<l2.length:=(by simpa using hj);subst e;rw[add_plain,Nat.zero_add,h2.cellAt j (by omega)];simp[hj2]
  ·intro v' w' h3 h4 _;refine h v' w' ?_ ((bR base w).grown h4 hb (fun q hq=>(h1.lt q hq).1));rw[lA,List.map_append];exact h3
theorem dJ{w:World}{ops:Array Oper}{rest:List Oper}{o:Oper}{a:Act}{Q:Exit->Act->World->Prop}(hgd:o.guard=none)(s x:Operand)
  (ho:o.op=.call { callee:=.builtin .append,args:=#[s,x],argTypes:=#[26,26] }) {base b2:Nat} {v1 v2:Value} {l1 l2:List (List UInt8)}
  (hs:a.eval s=v1) (hx:a.eval x=v2) (h1:w.ownsRow base 9 1 v1 l1.length (l1.map sv)) (h2:w.ownsRow b2 9 1 v2 l2.length (l2.map sv)) (hn:l1.length+l2.length<=1000000) (hb:base<=w.heap.size)
  (h:∀ v' w',w'.ownsRow base 9 1 v' (l1++l2).length ((l1++l2).map sv)->Below base w w'->wpList Tryz.prog ops Q rest (a.put o.dst v') w'):wpList Tryz.prog ops Q (o::rest) a w :=
 wpList_plain hgd fun _ hK=>mA s x ho hs hx h1 h2 hn hb fun v' w' h3 h4=>hK _ _ (h v' w' h3 h4)
theorem oJ{w:World}{ops:Array Oper}{o:Oper}{a:Act}{K:Act->World->Prop}{Q:Exit->Act->World->Prop}{E:Prop}(hgd:o.guard=none)(s x:Operand)
  (ho:o.op=.call { callee:=.builtin .append,args:=#[s,x],argTypes:=#[26,26] }) {base b2:Nat} {v1 v2:Value} {l1 l2:List (List UInt8)}
  (hs:a.eval s=v1) (hx:a.eval x=v2) (h1:w.ownsRow base 9 1 v1 l1.length (l1.map sv)) (h2:w.ownsRow b2 9 1 v2 l2.length (l2.map sv)) (hn:l1.length+l2.length<=1000000) (hb:base<=w.heap.size)
  (h:∀ v' w',w'.ownsRow base 9 1 v' (l1++l2).length ((l1++l2).map sv)->Below base w w'->K (a.put o.dst v') w'):if Region.wanted o (yielded ops a.tmps)=true then Oper.wp Tryz.prog o a w K Q else E:=by
 have hw:Region.wanted o (yielded ops a.tmps)=true:=by simp[Region.wanted,hgd]
 rw[iP hw];exact mA s x ho hs hx h1 h2 hn hb h
theorem gZ{w:World}{b:Nat}{v:Value}{l:List (List UInt8)}(h:w.ownsRow b 9 1 v l.length (l.map sv))(hl:l.length<=1000000) :
  Calls Tryz.prog 20 #[v] w (nZ (srt l) w):=by
 by_cases hv:v=.slice none 0 0
 ·subst hv;have e0:l=[]:=by
   rcases id h.2 with ⟨_,e0⟩|⟨g,cap,cur,e,_⟩
   ·exact List.length_eq_zero_iff.1 e0
   ·cases e
  subst e0;have HR:Hid (srt ([]:List (List UInt8))=[]):=sK (by decide);clear h hl;go_enter Tryz.func20,Tryz.ntmps20;obtain⟨i0,hi,iz0,iz1,iz2⟩:=info_parts sH;go_wp2_with (at_builtin;refine wpList_append_own_none rfl _ _ 26 rfl w.heap.size 9 i0 1 Tryz.underlying26 hi _ 0 [] rfl (World.ownsRow_lit w #[] 0 (nR _) (by decide) (by simp)) rfl ?_);go_ret;rw[HR.out];exact⟨_,rfl,World.ownsRow_lit w #[] 0 (nR _) (by decide) (by simp),(bR _ _).alloc (nR _) _⟩
 ·exact cP l.length l (nR _) (by omega) w v (gL h hv)
theorem gP(n:Int):(vH n).length<=30:=by
 unfold vH;split
 ·exact yG6 _ (by omega)
 ·simp
theorem yE0{d:Dc}{k:Int}(h:isCtor d k=true):d.ctors.length<=6:=by
 have h1:=(pG h).2.2;simp only[xQ,Bool.and_eq_true] at h1;exact qF h1.2
theorem zA9{d:Dc}{k:Int}(h:isCtor d k=true):0<=d.params/\d.params<=3:=by
 have h1:=(pG h).2.2;simp only[xQ,Bool.and_eq_true] at h1;exact vD h1.2
theorem lN{d:Dc}{k:Int}(h:xS d k=true):isCtor d k=true:=by
 simp only[xS,Bool.and_eq_true] at h;exact h.1
theorem zQ2{d:Dc}{n k:Nat}(h:k<n)(hm:yD d (k:Int)=none):tR d (n - k) k=none:=by
 obtain⟨m,hm1⟩:∃ m,n - k=m+1:=⟨n - k - 1,by omega⟩;rw[hm1,tR,hm]
theorem zQ1{d:Dc}{n k:Nat}{t:List UInt8}(h:k<n)(hm:yD d (k:Int)=some t):tR d (n - k) k=(tR d (n - (k+1)) (k+1)).map (t::·):=by
 obtain⟨m,hm1⟩:∃ m,n - k=m+1:=⟨n - k - 1,by omega⟩;rw[hm1,tR,hm,show n - (k+1)=m by omega];simp only;cases tR d m (k+1)<;>rfl
theorem yC4{d:Dc}{n:Nat}:tR d (n - n) n=some []:=by rw[Nat.sub_self,tR]
theorem zI3{d:Dc}(h:xQ d=true):(zR d).length<=1000/\(yM d).length<=1000/\d.ctors.length<=6:=by
 have hd:=h;simp only[xQ,Bool.and_eq_true] at hd;have h6:=qF hd.2;obtain⟨p0,p3⟩:=vD hd.2;have hn:d.name.length<=40:=by
  have h2:=hd.2;simp only[zJ,Bool.and_eq_true] at h2;exact vZ h2.1
 refine⟨?_,?_,h6⟩
 ·have hl:=pT (n:=d.params.toNat) (by omega);unfold zR;rw[iP hd.2];simp only[Tm.bytes,lC,lA,List.length_nil];omega
 ·unfold yM;obtain⟨q,hq⟩:∃ q:Nat,d.params=(q:Int):=⟨d.params.toNat,by omega⟩;rw[hq,Lib.itoa_nonneg];have:=tY (u:=q) (by omega);rw[iP h];split
  ·simp only[lC,lA,List.length_nil];omega
  ·decide
theorem yJ5(nm:List UInt8):(⟨nm.toArray⟩:ByteArray)++⟨#[46,114,101,99]⟩=⟨(nm++46::sD).toArray⟩:=by
 apply ByteArray.ext;simp[sD]
theorem yI1{w:World}{d:Dc}{b:Nat}{u:Value}(h:w.ownsRow b 75 2 u d.ctors.length (xM d.ctors))(hs:d.Small)(n:List UInt8)(hn:n.length<=281474976710656) :
  Rt 117 #[d.val u,.string ⟨n.toArray⟩] w (.int .i64 (yL d n)):=by
 have H1:=Ld fun h=>zP6 (d:=d) (n:=n) h;have H2:=Ld fun h k hk h1 h0=>zG0 (d:=d) (n:=n) h (k:=k) hk h1 h0;have H3:=Ld fun h h0=>zP5 (d:=d) (n:=n) h h0;generalize yL d n=r at H1 H2 H3 |-;obtain⟨kd,nm,ps,fl,ty,vl,cs⟩:=d;obtain⟨ua,uc,rfl⟩:=zK h;have HB0:=Ld (zE w (dC kd nm ps fl ty vl (.slice ua cs.length uc) 37));have HR:=Ld (zA h HB0.out);have hval:=gG kd nm ps fl ty vl cs (.slice ua cs.length uc);rw[hval];have s1:=hs.name;have s4:=hs.ctors;simp only at H1 H2 H3 HR s1 s4;have zq:=yB n;have znm:=yB nm;obtain⟨c0,c1,c2,c3,c4,c5,c6⟩:=xG (w:=w) (kd:=kd) (ps:=ps) (fl:=fl) (nm:=nm) (ty:=ty) (vl:=vl) (u:=.slice ua cs.length uc) _ (bR _ _);clear h hval hs;by_cases hq:nm=n
 ·subst hq;have e1:(nm==nm)=true:=(by rw[beq_iff_eq]);have HF:=Ld (H1.out rfl);clear H1 H2 H3 HR;go_enter Tryz.func117,Tryz.ntmps117;go_wp2;go_ret;rw[HF.out];exact⟨rfl,HB0.out⟩
 have e1:(nm==n)=false:=by rw[bF];exact hq
 have HQ:=Ld hq;clear hq H1;go_enter Tryz.func117,Tryz.ntmps117;go_wp2;go_loopw [5] (fun i wr=>∃ k:Nat,k<=cs.length/\i=.int .i64 k/\wr=w.alloc (dC kd nm ps fl ty vl (.slice ua cs.length uc) 37)/\Hid (∀ j (hj:j<cs.length),j<k->cs[j].1≠n)) (fun i _=>cs.length - (intOf i).toNat)
 case atStart=>exact⟨0,Nat.zero_le _,rfl,rfl,fun j _ hj=>by omega⟩
 case round =>
  obtain⟨k,hk,rfl,rfl,HN⟩:=hrel;by_cases hlt:k<cs.length
  ·obtain⟨g,cap',e0,_,hgl⟩:=HR.out.form (by omega);cases e0;obtain⟨fa,fb⟩:=sZ hlt;have x1:=(HR.out.cellAt (k*2) (by omega)).trans fa;unfold sv at x1;have q1:=zn k;have q2:(k:Int)<(cs.length:Int):=(by omega);by_cases hx:cs[k].1=n
   ·have HF:=Ld (H2.out HQ.out k hlt hx HN.out);have e2:(cs[k].1==n)=true:=(by rw[beq_iff_eq];exact hx);clear fa fb HN hx H2 H3 HR;generalize cs[k].1=y at x1 e2;go_wp2;go_ret;rw[HF.out];exact⟨by go_num,HB0.out⟩
   ·have HN2:Hid (∀ j (hj:j<cs.length),j<k+1->cs[j].1≠n):=fun j hj hjk=>if e:j=k then by subst e;exact hx else HN.out j hj (by omega)
    have e2:(cs[k].1==n)=false:=(by rw[bF];exact hx);clear fa fb HN hx H2 H3 HR;generalize cs[k].1=y at x1 e2;go_wp2;go_roundw
    case rel=>exact⟨k+1,by omega,by go_num,trivial,HN2.out⟩
    case measure=>simp[intOf];omega
  ·have HF:=Ld (H3.out HQ.out fun j hj=>HN.out j hj (by omega));have hrt:=yJ5 nm;clear HN H2 H3 HR;by_cases k4:kd=4;rotate_left
   ·have b4:(kd==4)=false:=(by rw[bF];exact k4);have HG:Hid (r=-1):=(by rw[Hid,HF.out,iN (fun h=>k4 h.1)]);clear HF k4;go_wp2;go_ret;rw[HG.out];exact⟨rfl,HB0.out⟩
   subst k4;by_cases hl:n.length=nm.length+4;rotate_left
   ·have e3:((n.length:Int)==(nm.length:Int)+4)=false:=(by rw[bF];omega);have HG:Hid (r=-1):=by
     rw[Hid,HF.out,iN];rintro ⟨_,h⟩;have:=congrArg List.length h;simp[sD] at this;omega
    clear HF hl;go_wp2;go_ret;rw[HG.out];exact⟨rfl,HB0.out⟩
   have e3:((n.length:Int)==(nm.length:Int)+4)=true:=(by rw[beq_iff_eq];omega);obtain⟨rn,hrn⟩:∃ rn,nm++46::sD=rn:=⟨_,rfl⟩;rw[hrn] at hrt HF;have zr:nm.length+4<=281474976710656:=(by omega);clear hl hrn;by_cases hr:rn=n
   ·have e4:(rn==n)=true:=(by rw[beq_iff_eq];exact hr);have HG:Hid (r=(cs.length:Int)+1):=(by rw[Hid,HF.out,iP ⟨rfl,hr⟩]);clear HF hr;go_wp2;go_ret;rw[HG.out];exact⟨by go_num,HB0.out⟩
   ·have e4:(rn==n)=false:=(by rw[bF];exact hr);have HG:Hid (r=-1):=(by rw[Hid,HF.out,iN (fun h=>hr h.2)]);clear HF hr;go_wp2;go_ret;rw[HG.out];exact⟨rfl,HB0.out⟩
def uD (r:Int × Int × Int):Value:=.tuple #[.int .i64 r.1,.int .i64 r.2.1,.int .i64 r.2.2]
theorem yI7{w:World}{B:Nat}{v:Value}{env:List En}(h:uL w B v env)(hs:vE env)(oa:Option Addr)(oc:Nat)(n:List UInt8)(hn:n.length<=281474976710656) :
  Rt 71 #[v,.slice oa 0 oc,.string ⟨n.toArray⟩] w (uD (yC env n)):=by
 obtain⟨xs,hx,hr,ho⟩:=h;have hlx:xs.length=env.length:=by rw[← hx,List.length_map]
 obtain⟨ra,rc,rfl⟩:=zK hr;rw[hlx] at hr |-;have HAT:=Ld fun (k:Nat) (hk:k<env.length)=>zL1 hx hk;have HS:=Ld hs.2;have hlen:=hs.1;have HR:=Ld hr;have HO:=Ld ho;have HSK:=Ld fun (k:Nat) (hk:k<env.length) h=>yE7 (n:=n) hk h;have HHT:=Ld fun (k:Nat) (hk:k<env.length) h=>yP5 (n:=n) hk h;have HEN:=Ld fun (k:Nat) (hk:env.length<=k)=>yP6 (n:=n) hk;have HL:=Ld hlx;obtain⟨rr,hrr⟩:∃ rr,yC env n=rr:=⟨_,rfl⟩;have HF0:Hid (rr=qN n (env.drop 0) 0):=by rw[Hid,← hrr,List.drop_zero];rfl
 rw[hrr];clear hr ho hx hlx hs hrr;go_enter Tryz.func71,Tryz.ntmps71;go_wp2;go_loopw [9] (fun i wr=>∃ k:Nat,k<=env.length/\i=.int .i64 k/\Hid (Below w.heap.size w wr)/\Hid (rr=qN n (env.drop k) k)) (fun i _=>env.length - (intOf i).toNat)
 case atStart=>exact⟨0,Nat.zero_le _,rfl,bR _ _,HF0.out⟩
 case round =>
  obtain⟨k,hk,rfl,HW,HFk⟩:=hrel;clear HF0;have hz:=HW.out.size;by_cases hlt:k<env.length;rotate_left
  ·have HF:Hid (rr=(0,-1,0)):=(by rw[Hid,HFk.out];exact HEN.out k (by omega));clear HAT HS HR HO HSK HHT HEN HL HFk;go_wp2;refine bodyPost_ret (v:=uD rr) (by rw[HF.out];simp[results,go_sem,uD]) rfl ⟨rfl,HW.out⟩
  obtain⟨x,ex,mx,hek⟩:=HAT.out k hlt;have hsm:=HS.out _ (List.getElem_mem hlt);have HSk:=Ld (HSK.out k hlt);have HHk:=Ld (HHT.out k hlt);rw[hek] at hsm HSk HHk;obtain⟨g,cap,e0,_,hgl⟩:=HR.out.form (by omega);cases e0;have a8:=nH (zA HR.out HW.out) hlt HL.out ex;have p0:=a8 0 (by decide);have p1:=a8 1 (by decide);have p2:=a8 2 (by decide);have p3:=a8 3 (by decide);have p4:=a8 4 (by decide);have p5:=a8 5 (by decide);have p6:=a8 6 (by decide);have p7:=a8 7 (by decide);have hox:=((HO.out x mx).below HW.out).1;have hnm:=yC1 x.1.1 n;have f1:=Ld (yI1 hox hsm.1 n hn);have F2:=Ld fun (W:World) (hW:Below wr.heap.size wr W)=>nQ (zA hox hW) hsm.1;have s4:=hsm.1.ctors;clear a8 ex mx hek HAT HS HR HO HSK HHT HEN HL;generalize yL x.1.1 n=z at f1 HSk HHk hnm;obtain⟨⟨⟨kd,nm,ps,fl,ty,vl,cs⟩,ls⟩,u,vv⟩:=x;obtain⟨ua,uc,hu⟩:=zK hox;simp only at hu s4 hnm;subst hu;have hval:=gG kd nm ps fl ty vl cs (.slice ua cs.length uc);simp only[hval] at f1 F2;simp only at HSk HHk;simp only[rT,sv,List.getElem?_cons_zero,List.getElem?_cons_succ,Nat.add_zero,Nat.zero_add] at p0 p1 p2 p3 p4 p5 p6 p7;have t1:=zn k;have t2:(k:Int)<(env.length:Int):=(by omega);have e0:((0:Int)==(env.length:Int))=false:=(by rw[bF];omega);have e0n:((0:Int) != (env.length:Int))=true:=(by rw[bne,e0];rfl);have hgw:g<wr.heap.size:=Nat.lt_of_lt_of_le hgl hz
  have HPX:Hid (∀ W,Below wr.heap.size wr W->W.cell? ⟨g,k*8,none⟩=some (.int .i64 kd)/\W.cell? ⟨g,k*8+1,none⟩=some (.string ⟨nm.toArray⟩)/\W.cell? ⟨g,k*8+2,none⟩=some (.int .i64 ps)/\W.cell? ⟨g,k*8+3,none⟩=some (.int .i64 fl)/\W.cell? ⟨g,k*8+4,none⟩=some (.string ⟨ty.toArray⟩)/\W.cell? ⟨g,k*8+5,none⟩=some (.string ⟨vl.toArray⟩)/\W.cell? ⟨g,k*8+6,none⟩=some (.slice ua cs.length uc)):=fun W hW=>⟨(hW.cell (p:=⟨g,k*8,none⟩) hgw).trans p0,(hW.cell (p:=⟨g,k*8+1,none⟩) hgw).trans p1,(hW.cell (p:=⟨g,k*8+2,none⟩) hgw).trans p2,(hW.cell (p:=⟨g,k*8+3,none⟩) hgw).trans p3,(hW.cell (p:=⟨g,k*8+4,none⟩) hgw).trans p4,(hW.cell (p:=⟨g,k*8+5,none⟩) hgw).trans p5,(hW.cell (p:=⟨g,k*8+6,none⟩) hgw).trans p6⟩;clear hox hsm hval;go_wp2_with fail;(with_reducible refine mo f1.out fun w1 hb1=>?_);have HW1:=Ld (HW.out.trans (hb1.mono hz));have f2:=Ld (F2.out w1 hb1);have HB1:=Ld hb1;clear p0 p1 p2 p3 p4 p5 p6 p7 f1 F2 hb1;obtain⟨p0,p1,p2,p3,p4,p5,p6⟩:=HPX.out _ HB1.out;by_cases hz0:z<0
  ·have d1:decide (z<0)=true:=dT hz0;have HFN:Hid (rr=qN n (env.drop (k+1)) (k+1)):=(by rw[Hid,HFk.out];exact HSk.out (fun h=>by omega));clear f2 HPX HSk HHk HFk;go_wp2;go_roundw
   case rel=>exact⟨k+1,by omega,by go_num,HW1.out,HFN.out⟩
   case measure=>simp[intOf];omega
  have d1:decide (z<0)=false:=dF hz0;go_wp2_with fail;(with_reducible refine mo f2.out fun w2 hb2=>?_);have HW2:=bt HW1.out hb2;have HB2:=bt HB1.out hb2;clear p0 p1 p2 p3 p4 p5 p6 hb2 f2;obtain⟨p0,p1,p2,p3,p4,p5,p6⟩:=HPX.out _ HB2.out;clear HPX;generalize hdk:zJ ⟨kd,nm,ps,fl,ty,vl,cs⟩=ok at HSk HHk |-;clear hdk;cases ok
  ·have HFN:Hid (rr=qN n (env.drop (k+1)) (k+1)):=(by rw[Hid,HFk.out];exact HSk.out (fun h=>by cases h.2));clear HSk HHk HFk;go_wp2;go_roundw
   case rel=>exact⟨k+1,by omega,by go_num,HW2.out,HFN.out⟩
   case measure=>simp[intOf];omega
  have HFk2:=Ld (HFk.out.trans (HHk.out ⟨by omega,rfl⟩));clear HSk HHk HFk;by_cases hz1:z=0
  ·have e1:(z==0)=true:=(by rw[beq_iff_eq];exact hz1);have HF:Hid (rr=(kd,(k:Int),0)):=(by rw[Hid,HFk2.out,iP hz1]);clear hz0 hz1 HFk2;go_wp2;refine bodyPost_ret (v:=uD rr) (by rw[HF.out];simp[results,go_sem,uD]) rfl ⟨rfl,HW2.out⟩
  have e1:(z==0)=false:=(by rw[bF];exact hz1);by_cases hz2:z - 1<(cs.length:Int)
  ·have d2:decide (z - 1<(cs.length:Int))=true:=dT hz2;have HF:Hid (rr=(5,(k:Int),z - 1)):=(by rw[Hid,HFk2.out,iN hz1,iP hz2]);clear HFk2;go_wp2;refine bodyPost_ret (v:=uD rr) (by rw[HF.out];simp[results,go_sem,uD]) rfl ⟨rfl,HW2.out⟩
  ·have d2:decide (z - 1<(cs.length:Int))=false:=dF hz2;have HF:Hid (rr=(6,(k:Int),0)):=(by rw[Hid,HFk2.out,iN hz1,iN hz2]);clear HFk2;go_wp2;refine bodyPost_ret (v:=uD rr) (by rw[HF.out];simp[results,go_sem,uD]) rfl ⟨rfl,HW2.out⟩
theorem zO4{w:World}{B:Nat}{v:Value}{env:List En}(h:uL w B v env)(hs:vE env)(n:List UInt8)(hn:n.length<=281474976710656) :
  Rt 45 #[v,.string ⟨n.toArray⟩] w (uD (yC env n)):=by
 have ha:=zE w (.cells #[] 4);have f1:=Ld (yI7 (h.below ha) hs (some ⟨w.heap.size,0,none⟩) 0 n hn);have HA:=Ld ha;have hv:∃ a c,v=.slice a env.length c:=by
  obtain⟨xs,hx,hr,_⟩:=h;obtain⟨ra,rc,rfl⟩:=zK hr;exact⟨ra,rc,by rw[← hx,List.length_map]⟩
 obtain⟨ra,rc,rfl⟩:=hv;clear h hs ha;obtain⟨⟨r0,r1,r2⟩,hrr⟩:∃ rr,yC env n=rr:=⟨_,rfl⟩;rw[hrr] at f1 |-;unfold uD at f1 |-;clear hrr;simp only at f1 |-;go_enter Tryz.func45,Tryz.ntmps45;go_wp2_with fail;(with_reducible refine mo f1.out fun w1 hb1=>?_);have HB1:=bt HA.out hb1;clear hb1 f1;go_wp2;exact bodyPost_ret (by simp[results,go_sem]) rfl ⟨rfl,HB1.out⟩
theorem oC{d:Dc}(h:zJ d=true):1<=d.kind/\d.kind<=4:=by
 simp only[zJ,zQ,Bool.and_eq_true,decide_eq_true_eq] at h;have h1:=h.2.2.2.2;split at h1
 ·omega
 ·split at h1
  ·omega
  ·split at h1
   ·omega
   ·cases h1
def zN0 (env:List En) (r:Int × Int × Int):Prop :=
 r=(0,-1,0)\/∃ (j:Nat) (e:En),env[j]?=some e/\zJ e.1=true/\r.2.1=(j:Int)/\((r.1=e.1.kind/\r.2.2=0)\/(r.1=5/\∃ k:Nat,k<e.1.ctors.length/\r.2.2=(k:Int))\/(r.1=6/\e.1.kind=4/\r.2.2=0))
theorem found_P(n:List UInt8)(env:List En):∀ (es:List En) (i:Nat),env.drop i=es->zN0 env (qN n es i):=by
 intro es
 induction es with
|nil=>intro i _;exact .inl rfl
|cons e es ih =>
  intro i hd;have he:env[i]?=some e:=by
   have:=congrArg (fun l=>l[0]?) hd;simpa using this
  have hn:env.drop (i+1)=es:=by
   rw[← List.drop_drop,hd];rfl
  rw[qN];by_cases h:0<=yL e.1 n/\zJ e.1=true;rotate_left
  ·rw[iN h];exact ih (i+1) hn
  ·rw[iP h];refine .inr ⟨i,e,he,h.2,?_⟩;by_cases h0:yL e.1 n=0
   ·rw[iP h0];exact⟨rfl,.inl ⟨rfl,rfl⟩⟩
   ·rw[iN h0];by_cases h1:yL e.1 n - 1<(e.1.ctors.length:Int)
    ·rw[iP h1];exact⟨rfl,.inr (.inl ⟨rfl,(yL e.1 n - 1).toNat,by omega,by show yL e.1 n - 1=_;omega⟩)⟩
    ·rw[iN h1];refine⟨rfl,.inr (.inr ⟨rfl,?_,rfl⟩)⟩;unfold yL at h0 h1 h;split at h1
     ·omega
     ·rename_i hq;rw[iN hq] at h0 h;split at h1
      ·rename_i k hk;rw[List.findIdx?_eq_some_iff_getElem] at hk;obtain⟨hk,_⟩:=hk;omega
      ·split at h1
       ·rename_i h4;exact h4.1
       ·omega
theorem kH(env:List En)(n:List UInt8):zN0 env (yC env n):=found_P n env env 0 (by rw[List.drop_zero])
noncomputable def vW (env:List En) (r:Int × Int × Int):Int:=if r.1=0 then -1 else match env[r.2.1.toNat]? with
|some e=>if r.1=6 then yU e.1 else e.1.params
|none=>0
noncomputable def uN (env:List En) (n:List UInt8):Int:=vW env (yC env n)
theorem lX{env:List En}{r:Int × Int × Int}{j:Nat}{e:En}(he:env[j]?=some e)(hj:r.2.1=(j:Int))(h0:r.1≠0):vW env r=if r.1=6 then yU e.1 else e.1.params:=by
 unfold vW;rw[iN h0,hj,Int.toNat_natCast,he]
theorem xT:∀ (t:Tm) (x:List UInt8),x∈t.cnames->x.length<=t.bytes.length
|.var _,x,h=>by simp[Tm.cnames] at h
|.sort _,x,h=>by simp[Tm.cnames] at h
|.const n ls,x,h=>by
  simp only[Tm.cnames,List.mem_cons,List.not_mem_nil,or_false] at h;subst h;simp only[Tm.bytes,lC,lA];omega
|.app a b,x,h=>by
  simp only[Tm.cnames,List.mem_append] at h;simp only[Tm.bytes,lC,lA];rcases h with h|h
  ·have:=xT a x h;omega
  ·have:=xT b x h;omega
|.lam a b,x,h=>by
  simp only[Tm.cnames,List.mem_append] at h;simp only[Tm.bytes,lC,lA];rcases h with h|h
  ·have:=xT a x h;omega
  ·have:=xT b x h;omega
|.pi a b,x,h=>by
  simp only[Tm.cnames,List.mem_append] at h;simp only[Tm.bytes,lC,lA];rcases h with h|h
  ·have:=xT a x h;omega
  ·have:=xT b x h;omega
|.lett a b c,x,h=>by
  simp only[Tm.cnames,List.mem_append] at h;simp only[Tm.bytes,lC,lA];rcases h with (h|h)|h
  ·have:=xT a x h;omega
  ·have:=xT b x h;omega
  ·have:=xT c x h;omega
theorem pL(l:List UInt8):∀ x∈xX l,x.length<=1048576:=by
 intro x hx;unfold xX at hx;cases h:vN l with
|none=>rw[h] at hx;cases hx
|some t =>
  rw[h] at hx;have ht:=vS h;have h1:=xT t x ((srt_spec _ t.cnames (nR _)).2.1 x |>.1 hx);have h2:=ht.2.2;rw[← ht.2.1] at h2;omega
theorem dP(d:Dc)(k:Nat):∀ x∈tF d k,x.length<=1048576:=by
 intro x hx;unfold tF at hx;rw[List.mem_append,List.mem_append] at hx;rcases hx with (hx|hx)|hx
 ·exact pL _ x hx
 ·exact pL _ x hx
 ·obtain⟨c,_,hc⟩:=List.mem_flatMap.1 hx;exact pL _ x hc
theorem aA(d:Dc):∀ x∈oI d,x.length<=1048576:=by
 intro x hx;unfold oI at hx;split at hx
 ·have h1:=(List.mem_filter.1 hx).1;exact dP d _ x ((srt_spec _ (tF d d.ctors.length) (nR _)).2.1 x |>.1 h1)
 ·cases hx
theorem gQ(d:Dc):(oI d).length<=20000:=by
 unfold oI;split
 ·rename_i h;have h6:=qF h;have h1:=gR d d.ctors.length;have h2:=(srt_spec _ (tF d d.ctors.length) (nR _)).2.2;exact Nat.le_trans (List.length_filter_le _ _) (by omega)
 ·simp
end Go.Proofs.YtgppcegcpiaocaaGreatDoor
