/- GUse1 KMin KLv KRec -/
import Derived.Deep.RegionHeld3
import Derived.Test.YtcaahdjhbmmcnaaGreatDoorTG3
import Derived.Test.YtcaahdjhbmmcnaaGreatDoorTE1
import Derived.Test.YtcaahdjhbmmcnaaGreatDoorTKA
import Derived.Test.YtcaahdjhbmmcnaaGreatDoorTJ1
import Derived.Test.YtcaahdjhbmmcnaaGreatDoorTG2
set_option maxRecDepth 100000
set_option maxHeartbeats 16000000
set_option linter.unusedSimpArgs false
set_option linter.unusedVariables false
namespace Go.Proofs.YtcaahdjhbmmcnaaGreatDoor
open Go.ChangeShapes Go.WideShapes Go.ChangeAt Go.RowKit
theorem jB{d:Dc}(h:zT d=true):d.ctors.length<=6:=by
 simp only[zT,Bool.and_eq_true,decide_eq_true_eq] at h;have hk:=h.2.2.2.2;unfold vH at hk;split at hk
 ·simp only[Bool.and_eq_true,decide_eq_true_eq] at hk;omega
 ·split at hk
  ·simp only[Bool.and_eq_true,decide_eq_true_eq] at hk;omega
  ·split at hk
   ·simp only[vI,Bool.and_eq_true,decide_eq_true_eq] at hk;exact hk.2.2.2.2.1
   ·cases hk
theorem fI{w:World}{o:Oper}{a:Act}{K:Act->World->Prop}{Q:Exit->Act->World->Prop}(s x:Operand)
  (ho:o.op=.call { callee:=.builtin .append,args:=#[s,x],argTypes:=#[31,31] }) {base b2:Nat} {v1 v2:Value} {l1 l2:List (List UInt8)}
  (hs:a.eval s=v1) (hx:a.eval x=v2) (h1:w.ownsRow base 9 1 v1 l1.length (l1.map sv)) (h2:w.ownsRow b2 9 1 v2 l2.length (l2.map sv)) (hn:l1.length+l2.length<=1000000) (hb:base<=w.heap.size)
  (h:∀ v' w',w'.ownsRow base 9 1 v' (l1++l2).length ((l1++l2).map sv)->Below base w w'->K (a.put o.dst v') w'):o.wp Tryz.prog a w K Q:=by
 obtain⟨i0,hi,iz0,iz1,iz2⟩:=info_parts tF;rcases id h2.2 with ⟨e,e0⟩|⟨g,cap,cur,e,hbg,hg,hnc,hm,hsz,ht⟩
 ·have e2:l2=[]:=List.length_eq_zero_iff.1 e0;subst e2;have hK:K (a.put o.dst v1) w:=h _ _ (by simpa using h1) (bR _ _);have hrun:=run_append_owned_none (P:=Tryz.prog) (w:=w) base 31 o.type 9 i0 1 Tryz.underlying31 hi v1 _ _ h1;have hx':=hx.trans e;clear h h1 h2;unfold Oper.wp;simp[execOp,ho,resolve,invoke,builtin,hs,hx',hrun,Result.andThen];exact hK
 ·refine wp_append_own w s x _ ho base 9 i0 _ 1 16 Tryz.underlying31 hi iz0 iz1 iz2 rfl (by decide) v1 _ _ hs h1 ⟨g,0,none⟩ l2.length cap (l2.map sv) (hx.trans e) (by simp) ?_ (yF1 l2) (by simp only[maxLen];omega) (by omega) hb ?_
  ·intro j u hu;obtain⟨hj,rfl⟩:=List.getElem?_eq_some_iff.1 hu;have hj2:j<l2.length:=(by simpa using hj);subst e;rw[add_plain,Nat.zero_add,h2.cellAt j (by omega)];simp[hj2]
  ·intro v' w' h3 h4 _;refine h v' w' ?_ ((bR base w).grown h4 hb (fun q hq=>(h1.lt q hq).1));rw[lA,List.map_append];exact h3
theorem zQ2{w:World}{ops:Array Oper}{rest:List Oper}{o:Oper}{a:Act}{Q:Exit->Act->World->Prop}(hgd:o.guard=none)(s x:Operand)
  (ho:o.op=.call { callee:=.builtin .append,args:=#[s,x],argTypes:=#[31,31] }) {base b2:Nat} {v1 v2:Value} {l1 l2:List (List UInt8)}
  (hs:a.eval s=v1) (hx:a.eval x=v2) (h1:w.ownsRow base 9 1 v1 l1.length (l1.map sv)) (h2:w.ownsRow b2 9 1 v2 l2.length (l2.map sv)) (hn:l1.length+l2.length<=1000000) (hb:base<=w.heap.size)
  (h:∀ v' w',w'.ownsRow base 9 1 v' (l1++l2).length ((l1++l2).map sv)->Below base w w'->wpList Tryz.prog ops Q rest (a.put o.dst v') w'):wpList Tryz.prog ops Q (o::rest) a w :=
 wpList_plain hgd fun _ hK=>fI s x ho hs hx h1 h2 hn hb fun v' w' h3 h4=>hK _ _ (h v' w' h3 h4)
theorem yC2(a:UInt8)(x y:List UInt8):(⟨#[a]⟩:ByteArray)++⟨x.toArray⟩++⟨y.toArray⟩=⟨(a::(x++y)).toArray⟩:=by
 apply ByteArray.ext;simp
theorem fW{n q m:Nat}(h:m<n):((xG n q).take (m+1)).map sv=((xG n q).take m).map sv++[sv (yX ((n - 1 - m+q:Nat):Int))]:=by
 have hl:m<(xG n q).length:=by rw[sN];exact h
 rw[List.take_succ_eq_append_getElem hl,List.map_append];simp[xG]
theorem sU(n:Int):(yX n).length<=30:=by
 unfold yX;split
 ·exact nL _ (by omega)
 ·simp
theorem dA{d:Dc}{k:Int}(h:xS d k=true):d.ctors.length<=6:=by
 have h1:=(tE h).2.2;simp only[xD,Bool.and_eq_true] at h1;exact jB h1.2
theorem mV{d:Dc}{k:Int}(h:xS d k=true):0<=d.params/\d.params<=3:=by
 have h1:=(tE h).2.2;simp only[xD,Bool.and_eq_true] at h1;exact xF h1.2
theorem pB{d:Dc}{k:Int}(h:yT d k=true):xS d k=true:=by
 simp only[yT,Bool.and_eq_true] at h;exact h.1
theorem lE{l:List (List UInt8)}{j:Nat}(h:j<l.length):l.drop j=l[j]::l.drop (j+1):=List.drop_eq_getElem_cons h
theorem zB8{k n:Nat}{sh:List UInt8->Int}{l acc:List (List UInt8)}{j q:Nat}(h:j<l.length)(h2:sh l[j]=2):yM k n sh (l.drop j) j q acc=none:=by
 rw[lE h,yM,iP h2]
theorem cS{k n:Nat}{sh:List UInt8->Int}{l acc:List (List UInt8)}{j q:Nat}(h:j<l.length)(h2:sh l[j]≠2)(h1:sh l[j]≠1):yM k n sh (l.drop j) j q acc=yM k n sh (l.drop (j+1)) (j+1) q acc:=by
 rw[lE h,yM,iN h2,iN h1]
theorem cT{k n:Nat}{sh:List UInt8->Int}{l acc:List (List UInt8)}{j q:Nat}(h:j<l.length)(h1:sh l[j]=1)(hs:rN k n j q l[j]=none):yM k n sh (l.drop j) j q acc=none:=by
 rw[lE h,yM,iN (by omega),iP h1,hs]
theorem cR{k n:Nat}{sh:List UInt8->Int}{l acc:List (List UInt8)}{j q:Nat}{st:List UInt8}(h:j<l.length)(h1:sh l[j]=1)(hs:rN k n j q l[j]=some st):yM k n sh (l.drop j) j q acc=yM k n sh (l.drop (j+1)) (j+1) (q+1) (acc++[st]):=by
 rw[lE h,yM,iN (by omega),iP h1,hs]
theorem zB7{k n:Nat}{sh:List UInt8->Int}{l acc:List (List UInt8)}{q:Nat}:yM k n sh (l.drop l.length) l.length q acc=some (acc,q):=by
 rw[List.drop_length,yM]
theorem zJ5{k n j q:Nat}{dm:List UInt8}(h:lifted dm ((n - j+q:Nat):Int) 0=none):rN k n j q dm=none:=by
 unfold rN;rw[h]
theorem zV0{k n j q:Nat}{dm dom:List UInt8}(h:lifted dm ((n - j+q:Nat):Int) 0=some dom)(hg:yK (yX ((n - 1 - j+q+(zJ dom).length:Nat):Int)) (xO (zJ dom).length)=none):rN k n j q dm=none:=by
 unfold rN;rw[h];simp only[hg]
theorem zJ4{k n j q:Nat}{dm dom arg:List UInt8}(h:lifted dm ((n - j+q:Nat):Int) 0=some dom)(hg:yK (yX ((n - 1 - j+q+(zJ dom).length:Nat):Int)) (xO (zJ dom).length)=some arg):rN k n j q dm=zU (zJ dom) (64::((Tm.var (k+n+q+(zJ dom).length)).bytes++arg)):=by
 unfold rN;rw[h];simp only[hg]
theorem dW{w:World}{d:Dc}{b:Nat}{u:Value}(h:w.ownsRow b 88 2 u d.ctors.length (xJ d.ctors))(hs:d.Small)(k:Int) :
  Rt 82 #[d.val u,.int .i64 k] w (yC (yY d k)):=by
 obtain⟨i0,hi,hz0,hz1,hz2⟩:=info_parts tF;have HSh:=Ld fun (W:World) (hW:Below w.heap.size w W)=>aT (zA h hW) hs k;have HRo:=Ld fun (W:World) (hW:Below w.heap.size w W)=>aU (zA h hW) hs k;obtain⟨kd,nm,ps,fl,ty,vl,cs⟩:=d;obtain⟨ua,uc,rfl⟩:=zF h;have HB0:=Ld (zG w (dC kd nm ps fl ty vl (.slice ua cs.length uc) 52));have HROW:=Ld (zA h HB0.out);have hval:=mE kd nm ps fl ty vl cs (.slice ua cs.length uc);simp only[hval] at HSh HRo;rw[hval];have s5:=Ld hs.each;simp only at s5;have HE:Hid (yY ⟨kd,nm,ps,fl,ty,vl,cs⟩ k=if yT ⟨kd,nm,ps,fl,ty,vl,cs⟩ k=true then uM ⟨kd,nm,ps,fl,ty,vl,cs⟩ k.toNat else none):=rfl;have HCt:=Ld (pB (d:=⟨kd,nm,ps,fl,ty,vl,cs⟩) (k:=k));have HX:=Ld (yZ (w:=w) (kd:=kd) (ps:=ps) (fl:=fl) (nm:=nm) (ty:=ty) (vl:=vl) (u:=.slice ua cs.length uc));obtain⟨c0,c1,c2,c3,c4,c5,c6⟩:=HX.out _ (bR _ _);have f1:=Ld (HRo.out _ HB0.out);clear h hval hs HRo;obtain⟨ro,hro⟩:∃ ro,yT ⟨kd,nm,ps,fl,ty,vl,cs⟩ k=ro:=⟨_,rfl⟩;rw[hro] at f1 HE HCt;have HRO:=Ld hro;clear hro;go_enter Tryz.func82,Tryz.ntmps82;go_wp2_with fail;(with_reducible refine mo f1.out fun w1 hb1=>?_);have HX1:=Ld hb1;have HB1:=bt HB0.out hb1;clear c0 c1 c2 c3 c4 c5 c6;obtain⟨c0,c1,c2,c3,c4,c5,c6⟩:=HX.out _ HX1.out;clear hb1 f1;cases ro
 ·have HF:Hid (yY ⟨kd,nm,ps,fl,ty,vl,cs⟩ k=none):=(by rw[Hid,HE.out];rfl);clear HX HROW HSh;go_wp2;go_ret2;rw[HF.out];exact⟨rfl,HB1.out⟩
 have hic:=HCt.out (by trivial);obtain⟨k0,k1,_⟩:=tE hic;have hc6:=dA hic;obtain⟨p0,p3⟩:=mV hic;simp only at k1 hc6 p0 p3;obtain⟨j0,rfl⟩:∃ j:Nat,k=(j:Int):=⟨k.toNat,by omega⟩;obtain⟨np,rfl⟩:∃ np:Nat,ps=(np:Int):=⟨ps.toNat,by omega⟩;have hj:j0<cs.length:=by omega
 have HF:Hid (yY ⟨kd,nm,np,fl,ty,vl,cs⟩ (j0:Int)=uM ⟨kd,nm,np,fl,ty,vl,cs⟩ j0):=by rw[Hid,HE.out];rfl
 have HMA:Hid (uM ⟨kd,nm,np,fl,ty,vl,cs⟩ j0=rT ⟨kd,nm,np,fl,ty,vl,cs⟩ j0 (zJ cs[j0].2).length (yM j0 (zJ cs[j0].2).length (zS (zM ⟨kd,nm,np,fl,ty,vl,cs⟩) nm) (zJ cs[j0].2) 0 0 (zJ cs[j0].2))):=by
  rw[Hid,uM,uQ (d:=⟨kd,nm,np,fl,ty,vl,cs⟩) hj]
 have HSP:Hid (yS ⟨kd,nm,np,fl,ty,vl,cs⟩ (j0:Int)=(zJ cs[j0].2).map (zS (zM ⟨kd,nm,np,fl,ty,vl,cs⟩) nm)):=by
  rw[Hid,yS,iP hic,uQ (d:=⟨kd,nm,np,fl,ty,vl,cs⟩) hj]
 have HEN:Hid (∀ acc q n,rT ⟨kd,nm,np,fl,ty,vl,cs⟩ j0 n (some (acc,q))=match yK (Tm.const cs[j0].1 (zW np)).bytes (xG n q) with
 |none=>none
 |some made=>zU acc (64::((Tm.var (j0+n+q)).bytes++made))):=fun acc q n=>by
  rw[rT,gT (d:=⟨kd,nm,np,fl,ty,vl,cs⟩) hj];rfl
 have HEN0:Hid (∀ n,rT ⟨kd,nm,np,fl,ty,vl,cs⟩ j0 n none=none):=fun n=>rfl;rw[← HF.out] at HMA;generalize zS (zM ⟨kd,nm,np,fl,ty,vl,cs⟩) nm=sh at HMA HSP;obtain⟨MT,hMT⟩:∃ MT,yY ⟨kd,nm,np,fl,ty,vl,cs⟩ (j0:Int)=MT:=⟨_,rfl⟩;rw[hMT] at HMA;have HMT:=Ld hMT;clear hMT;generalize rT ⟨kd,nm,np,fl,ty,vl,cs⟩ j0=ME at HMA HEN HEN0;have hrow:=zA HROW.out HX1.out;obtain⟨g,cap',eg,_,hgl⟩:=hrow.form (by omega);cases eg;obtain⟨fa,fb⟩:=uE hj;have y0:=(hrow.cellAt (j0*2) (by omega)).trans fa;have y1:=(hrow.cellAt (j0*2+1) (by omega)).trans fb;unfold sv at y0 y1;have hel:=s5.out _ (List.getElem_mem hj);have q1:=zn j0;have q2:(j0:Int)<(cs.length:Int):=by omega
 have HY:Hid (∀ W,Below w1.heap.size w1 W->W.cell? ⟨g,j0*2,none⟩=some (.string ⟨cs[j0].1.toArray⟩)):=fun W hW=>(hW.cell (p:=⟨g,j0*2,none⟩) hgl).trans y0;clear fa fb hrow s5 HE HCt hic HF HRO y0;generalize cs[j0]=ck at y1 hel HMA HSP HEN HY;obtain⟨cn,t⟩:=ck;simp only at y1 hel HMA HSP HEN HY;obtain⟨hcn,htl⟩:=hel;have f2:=Ld fun W=>pA ⟨t.toArray⟩ W (by rw[zO];unfold maxLen;omega);simp only at f2;unfold oS at f2;have hln:=vP t;have HSd:=Ld (uC t);generalize zJ t=l at f2 hln HSd HMA HSP;go_wp2_with fail;(with_reducible refine(f2.out _).mono ?_);rintro e w2 ⟨v2,rfl,hv2,hb2⟩;obtain⟨va,vc,rfl⟩:=zF hv2;have HX2:=bt HX1.out hb2;have HB2:=bt HB1.out hb2;have HL2:=Ld hv2;have HY2:Hid (∀ W,Below w2.heap.size w2 W->W.cell? ⟨g,j0*2,none⟩=some (.string ⟨cn.toArray⟩)):=fun W hW=>HY.out W (bu hb2 hW);clear hv2 hb2 f2 c0 c1 c2 c3 c4 c5 c6 y1 hgl HY;obtain⟨c0,c1,c2,c3,c4,c5,c6⟩:=HX.out _ HX2.out;have f3:=Ld (HSh.out _ HB2.out);rw[HSP.out] at f3;unfold xC6 at f3;clear HSh HSP;go_wp2_with fail;(with_reducible refine f3.out.mono ?_);rintro e w3 ⟨v3,rfl,hv3,hb3⟩;rw[List.length_map,List.map_map] at hv3;obtain⟨xa,xc,rfl⟩:=qI hv3;have HX3:=bt HX2.out hb3;have HB3:=bt HB2.out hb3;have HL3:=Ld (zA HL2.out hb3);have HS3:=Ld hv3;have HY3:Hid (∀ W,Below w3.heap.size w3 W->W.cell? ⟨g,j0*2,none⟩=some (.string ⟨cn.toArray⟩)):=fun W hW=>HY2.out W (bu hb3 hW)
 have HXX:Hid (∀ W,Below w3.heap.size w3 W->W.cell? ⟨w.heap.size,0,none⟩=some (.int .i64 kd)/\W.cell? ⟨w.heap.size,1,none⟩=some (.string ⟨nm.toArray⟩)/\W.cell? ⟨w.heap.size,2,none⟩=some (.int .i64 np)/\W.cell? ⟨w.heap.size,3,none⟩=some (.int .i64 fl)/\W.cell? ⟨w.heap.size,4,none⟩=some (.string ⟨ty.toArray⟩)/\W.cell? ⟨w.heap.size,5,none⟩=some (.string ⟨vl.toArray⟩)/\W.cell? ⟨w.heap.size,6,none⟩=some (.slice (some ⟨g,0,none⟩) cs.length uc)):=fun W hW=>HX.out W (bu HX3.out hW);clear hv3 hb3 f3 c0 c1 c2 c3 c4 c5 c6 HL2 HY2 HX HX1 HX2 HX3 HB1 HB2 HROW HB0;have hrow0:=World.ownsRow_lit (base:=w3.heap.size) (e:=9) (size:=1) w3 #[] 0 (nR _) (by decide) (by simp);have hbl0:=(bR w3.heap.size w3).alloc (nR _) (.cells #[] 9);have hL0:=zA HL3.out hbl0;go_wp2_with (at_builtin;refine zQ2 rfl _ _ rfl rfl rfl (l1:=[]) hrow0 hL0 (by simp only[List.length_nil];omega) hbl0.size ?_;intro vA wA hoA hbA);rw[List.nil_append] at hoA;have HA:=Ld hoA;have HWA:=Ld (hbl0.trans hbA);clear hoA hbA hrow0 hbl0 hL0;have HSdl:=Ld HSd.out;obtain⟨R,hR⟩:∃ R,yM j0 l.length sh l 0 0 l=R:=⟨_,rfl⟩;rw[hR] at HMA;have HR0:Hid (yM j0 l.length sh (l.drop 0) 0 0 l=R):=hR;clear hR;go_wp2;go_loopw [9,10,11] (fun q o i wr=>∃ (j qn:Nat) (acc:List (List UInt8)),j<=l.length/\qn<=j/\q=.int .i64 qn/\i=.int .i64 j/\Hid (wr.ownsRow w3.heap.size 9 1 o acc.length (acc.map sv))/\Hid (Below w3.heap.size w3 wr)/\Hid (yM j0 l.length sh (l.drop j) j qn acc=R)/\acc.length<=l.length+qn/\Hid (∀ x∈acc,x.length<=2000)) (fun _ _ i _=>l.length - (intOf i).toNat)
 case atStart=>exact⟨0,0,l,Nat.zero_le _,nR _,rfl,rfl,HA.out,HWA.out,HR0.out,nR _,HSd.out⟩
 case round =>
  obtain⟨j,qn,acc,hj2,hq2,rfl,rfl,HO,HW,HRn,hal,HAs⟩:=hrel;clear HA HWA HR0;have hz:=HW.out.size;have hz3:=HB3.out.size;by_cases hlt:j<l.length;rotate_left
  ·have HRe:Hid (R=some (acc,qn)):=by
    rw[Hid,← HRn.out];obtain rfl:j=l.length:=(by omega);exact zB7
   rw[HRe.out,HEN.out] at HMA;clear HRn HRe HEN HEN0 HSd HSdl;have dl:decide ((j:Int)<(l.length:Int))=false:=dF (by omega);have hrow2:=Ld (World.ownsRow_lit (base:=wr.heap.size) (e:=9) (size:=1) wr #[] 0 (nR _) (by decide) (by simp));have hbl2:=Ld ((bR wr.heap.size wr).alloc (nR _) (.cells #[] 9))
   rename World=>wz
   go_wp2;go_loopw [20,21] (fun ao i wr=>∃ (m:Nat),m<=l.length/\i=.int .i64 m/\Hid (wr.ownsRow wz.heap.size 9 1 ao m (((xG l.length qn).take m).map sv))/\Hid (Below wz.heap.size wz wr)) (fun _ i _=>l.length - (intOf i).toNat)
   case atStart=>exact⟨0,Nat.zero_le _,rfl,hrow2.out,hbl2.out⟩
   case round =>
    obtain⟨m,hm,rfl,HA2,HZ⟩:=hrel;clear hrow2 hbl2;have hzz:=HZ.out.size;by_cases hlm:m<l.length
    ·have HT:=Ld (fW (q:=qn) hlm);have f4:=Ld fun W=>iA (((l.length:Int) - 1 - (m:Int))+(qn:Int)) W;rw[show ((l.length - 1 - m+qn:Nat):Int)=((l.length:Int) - 1 - (m:Int))+(qn:Int) by omega] at HT;have hvl:=sU (((l.length:Int) - 1 - (m:Int))+(qn:Int));generalize yX (((l.length:Int) - 1 - (m:Int))+(qn:Int))=x at f4 HT hvl;clear HMA HXX HY3 HL3 HS3 HO HW HB3;go_wp2_with fail;(with_reducible refine mo (f4.out _) fun w4 hb4=>?_);have HA4:=Ld (zA HA2.out hb4);have HZ4:=Ld (HZ.out.trans (hb4.mono hzz));have hz4:=HZ4.out.size;clear hb4 f4 HA2 HZ;go_wp2_with (at_builtin;refine wpList_append_own _ rfl _ _ 31 rfl wz.heap.size 9 i0 _ 1 16 Tryz.underlying31 hi hz0 hz1 hz2 rfl (by decide) _ _ _ rfl (HA4.out.alloc _) ⟨w4.heap.size,0,none⟩ 1 1 [.string ⟨x.toArray⟩] rfl rfl (yI _ _ _) (by simp[Value.oneCell']) (by simp only[maxLen];omega) (by omega) (by simp;omega) ?_;intro v5 w5 hown hgrow hnil);have HA5:Hid (w5.ownsRow wz.heap.size 9 1 v5 (m+1) (((xG l.length qn).take (m+1)).map sv)):=by
      rw[Hid,HT.out];exact hown
     have HZ5:Hid (Below wz.heap.size wz w5):=(HZ4.out.alloc hz4 _).grown hgrow (by simp;omega) (fun q hq=>(HA4.out.lt q hq).1);clear hown hgrow HT;go_wp2;go_roundw
     case rel=>exact⟨m+1,by omega,by go_num,HA5.out,HZ5.out⟩
     case measure=>simp[intOf];omega
    have d1:decide ((m:Int)<(l.length:Int))=false:=dF (by omega);have HA3:Hid (wr.ownsRow wz.heap.size 9 1 u20 (xG l.length qn).length ((xG l.length qn).map sv)):=by
     have h:=HA2.out;rw[List.take_of_length_le (by rw[sN];omega),show m=l.length by omega] at h;rw[Hid,sN];exact h
    have HBw:=Ld (HW.out.trans (HZ.out.mono hz));have HO4:=Ld (zA HO.out HZ.out);have hzw:=HBw.out.size;have HB4:=Ld (HB3.out.trans (HBw.out.mono HB3.out.size));obtain⟨c0,c1,c2,c3,c4,c5,c6⟩:=HXX.out _ HBw.out;have y0:=HY3.out _ HBw.out;have HK0:=Ld (bR wr.heap.size wr);have hls2:=tB (n:=np) (by omega);have f5:=Ld fun W=>iB (n:=np) W (by omega);unfold oS at f5;have f6:=Ld fun (W:World) (b:Nat) (v:Value) (h:W.ownsRow b 9 1 v (zW np).length ((zW np).map sv))=>iF (⟨cn.toArray⟩:ByteArray) h (by rw[uN];omega) (by rw[zO];omega) (Nat.le_trans hls2 (by decide));simp only at f6;have hkl:(Tm.const cn (zW np)).bytes.length<=2000000:=by
     simp[Tm.bytes];omega
    generalize (Tm.const cn (zW np)).bytes=kb at f6 HMA hkl
    have f7:=Ld fun (W:World) (b:Nat) (v:Value) (h:W.ownsRow b 9 1 v (xG l.length qn).length ((xG l.length qn).map sv))=>aX (⟨kb.toArray⟩:ByteArray) h (by rw[zO];unfold maxLen;omega) (fun x hx=>by
     obtain⟨i,_,rfl⟩:=List.mem_map.1 hx;have:=sU ((l.length - 1 - i+qn:Nat):Int);omega) (by rw[sN];omega)
    simp only at f7;obtain⟨mx,hmo⟩:∃ mx,yK kb (xG l.length qn)=mx:=⟨_,rfl⟩;rw[hmo] at f7 HMA;have hmo:=Ld hmo;clear HW HZ HO HA2 HL3 HS3 HB3;obtain⟨g9,o9,hg9⟩:∃ t o,yC mx=.tuple #[.string t,.bool o]:=by
     rcases mx with _|t
     ·exact⟨_,_,rfl⟩
     ·exact⟨_,_,rfl⟩
    rw[hg9] at f7;go_wp2;go_region_held3 (fun w'=>w'.cell? ⟨g,j0*2,none⟩=some (.string ⟨cn.toArray⟩)/\(w'.cell? ⟨w.heap.size,0,none⟩=some (.int .i64 kd)/\w'.cell? ⟨w.heap.size,1,none⟩=some (.string ⟨nm.toArray⟩)/\w'.cell? ⟨w.heap.size,2,none⟩=some (.int .i64 np)/\w'.cell? ⟨w.heap.size,3,none⟩=some (.int .i64 fl)/\w'.cell? ⟨w.heap.size,4,none⟩=some (.string ⟨ty.toArray⟩)/\w'.cell? ⟨w.heap.size,5,none⟩=some (.string ⟨vl.toArray⟩)/\w'.cell? ⟨w.heap.size,6,none⟩=some (.slice (some ⟨g,0,none⟩) cs.length uc))) (first|exact⟨Y7,X7⟩|exact⟨Y5,X5⟩|exact⟨y0,c0,c1,c2,c3,c4,c5,c6⟩)
     (first|(go_at_call 119;(with_reducible refine(f5.out _).mono ?_);rintro e w5 ⟨v5,rfl,hv5,hb5⟩;have hd5:=HK0.out.drew.trans (hb5.mono HK0.out.drew.size);have X5:=HXX.out _ (HBw.out.trans (hd5.mono hzw));have Y5:=HY3.out _ (HBw.out.trans (hd5.mono hzw)))|(go_at_call 93;(with_reducible refine mo (f6.out _ _ _ hv5) fun w6 e6=>?_);subst e6;have X6:=X5)|(go_at_call 126;(with_reducible refine mo (f7.out _ _ _ (zA HA3.out hd5)) fun w7 hb7=>?_);have hd7:=hd5.trans (hb7.mono hd5.size);have X7:=HXX.out _ (HBw.out.trans (hd7.mono hzw));have Y7:=HY3.out _ (HBw.out.trans (hd7.mono hzw))))
    have HB7:=bt HB4.out hd7;have HO7:=Ld (zA HO4.out hd7);have hz7:=HB7.out.size;clear hd5 hd7 hb5 hb7 hv5 X5 X6 X7 Y5 Y7 f5 f6 f7 HA3 HBw HO4 HK0 HB4 HXX HY3 c0 c1 c2 c3 c4 c5 c6 y0;rcases mx with _|made
    ·have HEQ:Hid (MT=none):=HMA.out;clear HMA;simp only[yC,Value.tuple.injEq] at hg9;simp only[Array.mk.injEq,List.cons.injEq,Value.string.injEq,Value.bool.injEq,and_true] at hg9;obtain⟨rfl,rfl⟩:=hg9;go_wp2;go_ret2;rw[HMT.out,HEQ.out];exact⟨rfl,HB7.out⟩
    have hml:=gI hmo.out;simp only[yC,Value.tuple.injEq] at hg9;simp only[Array.mk.injEq,List.cons.injEq,Value.string.injEq,Value.bool.injEq,and_true] at hg9;obtain⟨rfl,rfl⟩:=hg9;have f9:=Ld fun W=>qX (j0+l.length+qn) W (by omega);have hvr:=nL (j0+l.length+qn) (by omega);generalize (Tm.var (j0+l.length+qn)).bytes=vb at f9 hvr HMA;rw[show ((j0+l.length+qn:Nat):Int)=(j0:Int)+(l.length:Int)+(qn:Int) by omega] at f9;have HCt2:=Ld (yC2 64 vb made);have zv:=zO vb;have zr:=zO made;have zb:((⟨#[64]⟩:ByteArray)++(⟨vb.toArray⟩:ByteArray)).size=1+vb.length:=(by rw[ByteArray.size_append,zv];rfl);have f10:=Ld fun (W:World) (b:Nat) (v:Value) (h:W.ownsRow b 9 1 v acc.length (acc.map sv))=>lT (⟨(64::(vb++made)).toArray⟩:ByteArray) h (by rw[zO];simp only[lC,lA];unfold maxLen;omega) (fun x hx=>by have:=HAs.out x hx;omega) (by omega);simp only at f10;rw[← HCt2.out] at f10;obtain⟨t9,o9,hres⟩:∃ t o,yC (zU acc (64::(vb++made)))=.tuple #[.string t,.bool o]:=by
     rcases zU acc (64::(vb++made)) with _|t
     ·exact⟨_,_,rfl⟩
     ·exact⟨_,_,rfl⟩
    rw[hres] at f10;have HEQ:Hid (yC MT=.tuple #[.string t9,.bool o9]):=(by rw[Hid,HMA.out];exact hres);clear HCt2 hres HMA;go_wp2_with fail;(with_reducible refine mo (f9.out _) fun w9 hb9=>?_);have HB9:=Ld (HB7.out.trans (hb9.mono hz7));have HO9:=Ld (zA HO7.out hb9);have hz9:=HB9.out.size;clear hb9 f9 HB7 HO7;go_wp2_with fail;(with_reducible refine mo (f10.out _ _ _ HO9.out) fun w10 hb10=>?_);have HB10:=Ld (HB9.out.trans (hb10.mono hz9));clear hb10 f10 HB9 HO9;go_wp2;go_ret2;rw[HMT.out,HEQ.out];exact⟨rfl,HB10.out⟩
  have HLr:=Ld (zA HL3.out HW.out);have HSr:=Ld (zA HS3.out HW.out);obtain⟨g2,cap2,eg2,_,hg2⟩:=HSr.out.form (by omega);cases eg2;obtain⟨g3,cap3,eg3,_,hg3⟩:=HLr.out.form (by omega);cases eg3;have cc:=HSr.out.cellAt j (by omega);have ex:(l.map (iv ∘ sh))[j]?=some (iv (sh l[j])):=(by simp[hlt]);rw[ex] at cc;unfold iv at cc;have cd:=HLr.out.cellAt j (by omega);have ex2:(l.map sv)[j]?=some (sv l[j]):=(by simp[hlt]);rw[ex2] at cd;unfold sv at cd;have q3:=zn j;have q4:(j:Int)<(l.length:Int):=(by omega);have HBad:=Ld fun (h2:sh l[j]=2)=>(HRn.out.symm.trans (zB8 hlt h2):R=none);have HSkip:=Ld fun (h2:sh l[j]≠2) (h1:sh l[j]≠1)=>((cS hlt h2 h1).symm.trans HRn.out:yM j0 l.length sh (l.drop (j+1)) (j+1) qn acc=R);have HNone:=Ld fun (h1:sh l[j]=1) hs=>(HRn.out.symm.trans (cT hlt h1 hs):R=none);have HStep:=Ld fun (h1:sh l[j]=1) (st:List UInt8) hs=>((cR (st:=st) hlt h1 hs).symm.trans HRn.out:yM j0 l.length sh (l.drop (j+1)) (j+1) (qn+1) (acc++[st])=R);have hdl:=HSdl.out l[j] (List.getElem_mem hlt);have HMn:Hid (R=none->MT=none):=fun h=>by rw[HMA.out,h,HEN0.out]
  clear ex ex2 HRn HSr HLr;generalize sh l[j]=x at cc HBad HSkip HNone HStep;generalize l[j]=dm at cd hdl HNone HStep;by_cases hx:x=2
  ·have e1:(x==2)=true:=(by rw[beq_iff_eq];exact hx);have HEQ:Hid (MT=none):=HMn.out (HBad.out hx);have HBF:=Ld (HB3.out.trans (HW.out.mono HB3.out.size));clear HBad HSkip HNone HStep HMn HO HXX HY3 HL3 HS3 cd hx;go_wp2;go_ret2;rw[HMT.out,HEQ.out];exact⟨rfl,HBF.out⟩
  have e1:(x==2)=false:=(by rw[bF];exact hx);by_cases hx1:x=1;rotate_left
  ·have e2:(x==1)=false:=(by rw[bF];exact hx1);have HRN:=Ld (HSkip.out hx hx1);clear HBad HSkip HNone HStep HMn HXX HY3 HL3 HS3 cd hx hx1;go_wp2;go_roundw
   case rel=>exact⟨j+1,qn,acc,by omega,by omega,by trivial,by go_num,HO.out,HW.out,HRN.out,hal,HAs.out⟩
   case measure=>simp[intOf];omega
  have e2:(x==1)=true:=(by rw[beq_iff_eq];exact hx1);have HN:=Ld fun hs=>HMn.out (HNone.out hx1 hs);have HST:=Ld fun st hs=>HStep.out hx1 st hs;clear HBad HSkip HNone HStep HMn hx hx1;have f4:=Ld fun W=>zV5 (⟨dm.toArray⟩:ByteArray) ((l.length:Int) - (j:Int)+(qn:Int)) 0 W (by rw[zO];unfold maxLen;omega);simp only at f4;obtain⟨lo,hlo⟩:∃ lo,lifted dm ((l.length:Int) - (j:Int)+(qn:Int)) 0=lo:=⟨_,rfl⟩;rw[hlo] at f4;rw[show (l.length:Int) - (j:Int)+(qn:Int)=((l.length - j+qn:Nat):Int) by omega] at hlo;rcases lo with _|dom
  ·have HEQ:Hid (MT=none):=HN.out (zJ5 hlo);simp only[yC] at f4;clear HN HST HO HXX HY3 HL3 HS3 hlo;go_wp2_with fail;(with_reducible refine mo (f4.out _) fun w4 hb4=>?_);have HBF:=Ld (HB3.out.trans ((HW.out.trans (hb4.mono hz)).mono HB3.out.size));clear hb4 f4 HW;go_wp2;go_ret2;rw[HMT.out,HEQ.out];exact⟨rfl,HBF.out⟩
  have hdoml:=zX9 hlo;have HLo:=Ld hlo;clear hlo;simp only[yC] at f4;go_wp2_with fail;(with_reducible refine mo (f4.out _) fun w4 hb4=>?_);have HW4:=Ld (HW.out.trans (hb4.mono hz));have HO4:=Ld (zA HO.out hb4);have hz4:=HW4.out.size;clear hb4 f4 HW HO cc cd hg2 hg3;have f5:=Ld fun W=>pA ⟨dom.toArray⟩ W (by rw[zO];unfold maxLen;omega);simp only at f5;unfold oS at f5;have hln5:=vP dom;have HDs:=Ld (uC dom);obtain⟨ls,hls⟩:∃ ls,zJ dom=ls:=⟨_,rfl⟩;have HNa:=Ld fun hg=>HN.out (zV0 HLo.out hg);have HSa:=Ld fun arg hg=>zJ4 (k:=j0) (arg:=arg) HLo.out hg;clear HLo;rw[hls] at f5 hln5 HDs HNa;simp only[hls] at HSa;clear hls;go_wp2_with fail;(with_reducible refine(f5.out _).mono ?_);rintro e w5 ⟨v5,rfl,hv5,hb5⟩;obtain⟨ta,tc,rfl⟩:=zF hv5;have HW5:=Ld (HW4.out.trans (hb5.mono hz4));have HO5:=Ld (zA HO4.out hb5);have HD5:=Ld hv5;have hz5:=HW5.out.size;clear hb5 f5 hv5 HW4 HO4;have f6:=Ld fun W=>iA (((l.length:Int) - 1 - (j:Int))+(qn:Int)+(ls.length:Int)) W;have f7:=Ld fun W=>yO4 (s:=ls.length) W (by omega);unfold oS at f7;rw[show ((l.length:Int) - 1 - (j:Int))+(qn:Int)+(ls.length:Int)=((l.length - 1 - j+qn+ls.length:Nat):Int) by omega] at f6;have hvl:=sU ((l.length - 1 - j+qn+ls.length:Nat):Int)
  have f8:=Ld fun (W:World) (b:Nat) (v:Value) (h:W.ownsRow b 9 1 v (xO ls.length).length ((xO ls.length).map sv))=>aX (⟨(yX ((l.length - 1 - j+qn+ls.length:Nat):Int)).toArray⟩:ByteArray) h (by rw[zO];unfold maxLen;omega) (fun x hx=>by
   obtain⟨i,_,rfl⟩:=List.mem_map.1 hx;have:=nL (ls.length - 1 - i) (by omega);omega) (by rw[rM];omega)
  simp only at f8;rw[show ((l.length - 1 - j+qn+ls.length:Nat):Int)=((l.length:Int) - 1 - (j:Int))+(qn:Int)+(ls.length:Int) by omega] at f6 f8 HNa HSa hvl;generalize yX (((l.length:Int) - 1 - (j:Int))+(qn:Int)+(ls.length:Int))=vt at f6 f8 HNa HSa hvl;go_wp2_with fail;(with_reducible refine mo (f6.out _) fun w6 hb6=>?_);have HW6:=Ld (HW5.out.trans (hb6.mono hz5));have HO6:=Ld (zA HO5.out hb6);have HD6:=Ld (zA HD5.out hb6);have hz6:=HW6.out.size;clear hb6 f6 HW5 HO5 HD5;go_wp2_with fail;(with_reducible refine(f7.out _).mono ?_);rintro e w7 ⟨v7,rfl,hv7,hb7⟩;have HW7:=Ld (HW6.out.trans (hb7.mono hz6));have HO7:=Ld (zA HO6.out hb7);have HD7:=Ld (zA HD6.out hb7);have HV7:=Ld hv7;have hz7:=HW7.out.size;clear hb7 hv7 f7 HW6 HO6 HD6;obtain⟨ar,har⟩:∃ ar,yK vt (xO ls.length)=ar:=⟨_,rfl⟩;rw[har] at f8;rcases ar with _|arg
  ·have HEQ:Hid (MT=none):=HNa.out har;simp only[yC] at f8;clear HN HST HNa HSa HXX HY3 HL3 HS3 har HO7 HD7;go_wp2_with fail;(with_reducible refine mo (f8.out _ _ _ HV7.out) fun w8 hb8=>?_);have HBF:=Ld (HB3.out.trans ((HW7.out.trans (hb8.mono hz7)).mono HB3.out.size));clear hb8 f8 HW7 HV7;go_wp2;go_ret2;rw[HMT.out,HEQ.out];exact⟨rfl,HBF.out⟩
  have hargl:=gI har;have HSt:=Ld (HSa.out arg har);clear HNa HSa har;simp only[yC] at f8;go_wp2_with fail;(with_reducible refine mo (f8.out _ _ _ HV7.out) fun w8 hb8=>?_);have HW8:=Ld (HW7.out.trans (hb8.mono hz7));have HO8:=Ld (zA HO7.out hb8);have HD8:=Ld (zA HD7.out hb8);have hz8:=HW8.out.size;clear hb8 f8 HW7 HV7 HO7 HD7;have f9:=Ld fun W=>qX (j0+l.length+qn+ls.length) W (by omega);have hvr:=nL (j0+l.length+qn+ls.length) (by omega);generalize (Tm.var (j0+l.length+qn+ls.length)).bytes=vb at f9 hvr HSt;rw[show ((j0+l.length+qn+ls.length:Nat):Int)=(j0:Int)+(l.length:Int)+(qn:Int)+(ls.length:Int) by omega] at f9;have HCt2:=Ld (yC2 64 vb arg);have zv:=zO vb;have zr:=zO arg;have zb:((⟨#[64]⟩:ByteArray)++(⟨vb.toArray⟩:ByteArray)).size=1+vb.length:=(by rw[ByteArray.size_append,zv];rfl);have f10:=Ld fun (W:World) (b:Nat) (v:Value) (h:W.ownsRow b 9 1 v ls.length (ls.map sv))=>lT (⟨(64::(vb++arg)).toArray⟩:ByteArray) h (by rw[zO];simp only[lC,lA];unfold maxLen;omega) (fun x hx=>by have:=HDs.out x hx;omega) (by omega);simp only at f10;rw[← HSt.out,← HCt2.out] at f10;obtain⟨so,hso⟩:∃ so,rN j0 l.length j qn dm=so:=⟨_,rfl⟩;rw[hso] at f10;clear HSt HCt2 HDs;rcases so with _|st
  ·have HEQ:Hid (MT=none):=HN.out hso;simp only[yC] at f10;clear HN HST HXX HY3 HL3 HS3 hso HO8;go_wp2_with fail;(with_reducible refine mo (f9.out _) fun w9 hb9=>?_);have HW9:=Ld (HW8.out.trans (hb9.mono hz8));have HD9:=Ld (zA HD8.out hb9);have hz9:=HW9.out.size;clear hb9 f9 HW8 HD8;go_wp2_with fail;(with_reducible refine mo (f10.out _ _ _ HD9.out) fun w10 hb10=>?_);have HBF:=Ld (HB3.out.trans ((HW9.out.trans (hb10.mono hz9)).mono HB3.out.size));clear hb10 f10 HW9 HD9;go_wp2;go_ret2;rw[HMT.out,HEQ.out];exact⟨rfl,HBF.out⟩
  have hstl:=zU9 hso;have HRN:=Ld (HST.out st hso);clear HN HST hso;simp only[yC] at f10;go_wp2_with fail;(with_reducible refine mo (f9.out _) fun w9 hb9=>?_);have HW9:=Ld (HW8.out.trans (hb9.mono hz8));have HO9:=Ld (zA HO8.out hb9);have HD9:=Ld (zA HD8.out hb9);have hz9:=HW9.out.size;clear hb9 f9 HW8 HD8 HO8;go_wp2_with fail;(with_reducible refine mo (f10.out _ _ _ HD9.out) fun w10 hb10=>?_);have HW10:=Ld (HW9.out.trans (hb10.mono hz9));have HO10:=Ld (zA HO9.out hb10);have hz10:=HW10.out.size;clear hb10 f10 HW9 HD9 HO9;go_wp2_with (at_builtin;refine wpList_append_own _ rfl _ _ 31 rfl w3.heap.size 9 i0 _ 1 16 Tryz.underlying31 hi hz0 hz1 hz2 rfl (by decide) _ _ _ rfl (HO10.out.alloc _) ⟨w10.heap.size,0,none⟩ 1 1 [.string ⟨st.toArray⟩] rfl rfl (yI _ _ _) (by simp[Value.oneCell']) (by simp only[maxLen];omega) (by omega) (by simp;omega) ?_;intro v11 w11 hown hgrow hnil);have HO11:Hid (w11.ownsRow w3.heap.size 9 1 v11 (acc++[st]).length ((acc++[st]).map sv)):=by
   rw[Hid,lA,List.map_append];exact hown
  have HW11:Hid (Below w3.heap.size w3 w11):=(HW10.out.alloc hz10 _).grown hgrow (by simp;omega) (fun q hq=>(HO10.out.lt q hq).1);have HAs2:Hid (∀ x∈acc++[st],x.length<=2000):=fun x hx=>by
   rcases List.mem_append.1 hx with h|h
   ·exact HAs.out x h
   ·rw[List.mem_singleton] at h;subst h;exact hstl
  have hal2:(acc++[st]).length<=l.length+(qn+1):=(by rw[lA,List.length_singleton];omega);clear hown hgrow HO10 HW10 HAs;go_wp2;go_roundw
  case rel=>exact⟨j+1,qn+1,acc++[st],by omega,by omega,by go_num,by go_num,HO11.out,HW11.out,HRN.out,hal2,HAs2.out⟩
  case measure=>simp[intOf];omega
theorem fO{w:World}{d:Dc}{b:Nat}{u:Value}(h:w.ownsRow b 88 2 u d.ctors.length (xJ d.ctors))(hs:d.Small) :
  Rt 81 #[d.val u] w (.string ⟨(yL d).toArray⟩):=by
 have HLg:=Ld fun (W:World) (hW:Below w.heap.size w W)=>zK0 (zA h hW) hs;have HP:=Ld fun (h:zT d=true)=>xF h;obtain⟨kd,nm,ps,fl,ty,vl,cs⟩:=d;obtain⟨ua,uc,rfl⟩:=zF h;have HB0:=Ld (zG w (dC kd nm ps fl ty vl (.slice ua cs.length uc) 52));have f1:=Ld (sP (d:=⟨kd,nm,ps,fl,ty,vl,cs⟩) (zA h HB0.out) hs);have hval:=mE kd nm ps fl ty vl cs (.slice ua cs.length uc);simp only[hval] at f1 HLg |-;simp only at HP;have HX:=Ld (yZ (w:=w) (kd:=kd) (ps:=ps) (fl:=fl) (nm:=nm) (ty:=ty) (vl:=vl) (u:=.slice ua cs.length uc));obtain⟨c0,c1,c2,c3,c4,c5,c6⟩:=HX.out _ (bR _ _);have HD:Hid (xD ⟨kd,nm,ps,fl,ty,vl,cs⟩=(decide (kd=4)&&zT ⟨kd,nm,ps,fl,ty,vl,cs⟩)):=rfl;have HE:Hid (yL ⟨kd,nm,ps,fl,ty,vl,cs⟩=if xD ⟨kd,nm,ps,fl,ty,vl,cs⟩=true then (if uB ⟨kd,nm,ps,fl,ty,vl,cs⟩=true then 115::117::(Lib.itoa ps++[46]) else [115,122,46]) else []):=rfl;clear h hval hs;generalize uB ⟨kd,nm,ps,fl,ty,vl,cs⟩=lg at HLg HE;generalize zT ⟨kd,nm,ps,fl,ty,vl,cs⟩=ok at f1 HD HP;by_cases k4:kd=4;rotate_left
 ·have b4:(kd==4)=false:=(by rw[bF];exact k4);have HF:Hid (yL ⟨kd,nm,ps,fl,ty,vl,cs⟩=[]):=(by rw[Hid,HE.out,HD.out,dF k4];rfl);clear f1 HX HE HLg;go_enter Tryz.func81,Tryz.ntmps81;go_wp2;go_ret;rw[HF.out];exact⟨rfl,HB0.out⟩
 subst k4;go_enter Tryz.func81,Tryz.ntmps81;go_wp2_with fail;(with_reducible refine mo f1.out fun w1 hb=>?_);have HB1:=bt HB0.out hb;have HK1:=Ld hb;clear c0 c1 c2 c3 c4 c5 c6;obtain⟨c0,c1,c2,c3,c4,c5,c6⟩:=HX.out _ hb;clear hb f1;cases ok
 ·have HF:Hid (yL ⟨4,nm,ps,fl,ty,vl,cs⟩=[]):=(by rw[Hid,HE.out,HD.out];simp);clear HX HLg;go_wp2;go_ret;rw[HF.out];exact⟨rfl,HB1.out⟩
 obtain⟨p0,p3⟩:=HP.out (by trivial);have f2:=Ld (HLg.out _ HB1.out);clear HLg;go_wp2_with fail;(with_reducible refine mo f2.out fun w2 hb2=>?_);have HB2:=bt HB1.out hb2;have HK2:=bt HK1.out hb2;clear c0 c1 c2 c3 c4 c5 c6 hb2 f2;obtain⟨c0,c1,c2,c3,c4,c5,c6⟩:=HX.out _ HK2.out;cases lg
 ·have HF:Hid (yL ⟨4,nm,ps,fl,ty,vl,cs⟩=[115,122,46]):=(by rw[Hid,HE.out,HD.out];simp);clear HX;go_wp2;go_ret;rw[HF.out];exact⟨rfl,HB2.out⟩
 ·have HF:Hid (yL ⟨4,nm,ps,fl,ty,vl,cs⟩=115::117::(Lib.itoa ps++[46])):=(by rw[Hid,HE.out,HD.out];simp);have f3:=Ld (pK ps w2 (by omega) (by omega));have hdl:(Lib.itoa ps).length<=10:=by
   obtain⟨q,rfl⟩:∃ q:Nat,ps=(q:Int):=⟨ps.toNat,by omega⟩;rw[Lib.itoa_nonneg];exact vS (by omega)
  have hcat:∀ a:List UInt8,(⟨#[115,117]⟩:ByteArray)++⟨a.toArray⟩++⟨#[46]⟩=⟨(115::117::(a++[46])).toArray⟩:=fun a=>by
   apply ByteArray.ext;simp
  have HC:=Ld (hcat (Lib.itoa ps));clear HX hcat;generalize Lib.itoa ps=a at f3 HF hdl HC;have za:=zO a;have zb:((⟨#[115,117]⟩:ByteArray)++(⟨a.toArray⟩:ByteArray)).size=2+a.length:=(by rw[ByteArray.size_append,za];rfl);go_wp2_with fail;(with_reducible refine mo f3.out fun w3 hb3=>?_);have HB3:=bt HB2.out hb3;clear hb3 f3;go_wp2;go_ret;rw[HF.out,← HC.out];exact⟨rfl,HB3.out⟩
theorem iS{d:Dc}{n k:Nat}(h:k<n)(hm:yY d (k:Int)=none):rS d (n - k) k=none:=by
 obtain⟨m,hm1⟩:∃ m,n - k=m+1:=⟨n - k - 1,by omega⟩;rw[hm1,rS,hm]
theorem iR{d:Dc}{n k:Nat}{t:List UInt8}(h:k<n)(hm:yY d (k:Int)=some t):rS d (n - k) k=(rS d (n - (k+1)) (k+1)).map (t::·):=by
 obtain⟨m,hm1⟩:∃ m,n - k=m+1:=⟨n - k - 1,by omega⟩;rw[hm1,rS,hm,show n - (k+1)=m by omega];simp only;cases rS d m (k+1)<;>rfl
theorem eU{d:Dc}{n:Nat}:rS d (n - n) n=some []:=by rw[Nat.sub_self,rS]
theorem kW{d:Dc}(h:xD d=true):(zM d).length<=1000/\(yL d).length<=1000/\d.ctors.length<=6:=by
 have hd:=h;simp only[xD,Bool.and_eq_true] at hd;have h6:=jB hd.2;obtain⟨p0,p3⟩:=xF hd.2;have hn:d.name.length<=40:=by
  have h2:=hd.2;simp only[zT,Bool.and_eq_true] at h2;exact uI h2.1
 refine⟨?_,?_,h6⟩
 ·have hl:=tB (n:=d.params.toNat) (by omega);unfold zM;rw[iP hd.2];simp only[Tm.bytes,lC,lA,List.length_nil];omega
 ·unfold yL;obtain⟨q,hq⟩:∃ q:Nat,d.params=(q:Int):=⟨d.params.toNat,by omega⟩;rw[hq,Lib.itoa_nonneg];have:=vS (u:=q) (by omega);rw[iP h];split
  ·simp only[lC,lA,List.length_nil];omega
  ·decide
theorem yO2(a:UInt8)(x y:List UInt8):(⟨#[a]⟩:ByteArray)++⟨x.toArray⟩++⟨y.toArray⟩=⟨(a::(x++y)).toArray⟩:=by
 apply ByteArray.ext;simp
theorem yO1(x:List UInt8):(⟨#[64]⟩:ByteArray)++⟨x.toArray⟩++⟨#[118,48,46]⟩=⟨(64::(x++[118,48,46])).toArray⟩:=by
 apply ByteArray.ext;simp
theorem zJ7{w:World}{d:Dc}{b:Nat}{u:Value}(h:w.ownsRow b 88 2 u d.ctors.length (xJ d.ctors))(hs:d.Small) :
  Rt 56 #[d.val u] w (yC (vW d)):=by
 obtain⟨i0,hi,hz0,hz1,hz2⟩:=info_parts tF;have HMi:=Ld fun (k:Int) (W:World) (hW:Below w.heap.size w W)=>dW (zA h hW) hs k;have HSf:=Ld fun (W:World) (hW:Below w.heap.size w W)=>qY (zA h hW) hs;have HMo:=Ld fun (W:World) (hW:Below w.heap.size w W)=>fO (zA h hW) hs;obtain⟨kd,nm,ps,fl,ty,vl,cs⟩:=d;obtain⟨ua,uc,rfl⟩:=zF h;have HB0:=Ld (zG w (dC kd nm ps fl ty vl (.slice ua cs.length uc) 52));have f1:=Ld (sP (d:=⟨kd,nm,ps,fl,ty,vl,cs⟩) (zA h HB0.out) hs);have hval:=mE kd nm ps fl ty vl cs (.slice ua cs.length uc);simp only[hval] at f1 HMi HSf HMo |-;have HX:=Ld (yZ (w:=w) (kd:=kd) (ps:=ps) (fl:=fl) (nm:=nm) (ty:=ty) (vl:=vl) (u:=.slice ua cs.length uc));obtain⟨c0,c1,c2,c3,c4,c5,c6⟩:=HX.out _ (bR _ _);have HD:Hid (xD ⟨kd,nm,ps,fl,ty,vl,cs⟩=(decide (kd=4)&&zT ⟨kd,nm,ps,fl,ty,vl,cs⟩)):=rfl;have HE:Hid (vW ⟨kd,nm,ps,fl,ty,vl,cs⟩=if xD ⟨kd,nm,ps,fl,ty,vl,cs⟩=true then (match rS ⟨kd,nm,ps,fl,ty,vl,cs⟩ cs.length 0 with
 |none=>none
 |some ms=>zU ((112::(zM ⟨kd,nm,ps,fl,ty,vl,cs⟩++yL ⟨kd,nm,ps,fl,ty,vl,cs⟩))::(ms++[zM ⟨kd,nm,ps,fl,ty,vl,cs⟩])) (64::((Tm.var (cs.length+1)).bytes++[118,48,46]))) else none):=rfl
 have HSm:=Ld (kW (d:=⟨kd,nm,ps,fl,ty,vl,cs⟩));have HN:=Ld fun (k:Nat) (hk:k<cs.length)=>iS (d:=⟨kd,nm,ps,fl,ty,vl,cs⟩) hk;have HS:=Ld fun (k:Nat) (t:List UInt8) (hk:k<cs.length)=>iR (d:=⟨kd,nm,ps,fl,ty,vl,cs⟩) (t:=t) hk;have HEn:=Ld (eU (d:=⟨kd,nm,ps,fl,ty,vl,cs⟩) (n:=cs.length));have HTl:=Ld fun (k:Nat) (t:List UInt8)=>mQ (d:=⟨kd,nm,ps,fl,ty,vl,cs⟩) (k:=(k:Int)) (r:=t);simp only at HSm;clear h hval hs;generalize yY ⟨kd,nm,ps,fl,ty,vl,cs⟩=mt at HMi HN HS HTl;generalize rS ⟨kd,nm,ps,fl,ty,vl,cs⟩=mn at HE HN HS HEn;generalize zM ⟨kd,nm,ps,fl,ty,vl,cs⟩=sf at HSf HE HSm;generalize yL ⟨kd,nm,ps,fl,ty,vl,cs⟩=mx at HMo HE HSm;generalize vW ⟨kd,nm,ps,fl,ty,vl,cs⟩=rt at HE |-;generalize xD ⟨kd,nm,ps,fl,ty,vl,cs⟩=dt at HD HE HSm;generalize zT ⟨kd,nm,ps,fl,ty,vl,cs⟩=ok at f1 HD;by_cases k4:kd=4;rotate_left
 ·have b4:(kd==4)=false:=(by rw[bF];exact k4);have HF:Hid (rt=none):=(by rw[Hid,HE.out,HD.out,dF k4];rfl);clear f1 HX HE HMi HSf HMo HN HS;go_enter Tryz.func56,Tryz.ntmps56;go_wp2;go_ret2;rw[HF.out];exact⟨rfl,HB0.out⟩
 subst k4;go_enter Tryz.func56,Tryz.ntmps56;go_wp2_with fail;(with_reducible refine mo f1.out fun w1 hb=>?_);have HB1:=bt HB0.out hb;have HK1:=Ld hb;clear c0 c1 c2 c3 c4 c5 c6;obtain⟨c0,c1,c2,c3,c4,c5,c6⟩:=HX.out _ hb;clear hb f1;cases ok
 ·have HF:Hid (rt=none):=(by rw[Hid,HE.out,HD.out];simp);clear HX HMi HSf HMo HN HS HE;go_wp2;go_ret2;rw[HF.out];exact⟨rfl,HB1.out⟩
 have hdt:dt=true:=by rw[HD.out];rfl
 obtain⟨hsl,hml,hc6⟩:=HSm.out hdt;have HR:Hid (rt=(match mn cs.length 0 with
 |none=>none
 |some ms=>zU ((112::(sf++mx))::(ms++[sf])) (64::((Tm.var (cs.length+1)).bytes++[118,48,46])))):=by rw[Hid,HE.out,iP hdt]
 have f2:=Ld (HSf.out _ HB1.out);clear HE HSm HD hdt HSf;go_wp2_with fail;(with_reducible refine mo f2.out fun w2 hb2=>?_);have HB2:=bt HB1.out hb2;have HK2:=bt HK1.out hb2;clear c0 c1 c2 c3 c4 c5 c6 hb2 f2 HB1 HK1;obtain⟨c0,c1,c2,c3,c4,c5,c6⟩:=HX.out _ HK2.out;have f3:=Ld (HMo.out _ HB2.out);have HC1:=Ld (yO2 112 sf mx);have zs:=zO sf;have zm:=zO mx;have zb:((⟨#[112]⟩:ByteArray)++(⟨sf.toArray⟩:ByteArray)).size=1+sf.length:=by rw[ByteArray.size_append,zs];rfl
 clear HMo;go_wp2_with fail;(with_reducible refine mo f3.out fun w3 hb3=>?_);have HB3:=bt HB2.out hb3;have HK3:=bt HK2.out hb3;clear c0 c1 c2 c3 c4 c5 c6 hb3 f3 HB2 HK2;have HXX:Hid (∀ W,Below w3.heap.size w3 W->W.cell? ⟨w.heap.size,0,none⟩=some (.int .i64 4)/\W.cell? ⟨w.heap.size,1,none⟩=some (.string ⟨nm.toArray⟩)/\W.cell? ⟨w.heap.size,2,none⟩=some (.int .i64 ps)/\W.cell? ⟨w.heap.size,3,none⟩=some (.int .i64 fl)/\W.cell? ⟨w.heap.size,4,none⟩=some (.string ⟨ty.toArray⟩)/\W.cell? ⟨w.heap.size,5,none⟩=some (.string ⟨vl.toArray⟩)/\W.cell? ⟨w.heap.size,6,none⟩=some (.slice ua cs.length uc)):=fun W hW=>HX.out W (bu HK3.out hW);have hpl:(112::(sf++mx)).length<=2001:=by simp;omega
 have hrow0:=World.ownsRow_lit (base:=w3.heap.size) (e:=9) (size:=1) w3 #[.string ((⟨#[112]⟩:ByteArray)++(⟨sf.toArray⟩:ByteArray)++(⟨mx.toArray⟩:ByteArray))] 1 (nR _) (by decide) (by simp);have hbl0:=Ld ((bR w3.heap.size w3).alloc (nR _) (.cells #[.string ((⟨#[112]⟩:ByteArray)++(⟨sf.toArray⟩:ByteArray)++(⟨mx.toArray⟩:ByteArray))] 9));have HR0:Hid ((w3.alloc (.cells #[.string ((⟨#[112]⟩:ByteArray)++(⟨sf.toArray⟩:ByteArray)++(⟨mx.toArray⟩:ByteArray))] 9)).ownsRow w3.heap.size 9 1 (.slice (some ⟨w3.heap.size,0,none⟩) 1 1) ([112::(sf++mx)]:List (List UInt8)).length (([112::(sf++mx)]:List (List UInt8)).map sv)):=by
  rw[Hid];have e:(([112::(sf++mx)]:List (List UInt8)).map sv)=(#[.string ((⟨#[112]⟩:ByteArray)++(⟨sf.toArray⟩:ByteArray)++(⟨mx.toArray⟩:ByteArray))]:Array Value).toList:=by
   rw[HC1.out];rfl
  rw[e];exact hrow0
 have HQ0:Hid (mn cs.length 0=(mn (cs.length - 0) 0).map (([]:List (List UInt8))++·)):=by
  rw[Hid,Nat.sub_zero];cases mn cs.length 0<;>rfl
 obtain⟨RR,hRR⟩:∃ RR,mn cs.length 0=RR:=⟨_,rfl⟩;rw[hRR] at HR;have HQ1:Hid (RR=(mn (cs.length - 0) 0).map (([]:List (List UInt8))++·)):=hRR.symm.trans HQ0.out;clear hRR HQ0;clear HC1 hrow0 HX HK3;generalize (112::(sf++mx):List UInt8)=p at HR HR0 hpl;go_wp2;go_loopw [5,6] (fun o i wr=>∃ (k:Nat) (ms:List (List UInt8)),k<=cs.length/\i=.int .i64 k/\Hid (wr.ownsRow w3.heap.size 9 1 o (p::ms).length ((p::ms).map sv))/\Hid (Below w3.heap.size w3 wr)/\Hid (RR=(mn (cs.length - k) k).map (ms++·))/\ms.length=k/\Hid (∀ x∈ms,x.length<=2000)) (fun _ i _=>cs.length - (intOf i).toNat)
 case atStart=>exact⟨0,[],Nat.zero_le _,rfl,HR0.out,hbl0.out,HQ1.out,rfl,fun x hx=>absurd hx List.not_mem_nil⟩
 case round =>
  obtain⟨k,ms,hk,rfl,HO,HW,HQ,hmk,HMs⟩:=hrel;clear HR0 hbl0 HQ1;have hz:=HW.out.size;have hzB:=HB3.out.size;have HBr:=Ld (HB3.out.trans (HW.out.mono hzB));obtain⟨c0,c1,c2,c3,c4,c5,c6⟩:=HXX.out _ HW.out;by_cases hlt:k<cs.length;rotate_left
  ·have HRe:Hid (RR=some ms):=by
    rw[Hid,HQ.out];obtain rfl:k=cs.length:=(by omega);rw[HEn.out];simp
   rw[HRe.out] at HR;have dl:decide ((k:Int)<(cs.length:Int))=false:=dF (by omega);have HXY:=HXX;clear HRe HQ HN HS HEn HMi HTl HXX;go_wp2_with (at_builtin;refine wpList_append_own _ rfl _ _ 31 rfl w3.heap.size 9 i0 _ 1 16 Tryz.underlying31 hi hz0 hz1 hz2 rfl (by decide) _ _ _ rfl (HO.out.alloc _) ⟨wr.heap.size,0,none⟩ 1 1 [.string ⟨sf.toArray⟩] rfl rfl (yI _ _ _) (by simp[Value.oneCell']) (by simp only[maxLen,lC];omega) (by simp only[lC];omega) (by simp;omega) ?_;intro v5 w5 hown hgrow hnil;have HW5:Hid (Below w3.heap.size w3 w5):=(HW.out.alloc hz _).grown hgrow (by simp;omega) (fun q hq=>(HO.out.lt q hq).1);obtain⟨e0,e1,e2,e3,e4,e5,e6⟩:=HXY.out _ HW5.out);have HO5:Hid (w5.ownsRow w3.heap.size 9 1 v5 (p::(ms++[sf])).length ((p::(ms++[sf])).map sv)):=by
    rw[Hid,← List.cons_append,lA,List.map_append];exact hown
   have HB5:=Ld (HB3.out.trans (HW5.out.mono hzB));have hz5:=HB5.out.size;have f6:=Ld fun W=>qX (cs.length+1) W (by omega);have hvr:=nL (cs.length+1) (by omega);generalize (Tm.var (cs.length+1)).bytes=vb at f6 hvr HR;rw[show ((cs.length+1:Nat):Int)=(cs.length:Int)+1 by omega] at f6;have HC3:=Ld (yO1 vb);have zv:=zO vb;have zb:((⟨#[64]⟩:ByteArray)++(⟨vb.toArray⟩:ByteArray)).size=1+vb.length:=by rw[ByteArray.size_append,zv];rfl
   have f7:=Ld fun (W:World) (b:Nat) (v:Value) (h:W.ownsRow b 9 1 v (p::(ms++[sf])).length ((p::(ms++[sf])).map sv))=>lT (⟨(64::(vb++[118,48,46])).toArray⟩:ByteArray) h (by rw[zO];simp only[lC,lA];unfold maxLen;simp;omega) (fun x hx=>by
    rcases List.mem_cons.1 hx with rfl|hx
    ·omega
    ·rcases List.mem_append.1 hx with hx|hx
     ·have:=HMs.out x hx;omega
     ·rw[List.mem_singleton] at hx;subst hx;omega) (by simp only[lC,lA,List.length_nil];omega)
   simp only at f7;rw[← HC3.out] at f7;obtain⟨t9,o9,hres⟩:∃ t o,yC (zU (p::(ms++[sf])) (64::(vb++[118,48,46])))=.tuple #[.string t,.bool o]:=by
    rcases zU (p::(ms++[sf])) (64::(vb++[118,48,46])) with _|t
    ·exact⟨_,_,rfl⟩
    ·exact⟨_,_,rfl⟩
   rw[hres] at f7;have HEQ:Hid (yC rt=.tuple #[.string t9,.bool o9]):=(by rw[Hid,HR.out];exact hres);clear hown hgrow HO HW HC3 hres HR HXY;go_wp2_with fail;(with_reducible refine mo (f6.out _) fun w6 hb6=>?_);have HB6:=Ld (HB5.out.trans (hb6.mono hz5));have HO6:=Ld (zA HO5.out hb6);have hz6:=HB6.out.size;clear hb6 f6 HB5 HO5 HW5 e0 e1 e2 e3 e4 e5 e6;go_wp2_with fail;(with_reducible refine mo (f7.out _ _ _ HO6.out) fun w7 hb7=>?_);have HB7:=Ld (HB6.out.trans (hb7.mono hz6));clear hb7 f7 HB6 HO6;go_wp2;go_ret2;rw[HEQ.out];exact⟨rfl,HB7.out⟩
  have HNk:=Ld fun hm=>(HQ.out.trans (by rw[HN.out k hlt hm];rfl):RR=none);have HSk:=Ld fun (t:List UInt8) hm=>(HQ.out.trans (by rw[HS.out k t hlt hm,Option.map_map];congr 1;funext x;simp):RR=(mn (cs.length - (k+1)) (k+1)).map ((ms++[t])++·));have f4:=Ld (HMi.out (k:Int) _ HBr.out);have HTk:=Ld fun t=>HTl.out k t;clear HQ;generalize mt (k:Int)=mk at f4 HNk HSk HTk;rcases mk with _|t
  ·have HEQ:Hid (rt=none):=(by rw[Hid,HR.out,HNk.out rfl]);simp only[yC] at f4;clear HNk HSk HTk HXX HMi HO HR;go_wp2_with fail;(with_reducible refine mo f4.out fun w4 hb4=>?_);have HBF:=bt HBr.out hb4;clear hb4 f4 HW;go_wp2;go_ret2;rw[HEQ.out];exact⟨rfl,HBF.out⟩
  have HSt:=Ld (HSk.out t rfl);have htl:=HTk.out t rfl;clear HNk HSk HTk;simp only[yC] at f4;go_wp2_with fail;(with_reducible refine mo f4.out fun w4 hb4=>?_);have HW4:=Ld (HW.out.trans (hb4.mono hz));have HO4:=Ld (zA HO.out hb4);have hz4:=HW4.out.size;clear hb4 f4 HW HO HBr c0 c1 c2 c3 c4 c5 c6;go_wp2_with (at_builtin;refine wpList_append_own _ rfl _ _ 31 rfl w3.heap.size 9 i0 _ 1 16 Tryz.underlying31 hi hz0 hz1 hz2 rfl (by decide) _ _ _ rfl (HO4.out.alloc _) ⟨w4.heap.size,0,none⟩ 1 1 [.string ⟨t.toArray⟩] rfl rfl (yI _ _ _) (by simp[Value.oneCell']) (by simp only[maxLen,lC];omega) (by simp only[lC];omega) (by simp;omega) ?_;intro v5 w5 hown hgrow hnil);have HO5:Hid (w5.ownsRow w3.heap.size 9 1 v5 (p::(ms++[t])).length ((p::(ms++[t])).map sv)):=by
   rw[Hid,← List.cons_append,lA,List.map_append];exact hown
  have HW5:Hid (Below w3.heap.size w3 w5):=(HW4.out.alloc hz4 _).grown hgrow (by simp;omega) (fun q hq=>(HO4.out.lt q hq).1);have HM5:Hid (∀ x∈ms++[t],x.length<=2000):=fun x hx=>by
   rcases List.mem_append.1 hx with h|h
   ·exact HMs.out x h
   ·rw[List.mem_singleton] at h;subst h;exact htl
  clear hown hgrow HO4 HW4 HMs;go_wp2;go_roundw
  case rel=>exact⟨k+1,ms++[t],by omega,by go_num,HO5.out,HW5.out,HSt.out,by rw[lA,List.length_singleton];omega,HM5.out⟩
  case measure=>simp[intOf];omega
end Go.Proofs.YtcaahdjhbmmcnaaGreatDoor
