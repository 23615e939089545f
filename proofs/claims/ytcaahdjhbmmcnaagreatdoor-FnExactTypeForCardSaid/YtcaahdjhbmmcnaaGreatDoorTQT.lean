/- QTy QLawT OpenD OpenL QOpen -/
import Derived.Deep.Slices
import Derived.Deep.Fields
import Derived.ChangeSame
import Derived.ChangeMaps5
import Derived.Lib.SmallJoins
import Derived.Test.YtcaahdjhbmmcnaaGreatDoorTQD
import Derived.Test.YtcaahdjhbmmcnaaGreatDoorTKB
import Derived.Test.YtcaahdjhbmmcnaaGreatDoorTKC
import Derived.Test.YtcaahdjhbmmcnaaGreatDoorTMK
import Derived.Test.YtcaahdjhbmmcnaaGreatDoorTA6
import Derived.Test.YtcaahdjhbmmcnaaGreatDoorTQA
import Derived.Test.YtcaahdjhbmmcnaaGreatDoorTQB
set_option maxRecDepth 100000
set_option maxHeartbeats 16000000
set_option linter.unusedSimpArgs false
set_option linter.unusedVariables false
namespace Go.Proofs.YtcaahdjhbmmcnaaGreatDoor
open Go.ChangeShapes Go.WideShapes Go.ChangeAt Go.RowKit
theorem vB(o:Option (List UInt8)):∃ t b,yC o=.tuple #[.string t,.bool b]:=by
 cases o with
|none=>exact⟨_,_,rfl⟩
|some t=>exact⟨_,_,rfl⟩
theorem iI{d:Dc}{r:List UInt8}(h:vW d=some r):r.length<=2000:=by
 unfold vW at h;split at h
 ·split at h
  ·cases h
  ·exact oQ h
 ·cases h
noncomputable def zK7 (env:List En) (r:Int × Int × Int):Option (List UInt8):=match env[r.2.1.toNat]? with
|some e=>if r.1=5 then (e.1.ctors[r.2.2.toNat]?).map (fun c=>c.2) else if r.1=6 then vW e.1 else some e.1.type
|none=>none
noncomputable def eN (env:List En) (r:Int × Int × Int) (ls:List (List UInt8)):Option (List UInt8) :=
 if r.1=0\/(ls.length:Int)≠tK env r then none else (zK7 env r).bind fun t=>zV t ls
noncomputable def sV (env:List En) (n:List UInt8) (ls:List (List UInt8)):Option (List UInt8):=eN env (vN env n) ls
theorem cE{env:List En}{r:Int × Int × Int}{j:Nat}{e:En}(he:env[j]?=some e)(hj:r.2.1=(j:Int)):zK7 env r=if r.1=5 then (e.1.ctors[r.2.2.toNat]?).map (fun c=>c.2) else if r.1=6 then vW e.1 else some e.1.type:=by
 unfold zK7;rw[hj,Int.toNat_natCast,he]
theorem yC6{w:World}{B:Nat}{v:Value}{env:List En}(h:sJ w B v env)(hs:xU env)(oa:Option Addr)(oc:Nat)(n:List UInt8)(hn:n.length<=281474976710656){b2:Nat}{lv:Value}{ls:List (List UInt8)}(hl:w.ownsRow b2 9 1 lv ls.length (ls.map sv))(hl1:ls.length<=1048576)(hl2:∀ x∈ls,x.length<=1048576) :
  Rt 34 #[v,.slice oa 0 oc,.string ⟨n.toArray⟩,lv] w (yC (sV env n ls)):=by
 obtain⟨la,lc,rfl⟩:=yW hl;have f1:=Ld (yD3 h hs oa oc n hn);have F2:=Ld fun (W:World) (hW:Below w.heap.size w W)=>yO7 (h.below hW) hs (gJ env n);have FTL:Hid (∀ (t:List UInt8),t.length<=1048576->∀ W,Below w.heap.size w W->Rt 36 #[.string ⟨t.toArray⟩,.slice la ls.length lc] W (yC (zV t ls))):=fun t ht W hW =>
  fN ⟨t.toArray⟩ (zA hl hW) (by rw[zO];unfold maxLen;omega) (fun x hx=>by have:=hl2 x hx;unfold maxLen;omega) (by omega)
 obtain⟨rv,hrv⟩:∃ rv,yC (sV env n ls)=rv:=⟨_,rfl⟩;have HV:Hid (rv=yC (eN env (vN env n) ls)):=by rw[Hid,← hrv];rfl
 rw[hrv];clear hrv hl hl2;have hP:=gJ env n;unfold qA at f1;generalize vN env n=r at f1 F2 HV hP;obtain⟨xs,hx,hrow,ho⟩:=h;have hlx:xs.length=env.length:=by rw[← hx,List.length_map]
 obtain⟨ra,rc,rfl⟩:=zF hrow;rw[hlx] at hrow f1 F2 |-;rcases hP with rfl|⟨j,e,he,hok,hj,hk⟩
 ·have HF:Hid (rv=.tuple #[.string ⟨#[]⟩,.bool false]):=(by rw[Hid,HV.out,eN,iP (.inl rfl)];rfl);simp only at f1;clear hrow ho hs hx hlx FTL HV F2;go_enter Tryz.func34,Tryz.ntmps34;go_wp2_with fail;(with_reducible refine mo f1.out fun w1 hb1=>?_);have HB1:=Ld hb1;clear hb1 f1;go_wp2;refine bodyPost_ret (v:=rv) (by rw[HF.out];simp[results,go_sem]) rfl ⟨rfl,HB1.out⟩
 have hjl:j<env.length:=by
  rw[List.getElem?_eq_some_iff] at he;exact he.1
 obtain⟨x,ex,mx,hek⟩:=zG0 hx hjl;have hxe:e=x.1:=by
  rw[List.getElem?_eq_getElem hjl] at he;rw[← Option.some.inj he,hek]
 subst hxe;have hkd:=pJ hok;have hsm:=(hs.2 _ (List.mem_of_getElem? he)).1;have s2:=hsm.type;have s3:=hsm.value;have s4:=hsm.ctors;have s5:=hsm.each;have h0:r.1≠0:=by
  rcases hk with h|h|h
  ·rw[h.1];omega
  ·rw[h.1];decide
  ·rw[h.1];decide
 have hraw:=cE he hj;unfold eN at HV;rw[hraw] at HV;obtain⟨what,ri,rk⟩:=r;simp only at h0 hj hk HV f1 F2;subst hj;generalize tK env (what,(j:Int),rk)=mm at HV F2;obtain⟨g,cap,e0,_,hgl⟩:=hrow.form (by omega);cases e0;have a8:=oI hrow hjl hlx ex;have p0:=a8 0 (by decide);have p1:=a8 1 (by decide);have p2:=a8 2 (by decide);have p3:=a8 3 (by decide);have p4:=a8 4 (by decide);have p5:=a8 5 (by decide);have p6:=a8 6 (by decide);have p7:=a8 7 (by decide);have hox:=(ho x mx).1;clear a8 ex mx hek he hs hrow ho hlx hx hok;obtain⟨⟨⟨kd,nm,ps,fl,ty,vl,cs⟩,lbs⟩,u,vv⟩:=x;obtain⟨ua,uc,hu⟩:=zF hox;simp only at hu HV hk s2 s3 s4 s5 hkd hsm hox;subst hu;simp only[uJ,sv,List.getElem?_cons_zero,List.getElem?_cons_succ,Nat.add_zero,Nat.zero_add] at p0 p1 p2 p3 p4 p5 p6 p7;have t1:=zn j;have t2:(j:Int)<(env.length:Int):=by omega
 have HPX:Hid (∀ W,Below w.heap.size w W->W.cell? ⟨g,j*8,none⟩=some (.int .i64 kd)/\W.cell? ⟨g,j*8+1,none⟩=some (.string ⟨nm.toArray⟩)/\W.cell? ⟨g,j*8+2,none⟩=some (.int .i64 ps)/\W.cell? ⟨g,j*8+3,none⟩=some (.int .i64 fl)/\W.cell? ⟨g,j*8+4,none⟩=some (.string ⟨ty.toArray⟩)/\W.cell? ⟨g,j*8+5,none⟩=some (.string ⟨vl.toArray⟩)/\W.cell? ⟨g,j*8+6,none⟩=some (.slice ua cs.length uc)):=fun W hW=>⟨(hW.cell (p:=⟨g,j*8,none⟩) hgl).trans p0,(hW.cell (p:=⟨g,j*8+1,none⟩) hgl).trans p1,(hW.cell (p:=⟨g,j*8+2,none⟩) hgl).trans p2,(hW.cell (p:=⟨g,j*8+3,none⟩) hgl).trans p3,(hW.cell (p:=⟨g,j*8+4,none⟩) hgl).trans p4,(hW.cell (p:=⟨g,j*8+5,none⟩) hgl).trans p5,(hW.cell (p:=⟨g,j*8+6,none⟩) hgl).trans p6⟩;clear p0 p1 p2 p3 p4 p5 p6 p7;have e0:(what==0)=false:=by rw[bF];exact h0
 by_cases hm:(ls.length:Int)=mm;rotate_left
 ·have em:((ls.length:Int) != mm)=true:=(by rw[bne_iff_ne];exact hm);have HF:Hid (rv=.tuple #[.string ⟨#[]⟩,.bool false]):=(by rw[Hid,HV.out,iP (.inr hm)];rfl);clear hox FTL HV hk HPX hsm hm;go_enter Tryz.func34,Tryz.ntmps34;go_wp2_with fail;(with_reducible refine mo f1.out fun w1 hb1=>?_);have HB1:=Ld hb1;have f2:=Ld (F2.out _ hb1);clear hb1 f1 F2;go_wp2_with fail;(with_reducible refine mo f2.out fun w2 hb2=>?_);have HB2:=bt HB1.out hb2;clear hb2 f2;go_wp2;refine bodyPost_ret (v:=rv) (by rw[HF.out];simp[results,go_sem]) rfl ⟨rfl,HB2.out⟩
 have em:((ls.length:Int) != mm)=false:=by rw[bne_eq_false_iff_eq];exact hm
 have HV2:=Ld (HV.out.trans (by rw[iN (fun h=>h.elim h0 (fun k=>k hm))]));clear HV hm h0;rcases hk with ⟨hw,h3⟩|⟨hw,k,hkc,h3⟩|⟨hw,h4,h3⟩
 ·have HFT:Hid (rv=yC (zV ty ls)):=by
   rw[Hid,HV2.out,iN (by omega),iN (by omega)];rfl
  have e5:(what==5)=false:=(by rw[bF];omega);have e6:(what==6)=false:=(by rw[bF];omega);clear hox HV2 hsm hw;go_enter Tryz.func34,Tryz.ntmps34;go_wp2_with fail;(with_reducible refine mo f1.out fun w1 hb1=>?_);have HB1:=Ld hb1;have f2:=Ld (F2.out _ hb1);clear hb1 f1 F2;go_wp2_with fail;(with_reducible refine mo f2.out fun w2 hb2=>?_);have HB2:=bt HB1.out hb2;clear hb2 f2;obtain⟨p0,p1,p2,p3,p4,p5,p6⟩:=HPX.out _ HB2.out;obtain⟨ts,tb,hres⟩:=vB (zV ty ls);have f3:=Ld (FTL.out ty (by omega) _ HB2.out);rw[hres] at f3;have HF:Hid (rv=.tuple #[.string ts,.bool tb]):=HFT.out.trans hres;clear FTL HFT hres;go_wp2_with fail;(with_reducible refine mo f3.out fun w3 hb3=>?_);have HB3:=bt HB2.out hb3;clear hb3 f3;go_wp2;refine bodyPost_ret (v:=rv) (by rw[HF.out];simp[results,go_sem]) rfl ⟨rfl,HB3.out⟩
 ·subst hw;subst h3;have HFT:Hid (rv=yC (zV cs[k].2 ls)):=by
   rw[Hid,HV2.out,iP rfl];simp only[Int.toNat_natCast,List.getElem?_eq_getElem hkc,Option.map_some,Option.bind_some]
  obtain⟨gc,capc,e1,_,hgc⟩:=hox.form (by omega);cases e1;obtain⟨fa,fb⟩:=uE hkc;have y1:=(hox.cellAt (k*2+1) (by omega)).trans fb;unfold sv at y1;have sy:=(s5 _ (List.getElem_mem hkc)).2;have q1:=zn k;have q2:(k:Int)<(cs.length:Int):=(by omega);have HY:=Ld fun (W:World) (hW:Below w.heap.size w W)=>(hW.cell (p:=⟨gc,k*2+1,none⟩) hgc).trans y1;clear hox HV2 hsm fa fb s5 y1;generalize cs[k].2=cty at HFT HY sy;go_enter Tryz.func34,Tryz.ntmps34;go_wp2_with fail;(with_reducible refine mo f1.out fun w1 hb1=>?_);have HB1:=Ld hb1;have f2:=Ld (F2.out _ hb1);clear hb1 f1 F2;go_wp2_with fail;(with_reducible refine mo f2.out fun w2 hb2=>?_);have HB2:=bt HB1.out hb2;clear hb2 f2;obtain⟨p0,p1,p2,p3,p4,p5,p6⟩:=HPX.out _ HB2.out;have y1:=HY.out _ HB2.out;obtain⟨ts,tb,hres⟩:=vB (zV cty ls);have f3:=Ld (FTL.out cty (by omega) _ HB2.out);rw[hres] at f3;have HF:Hid (rv=.tuple #[.string ts,.bool tb]):=HFT.out.trans hres;clear FTL HFT hres;go_wp2_with fail;(with_reducible refine mo f3.out fun w3 hb3=>?_);have HB3:=bt HB2.out hb3;clear hb3 f3;go_wp2;refine bodyPost_ret (v:=rv) (by rw[HF.out];simp[results,go_sem]) rfl ⟨rfl,HB3.out⟩
 ·subst hw;have FR:Hid (∀ W,Below w.heap.size w W->Rt 56 #[.agg #[.int .i64 kd,.string ⟨nm.toArray⟩,.int .i64 ps,.int .i64 fl,.string ⟨ty.toArray⟩,.string ⟨vl.toArray⟩,.slice ua cs.length uc]] W (yC (vW ⟨kd,nm,ps,fl,ty,vl,cs⟩))):=fun W hW=>zJ7 (d:=⟨kd,nm,ps,fl,ty,vl,cs⟩) (zA hox hW) hsm;have HVR:Hid (rv=yC ((vW ⟨kd,nm,ps,fl,ty,vl,cs⟩).bind fun t=>zV t ls)):=by
   rw[Hid,HV2.out,iN (by decide),iP rfl]
  have HLn:=Ld fun (t:List UInt8) (ht:vW ⟨kd,nm,ps,fl,ty,vl,cs⟩=some t)=>iI ht;clear hox HV2 hsm s5 h4;generalize vW ⟨kd,nm,ps,fl,ty,vl,cs⟩=rt at FR HVR HLn;go_enter Tryz.func34,Tryz.ntmps34;go_wp2_with fail;(with_reducible refine mo f1.out fun w1 hb1=>?_);have HB1:=Ld hb1;have f2:=Ld (F2.out _ hb1);clear hb1 f1 F2;go_wp2_with fail;(with_reducible refine mo f2.out fun w2 hb2=>?_);have HB2:=bt HB1.out hb2;clear hb2 f2;obtain⟨p0,p1,p2,p3,p4,p5,p6⟩:=HPX.out _ HB2.out;have f4:=Ld (FR.out _ HB2.out);clear FR HPX;cases rt with
 |none =>
   have HF:Hid (rv=.tuple #[.string ⟨#[]⟩,.bool false]):=HVR.out;simp only[yC] at f4;clear HVR FTL HLn;go_wp2_with fail;(with_reducible refine mo f4.out fun w4 hb4=>?_);have HB4:=bt HB2.out hb4;clear hb4 f4;go_wp2;refine bodyPost_ret (v:=rv) (by rw[HF.out];simp[results,go_sem]) rfl ⟨rfl,HB4.out⟩
 |some rt =>
   have HFT:Hid (rv=yC (zV rt ls)):=HVR.out;have hrl:=HLn.out rt rfl;simp only[yC] at f4;clear HVR HLn;go_wp2_with fail;(with_reducible refine mo f4.out fun w4 hb4=>?_);have HB4:=bt HB2.out hb4;clear hb4 f4 p0 p1 p2 p3 p4 p5 p6;obtain⟨ts,tb,hres⟩:=vB (zV rt ls);have f3:=Ld (FTL.out rt (by omega) _ HB4.out);rw[hres] at f3;have HF:Hid (rv=.tuple #[.string ts,.bool tb]):=HFT.out.trans hres;clear FTL HFT hres;go_wp2_with fail;(with_reducible refine mo f3.out fun w3 hb3=>?_);have HB3:=bt HB4.out hb3;clear hb3 f3;go_wp2;refine bodyPost_ret (v:=rv) (by rw[HF.out];simp[results,go_sem]) rfl ⟨rfl,HB3.out⟩
theorem zJ6{w:World}{B:Nat}{v:Value}{env:List En}(h:sJ w B v env)(hs:xU env)(n:List UInt8)(hn:n.length<=281474976710656){b2:Nat}{lv:Value}{ls:List (List UInt8)}(hl:w.ownsRow b2 9 1 lv ls.length (ls.map sv))(hl1:ls.length<=1048576)(hl2:∀ x∈ls,x.length<=1048576) :
  Rt 16 #[v,.string ⟨n.toArray⟩,lv] w (yC (sV env n ls)):=by
 have ha:=zG w (.cells #[] 4);have f1:=Ld (yC6 (h.below ha) hs (some ⟨w.heap.size,0,none⟩) 0 n hn (zA hl ha) hl1 hl2);have HA:=Ld ha;have hv:∃ a c,v=.slice a env.length c:=by
  obtain⟨xs,hx,hr,_⟩:=h;obtain⟨ra,rc,rfl⟩:=zF hr;exact⟨ra,rc,by rw[← hx,List.length_map]⟩
 obtain⟨ra,rc,rfl⟩:=hv;obtain⟨la,lc,rfl⟩:=yW hl;clear h hs ha hl hl2;obtain⟨ts,tb,hres⟩:=vB (sV env n ls);rw[hres] at f1 |-;clear hres;go_enter Tryz.func16,Tryz.ntmps16;go_wp2_with fail;(with_reducible refine mo f1.out fun w1 hb1=>?_);have HB1:=bt HA.out hb1;clear hb1 f1;go_wp2;exact bodyPost_ret (by simp[results,go_sem]) rfl ⟨rfl,HB1.out⟩
theorem zY2{env:List En}{v lv:Value}{ls:List (List UInt8)}(n:ByteArray)(w:World)(hc:fG w v env)(hm:n.size<=maxLen)(hlv:xC4 w lv ls)
  (hI:xU env->n.size<=1048576->ls.length<=1048576->(∀ x∈ls,x.length<=1048576)->∀ (W:World) (B b:Nat) (u s:Value),Below w.heap.size w W->sJ W B u env->W.ownsRow b 9 1 s ls.length (ls.map sv)->Rt 18 #[u,.string n,s] W (yC (sV env n.data.toList ls))) :
  Rt 5 #[v,.string n,lv] w (.bool true):=by
 unfold maxLen at hm;obtain⟨a0,cap,hv⟩:=hc.len;by_cases k1:n.size<=1048576;rotate_left
 ·have d1:decide ((1048576:Int)<(n.size:Int))=true:=dT (by omega);clear hI hc hlv;subst hv;go_enter Tryz.func5,Tryz.ntmps5;go_wp2;go_ret;exact⟨rfl,bR _ _⟩
 have d1:decide ((1048576:Int)<(n.size:Int))=false:=dF (by omega);have f1:=Ld (yO0 hc 1048576 (nR _));unfold yM0 at f1;simp only[show ((1048576:Nat):Int)=1048576 from rfl] at f1;have FZ:=Ld fun (W:World) (hW:Below w.heap.size w W) (z:Nat) (hz:z<=1048576)=>yC1 (hlv.below hW) z hz;unfold xG5 at FZ;have FT:=Ld fun (hs:xU env) (W:World) (hW:Below w.heap.size w W)=>yN3 (hc.below hW) hs.1 hs.ctors;unfold xC0 at FT;have FL:=Ld fun (hn:ls.length<=1048576) (W:World) (hW:Below w.heap.size w W)=>yB1 (hlv.below hW) hn;unfold oS at FL;have FS:=Ld fun (hs:xU env) (W:World) (B b:Nat) (u s:Value) (h:sJ W B u env) (hr:W.ownsRow b 9 1 s ls.length (ls.map sv)) (hl1:ls.length<=1048576) (hl2:∀ x∈ls,x.length<=1048576)=>zJ6 h hs n.data.toList (by show n.size<=_;omega) hr hl1 hl2;simp only[show ∀ s:ByteArray,(⟨s.data.toList.toArray⟩:ByteArray)=s from fun s=>rfl] at FS;have FE:=Ld fun (hs:xU env) (W:World) (B1 B2:Nat) (u1 u2:Value) (h1:sJ W B1 u1 env) (h2:sJ W B2 u2 env)=>yT2 h1 h2 hs.1 hs.ctors;have HI:=Ld hI;have HSM:=Ld fun (h:env.length+zI6 env<=1048576)=>xU.of_tot h;have HXL:=Ld fun (h:yA8 ls<=1048576)=>(fun x hxm=>by have:=yM9 hxm;omega:∀ x∈ls,x.length<=1048576);obtain⟨la,lc,hlve⟩:∃ la lc,lv=.slice la ls.length lc:=by
  obtain⟨a0,cap,_,_,h,_⟩:=hlv;exact⟨a0,cap,h⟩
 subst hlve;clear hI hc hlv;subst hv;obtain⟨ts,tb,hres⟩:=vB (sV env n.data.toList ls);rw[hres] at FS HI;clear hres;go_enter Tryz.func5,Tryz.ntmps5;go_wp2_with fail;(with_reducible refine f1.out.mono ?_);rintro e w1 ⟨hb1,(rfl|⟨z,rfl,hz⟩)⟩
 ·have HB1:=Ld hb1;clear hb1 f1 FT FS FE HI FZ FL HXL;go_wp2;go_ret;exact⟨rfl,HB1.out⟩
 have hs:=HSM.out (by omega);have dz:decide ((z:Int)<0)=false:=dF (by omega);have HB1:=Ld hb1;have f1z:=Ld (FZ.out w1 hb1 z (by omega));clear hb1 f1 FZ HSM;go_wp2_with fail;(with_reducible refine f1z.out.mono ?_);rintro e w1b ⟨hw1,(rfl|⟨z2,rfl,hz2⟩)⟩
 ·subst hw1;clear f1z FT FS FE HI FL HXL hs hz;go_wp2;go_ret;exact⟨rfl,HB1.out⟩
 subst hw1;have hn1:ls.length<=1048576:=by omega
 have hx1:=HXL.out (by omega);have dz2:decide ((z2:Int)<0)=false:=dF (by omega);have FT2:=Ld (FT.out hs);have FL2:=Ld (FL.out hn1);have FS2:=Ld fun W B b u s h hr=>FS.out hs W B b u s h hr hn1 hx1;have FE2:=Ld (FE.out hs);have HI2:=Ld (HI.out hs k1 hn1 hx1);clear f1z hz hz2 FT FL FS FE HI hs HXL hx1;go_wp2_with fail;(with_reducible refine(FT2.out _ HB1.out).mono ?_);rintro e w2 ⟨u2,rfl,hu2,hb2⟩;have HB2:=bt HB1.out hb2;obtain⟨a2,c2,rfl⟩:=hu2.len;have HU2:=Ld hu2;clear hb2 hu2;go_wp2_with fail;(with_reducible refine(FL2.out _ HB2.out).mono ?_);rintro e w2s ⟨s2,rfl,hs2,hb2s⟩;have HB2s:=bt HB2.out hb2s;obtain⟨sa2,sc2,rfl⟩:=yW hs2;have f3:=Ld (FS2.out _ _ _ _ _ (HU2.out.below hb2s) hs2);clear hb2s hs2 HU2 FS2;go_wp2_with fail;(with_reducible refine mo f3.out fun w3 hb3=>?_);have HB3:=bt HB2s.out hb3;clear hb3 f3;go_wp2_with fail;(with_reducible refine(FT2.out _ HB3.out).mono ?_);rintro e w4 ⟨u4,rfl,hu4,hb4⟩;have HB4:=bt HB3.out hb4;obtain⟨a4,c4,rfl⟩:=hu4.len;have HU4:=Ld hu4;clear hb4 hu4;go_wp2_with fail;(with_reducible refine(FL2.out _ HB4.out).mono ?_);rintro e w4s ⟨s4,rfl,hs4,hb4s⟩;have HB4s:=bt HB4.out hb4s;obtain⟨sa4,sc4,rfl⟩:=yW hs4;have HU4s:=Ld (HU4.out.below hb4s);have f5:=Ld (HI2.out _ _ _ _ _ HB4s.out HU4s.out hs4);have HS4:=Ld hs4;clear hb4s hs4 HI2 HU4;go_wp2_with fail;(with_reducible refine mo f5.out fun w5 hb5=>?_);have HB5:=bt HB4s.out hb5;have HU5:=Ld (HU4s.out.below hb5);have HS5:=Ld (zA HS4.out hb5);clear hb5 f5 HU4s HS4;cases tb
 all_goals
  go_wp2_with fail;(with_reducible refine(FT2.out _ HB5.out).mono ?_);rintro e w6 ⟨u6,rfl,hu6,hb6⟩;have HB6:=bt HB5.out hb6;obtain⟨a6,c6,rfl⟩:=hu6.len;have f7:=Ld (FE2.out _ _ _ _ _ (HU5.out.below hb6) hu6);have HS6:=Ld (zA HS5.out hb6);clear hb6 hu6 FE2 FT2 HU5 HS5;go_wp2_with fail;(with_reducible refine mo f7.out fun w7 hb7=>?_);have HB7:=bt HB6.out hb7;have HS7:=Ld (zA HS6.out hb7);clear hb7 f7 HS6;go_wp2_with fail;(with_reducible refine(FL2.out _ HB7.out).mono ?_);rintro e w8 ⟨s8,rfl,hs8,hb8⟩;have HB8:=bt HB7.out hb8;obtain⟨sa8,sc8,rfl⟩:=yW hs8;have f9:=Ld (yI8 (zA HS7.out hb8) hs8 (by omega));clear hb8 hs8 HS7 FL2;go_wp2_with fail;(with_reducible refine f9.out.mono ?_);rintro e w9 ⟨rfl,q,rfl⟩;go_wp2;go_ret;exact⟨rfl,zH HB8.out q⟩
end Go.Proofs.YtcaahdjhbmmcnaaGreatDoor
