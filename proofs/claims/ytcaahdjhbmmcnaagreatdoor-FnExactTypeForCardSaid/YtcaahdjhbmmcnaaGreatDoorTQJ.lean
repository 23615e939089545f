/- QIf QIy -/
import Derived.Test.YtcaahdjhbmmcnaaGreatDoorTQI
import Derived.Test.YtcaahdjhbmmcnaaGreatDoorTQD
import Derived.Test.YtcaahdjhbmmcnaaGreatDoorTQT
import Derived.Test.YtcaahdjhbmmcnaaGreatDoorTK6
import Derived.Test.YtcaahdjhbmmcnaaGreatDoorTHL
set_option maxRecDepth 100000
set_option maxHeartbeats 16000000
set_option linter.unusedSimpArgs false
set_option linter.unusedVariables false
namespace Go.Proofs.YtcaahdjhbmmcnaaGreatDoor
open Go.ChangeShapes Go.WideShapes Go.ChangeAt Go.RowKit
theorem mO(r:Pl):yO r=.agg #[.int .i64 r.1,.int .i64 r.2.1,.int .i64 r.2.2.1,.int .i64 r.2.2.2]:=rfl
theorem yS7{w:World}{ra:Option Addr}{rn rc b m:Nat}{G:List UInt8->Option Pl}(h:TabIs w b m G)(n:List UInt8)(hn:n.length<=281474976710656) :
  Rt 31 #[.agg #[.slice ra rn rc,.map (some b)],.string ⟨n.toArray⟩] w (yO ((G n).getD (0,-1,0,-1))):=by
 have HB:=Ld (zG w (.cells #[.slice ra rn rc,.map (some b)] 61));have HB1:=Ld (HB.out.alloc HB.out.size (.cells #[.int .i64 0,.int .i64 0,.int .i64 0,.int .i64 0] 58));have L:=(h.below HB1.out).look (s:=n) (by unfold maxLen;omega);have c1:((w.alloc (.cells #[.slice ra rn rc,.map (some b)] 61)).alloc (.cells #[.int .i64 0,.int .i64 0,.int .i64 0,.int .i64 0] 58)).cell? ⟨w.heap.size,1,none⟩=some (.map (some b)):=by
  rw[((bR _ _).alloc (nR _) _).cell (p:=⟨w.heap.size,1,none⟩) (by simp)];exact World.news_of_block (cs:=#[.slice ra rn rc,.map (some b)]) (t:=61) (fr:=(0,0)) (heap_alloc_new w _) 1 _ rfl
 clear h;cases hG:G n with
|none =>
  rw[hG] at L;simp only[mO,Option.getD_none,Option.isSome_none] at L |-;clear hG;go_enter Tryz.func31,Tryz.ntmps31;go_wp2;obtain⟨a0,a1,a2,a3⟩:=zA8 (w.alloc (.cells #[.slice ra rn rc,.map (some b)] 61)) ((0:Int),(-1:Int),(0:Int),(-1:Int)) (.cells #[.int .i64 0,.int .i64 0,.int .i64 0,.int .i64 0] 58) (n:=w.heap.size+1) (by simp);refine bodyPost_ret (v:=yO ((0:Int),(-1:Int),(0:Int),(-1:Int))) (by simp[results,Tryz.results31,go_sem,a0,a1,a2,a3,yO]) rfl ⟨rfl,(HB.out.alloc HB.out.size _).alloc (HB.out.alloc HB.out.size _).size _⟩
|some r =>
  obtain⟨r0,r1,r2,r3⟩:=r;rw[hG] at L;simp only[mO,Option.getD_some,Option.isSome_some] at L |-;clear hG;go_enter Tryz.func31,Tryz.ntmps31;go_wp2;obtain⟨a0,a1,a2,a3⟩:=zA8 (w.alloc (.cells #[.slice ra rn rc,.map (some b)] 61)) (r0,r1,r2,r3) (.cells #[.int .i64 r0,.int .i64 r1,.int .i64 r2,.int .i64 r3] 58) (n:=w.heap.size+1) (by simp);refine bodyPost_ret (v:=yO (r0,r1,r2,r3)) (by simp[results,Tryz.results31,go_sem,a0,a1,a2,a3,yO]) rfl ⟨rfl,(HB.out.alloc HB.out.size _).alloc (HB.out.alloc HB.out.size _).size _⟩
theorem fK(ls:List (List UInt8)):zV [] ls=none:=by
 unfold zV
 rw[yR fun t h=>by
  have:=eO (uR.2 ⟨t,h⟩);simp at this]
noncomputable def iJ (env:List En) (r:Int × Int × Int):List UInt8:=(zK7 env r).getD []
theorem yE2{env:List En}(hs:xU env){r:Int × Int × Int}(hP:zI3 env r):(iJ env r).length<=1048576:=by
 unfold iJ;rcases hP with rfl|⟨j,e,he,hok,hj,hk⟩
 ·cases hq:zK7 env (0,-1,0) with
 |none=>simp
 |some t =>
   unfold zK7 at hq;split at hq
   ·rename_i e he;rw[iN (by decide),iN (by decide)] at hq;cases hq;exact(hs.2 _ (List.mem_of_getElem? he)).1.type
   ·cases hq
 ·have hsm:=(hs.2 _ (List.mem_of_getElem? he)).1;rw[cE he hj];split
  ·cases hc:e.1.ctors[r.2.2.toNat]? with
  |none=>simp
  |some c=>exact(hsm.each c (List.mem_of_getElem? hc)).2
  ·split
   ·cases hq:vW e.1 with
   |none=>simp
   |some t=>have:=iI hq;simp only[Option.getD_some];omega
   ·exact hsm.type
theorem zY5{w:World}{B:Nat}{ra:Option Addr}{rn rc:Nat}{env:List En}(h:sJ w B (.slice ra rn rc) env)(hs:xU env)(hr:zI4 env)(hv:Vars w)(hm:MaxLenInt w){b:Nat}{r:Pl}(hP:zI3 env (p3 r))(h0:r.1≠0) :
  Rt 58 #[.agg #[.slice ra rn rc,.map (some b)],yO r] w (.string ⟨(iJ env (p3 r)).toArray⟩):=by
 rcases hP with hq|⟨j,e,he,hok,hj,hk⟩
 ·exact absurd (congrArg Prod.fst hq) h0
 have hsm:=(hs.2 _ (List.mem_of_getElem? he)).1;have hrg:=hr _ (List.mem_of_getElem? he);obtain⟨g,cap,ua,uc,e1,hjl,hox,HC⟩:=yT3 h he;cases e1;have hraw:=cE he hj;have HR:Hid (iJ env (p3 r)=(if r.1=5 then (e.1.ctors[r.2.2.1.toNat]?).map (fun c=>c.2) else if r.1=6 then vW e.1 else some e.1.type).getD []):=by rw[Hid,iJ,hraw];rfl
 generalize iJ env (p3 r)=rw0 at HR |-;have hkd:=pJ hok;obtain⟨what,ri,rk,rl⟩:=r;simp only[p3] at hj hk h0 HR;subst hj;rw[mO];have t1:=zn j;have t2:(j:Int)<(env.length:Int):=by omega
 have HV:=Ld hv;have HM:=Ld hm;have FR:=Ld fun (W:World) (hW:Below w.heap.size w W)=>zM4 (zA hox hW) hsm ⟨hrg.1,hrg.2⟩ (hv.below hW) (hm.below hW);have HO:=Ld hox;have HC0:=Ld HC;have s4:=hsm.ctors;clear h hs hr he hok hraw HC hox hsm hrg hv hm h0;obtain⟨⟨kd,nm,ps,fl,ty,vl,cs⟩,lbs⟩:=e;have hval:=mE kd nm ps fl ty vl cs (.slice ua cs.length uc);simp only[hval] at FR;simp only at HC0 HR HO hk hkd s4;have HB:=Ld ((zG w (.cells #[.slice (some ⟨g,0,none⟩) env.length rc,.map (some b)] 61)).alloc (zG w _).size (.cells #[.int .i64 what,.int .i64 j,.int .i64 rk,.int .i64 rl] 58));obtain⟨c0,c1,c2,c3,c4,c5,c6⟩:=HC0.out _ (bR _ _);obtain⟨b0,b1,b2,b3,b4,b5,b6⟩:=HC0.out _ HB.out;go_enter Tryz.func58,Tryz.ntmps58;have HB3:=Ld (HB.out.alloc HB.out.size (dC kd nm ps fl ty vl (.slice ua cs.length uc) 52));by_cases h5:what=5
 ·subst h5;have hkk:∃ k:Nat,k<cs.length/\rk=(k:Int):=by
   rcases hk with k|k|k
   ·omega
   ·exact k.2
   ·exact absurd k.1 (by decide)
  obtain⟨k,hkl,rfl⟩:=hkk;obtain⟨gc,cc,ec,_,hgc⟩:=HO.out.form (by omega);cases ec;obtain⟨fa,fb⟩:=uE hkl;have y1:=((zA HO.out HB3.out).cellAt (k*2+1) (by omega)).trans fb;rw[iP rfl,Int.toNat_natCast,List.getElem?_eq_getElem hkl] at HR;have q1:=zn k;have q2:(k:Int)<(cs.length:Int):=(by omega);clear fa fb FR hk;generalize cs[k]=ck at y1 HR;obtain⟨cn,ct⟩:=ck;unfold sv at y1;simp only at y1;go_wp2;go_ret;rw[HR.out];exact⟨rfl,HB3.out⟩
 rw[iN h5] at HR;have e5:(what==5)=false:=by rw[bF];exact h5
 by_cases h6:what=6
 ·subst h6;rw[iP rfl] at HR;have f2:=Ld (FR.out _ HB3.out);generalize vW ⟨kd,nm,ps,fl,ty,vl,cs⟩=rt at f2 HR;obtain⟨tt,tb,hq⟩:=vB rt;rw[hq] at f2;have HT:Hid (tt=⟨rw0.toArray⟩):=by
   rw[Hid,HR.out];cases rt with
  |none=>unfold yC at hq;simp at hq;exact hq.1.symm
  |some t=>unfold yC at hq;simp at hq;exact hq.1.symm
  clear FR hk hq;go_wp2_with fail;(with_reducible refine mo f2.out fun w2 hb2=>?_);have HB4:=bt HB3.out hb2;clear f2 hb2;go_wp2;go_ret;rw[HT.out];exact⟨rfl,HB4.out⟩
 ·rw[iN h6] at HR;have e6:(what==6)=false:=(by rw[bF];exact h6);clear FR hk;go_wp2;go_ret;rw[HR.out];exact⟨rfl,HB3.out⟩
theorem yH0{w:World}{B:Nat}{ra:Option Addr}{rn rc b m:Nat}{env:List En}(h:sJ w B (.slice ra rn rc) env)(hs:xU env)(hr:zI4 env)(hv:Vars w)(hm:MaxLenInt w)(ht:TabIs w b m (uX env env.length 0))(n:List UInt8)(hn:n.length<=281474976710656)
  {b2:Nat} {lv:Value} {ls:List (List UInt8)} (hl:w.ownsRow b2 9 1 lv ls.length (ls.map sv)) (hl1:ls.length<=1048576) (hl2:∀ x∈ls,x.length<=1048576) :
  Rt 35 #[.agg #[.slice ra rn rc,.map (some b)],.string ⟨n.toArray⟩,lv] w (yC (sV env n ls)):=by
 obtain⟨la,lc,rfl⟩:=yW hl;have HB:=Ld (zG w (.cells #[.slice ra rn rc,.map (some b)] 61));have f1:=Ld (yS7 (ra:=ra) (rn:=rn) (rc:=rc) (ht.below HB.out) n hn);have hLE:iX env n=tK env (vN env n):=rfl;rw[yB7,xH6,hLE] at f1;have HX:=Ld (xF3 (w:=w) (s:=.slice ra rn rc) (m:=.map (some b)));have hP:=gJ env n;have HE:Hid (sV env n ls=eN env (vN env n) ls):=rfl;have FA:=Ld fun (l:Int) (h0:(vN env n).1≠0) (W:World) (hW:Below w.heap.size w W)=>zY5 (h.below hW) hs hr (hv.below hW) (hm.below hW) (b:=b) (r:=((vN env n).1,(vN env n).2.1,(vN env n).2.2,l)) hP h0;have FT:=Ld fun (W:World) (hW:Below w.heap.size w W) (t:List UInt8) (hx:t.length<=1048576)=>fX ⟨t.toArray⟩ (hv.below hW) (by rw[zO];unfold maxLen;omega) (zA hl hW) (fun x hx=>by have:=hl2 x hx;unfold maxLen;omega) (by omega);have hrl:(iJ env (vN env n)).length<=1048576:=yE2 hs hP;generalize sV env n ls=vf at HE |-;generalize vN env n=r at f1 HE hP FA hrl;have HVE:Hid (vf=if (ls.length:Int)≠tK env r then none else zV (iJ env r) ls):=by
  rw[Hid,HE.out,eN];by_cases hq:(ls.length:Int)≠tK env r
  ·rw[iP (.inr hq),iP hq]
  ·have h0:r.1≠0:=by
    intro h0;apply hq;unfold tK;rw[iP h0];omega
   rw[iN (fun h=>h.elim h0 hq),iN hq,iJ];cases zK7 env r with
  |none=>exact(fK ls).symm
  |some t=>rfl
 have HN0:Hid ((ls.length:Int)=tK env r->r.1≠0):=by
  intro hq h0;unfold tK at hq;rw[iP h0] at hq;omega
 clear h hs hr hv hm ht hl hl2 hLE HE hP;obtain⟨x0,x1⟩:=HX.out _ (bR _ _);obtain⟨r0,r1,r2⟩:=r;generalize tK env (r0,r1,r2)=mm at f1 HVE HN0;simp only[mO,p3] at f1 FA HN0;go_enter Tryz.func35,Tryz.ntmps35;go_wp2_with fail;(with_reducible refine mo f1.out fun w1 hb1=>?_);have HBX:=Ld (hb1.alloc hb1.size (.cells #[.int .i64 r0,.int .i64 r1,.int .i64 r2,.int .i64 mm] 58));have HB1:=Ld (HB.out.trans (HBX.out.mono HB.out.size));clear hb1 f1 x0 x1;obtain⟨x0,x1⟩:=HX.out _ HBX.out;by_cases hm:(ls.length:Int)=mm;rotate_left
 ·have em:((ls.length:Int) != mm)=true:=(by rw[bne_iff_ne];exact hm);have HF:Hid (vf=none):=(by rw[Hid,HVE.out,iP hm]);clear FA FT HVE hm HN0;go_wp2;refine bodyPost_ret (v:=.tuple #[.string ⟨#[]⟩,.bool false]) (by simp[results,Tryz.results35,go_sem]) rfl ⟨by rw[HF.out];rfl,HB1.out⟩
 ·subst hm;have HF:Hid (vf=zV (iJ env (r0,r1,r2)) ls):=(by rw[Hid,HVE.out,iN (fun h=>h rfl)]);have FA2:=Ld (FA.out (ls.length:Int) (HN0.out rfl) _ HB1.out);have FT2:=Ld fun (W:World) (hW:Below w.heap.size w W)=>FT.out W hW _ hrl;generalize iJ env (r0,r1,r2)=rw0 at FA2 FT2 HF;generalize zV rw0 ls=tl at FT2 HF;obtain⟨tt,tb,hq⟩:=vB tl;rw[hq] at FT2;clear FA FT HVE HN0 hrl HX;go_wp2_with fail;(with_reducible refine mo FA2.out fun w3 hb3=>?_);have HB3:=bt HB1.out hb3;have f4:=Ld (FT2.out _ HB3.out);clear FA2 FT2 hb3;go_wp2_with fail;(with_reducible refine mo f4.out fun w4 hb4=>?_);have HB4:=bt HB3.out hb4;clear f4 hb4;go_wp2;refine bodyPost_ret (v:=.tuple #[.string tt,.bool tb]) (by simp[results,Tryz.results35,go_sem]) rfl ⟨by rw[HF.out,hq],HB4.out⟩
theorem zM2{w:World}{B:Nat}{v:Value}{env:List En}(h:sJ w B v env)(hs:xU env)(hr:zI4 env)(hv:Vars w)(hm:MaxLenInt w)(n:List UInt8)(hn:n.length<=281474976710656)
  {b2:Nat} {lv:Value} {ls:List (List UInt8)} (hl:w.ownsRow b2 9 1 lv ls.length (ls.map sv)) (hl1:ls.length<=1048576) (hl2:∀ x∈ls,x.length<=1048576) :
  Rt 18 #[v,.string ⟨n.toArray⟩,lv] w (yC (sV env n ls)):=by
 obtain⟨ra,rc,rfl⟩:=h.len;obtain⟨la,lc,rfl⟩:=yW hl;have f1:=Ld (yH6 h hs hr hv hm);have F2:=Ld fun (W:World) (hW:Below w.heap.size w W) (b:Nat) (ht:TabIs W b (vU env).length (uX env env.length 0))=>yH0 (h.below hW) hs hr (hv.below hW) (hm.below hW) ht n hn (zA hl hW) hl1 hl2;generalize sV env n ls=vf at F2 |-;obtain⟨tt,tb,hq⟩:=vB vf;rw[hq] at F2 |-;clear h hs hr hv hm hl hl2 hq;go_enter Tryz.func18,Tryz.ntmps18;go_wp2_with fail;(with_reducible refine f1.out.mono ?_);rintro e w1 ⟨b,rfl,ht,hb1⟩;have f2:=Ld (F2.out _ hb1 b ht);have HB1:=Ld hb1;clear f1 F2 hb1 ht;go_wp2_with fail;(with_reducible refine mo f2.out fun w2 hb2=>?_);have HB2:=bt HB1.out hb2;clear f2 hb2;go_wp2;refine bodyPost_ret (v:=.tuple #[.string tt,.bool tb]) (by simp[results,Tryz.results18,go_sem]) rfl ⟨rfl,HB2.out⟩
end Go.Proofs.YtcaahdjhbmmcnaaGreatDoor
