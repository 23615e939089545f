import Derived.Test.YtfohdgplaimomaaGreatDoorTQI
import Derived.Test.YtfohdgplaimomaaGreatDoorTQD
import Derived.Test.YtfohdgplaimomaaGreatDoorTKQ
import Derived.Test.YtfohdgplaimomaaGreatDoorTQT
import Derived.Test.YtfohdgplaimomaaGreatDoorTK6
import Derived.Test.YtfohdgplaimomaaGreatDoorTHL
set_option maxRecDepth 100000
set_option maxHeartbeats 16000000
set_option linter.unusedSimpArgs false
set_option linter.unusedVariables false
namespace Go.Proofs.YtfohdgplaimomaaGreatDoor
open Go.ChangeShapes Go.WideShapes Go.ChangeAt Go.RowKit
theorem tab_found{env:List En}(n:List UInt8):(uU env env.length 0 n).getD (0,-1,0)=uD env n:=(tabAt_end n).symm
theorem pY(r:Int × Int × Int):yO r=.agg #[.int .i64 r.1,.int .i64 r.2.1,.int .i64 r.2.2]:=rfl
theorem implFind{w:World}{ra:Option Addr}{rn rc b m:Nat}{G:List UInt8->Option (Int × Int × Int)}(h:TabIs w b m G)(n:List UInt8)(hn:n.length<=281474976710656) :
  Rt 31 #[.agg #[.slice ra rn rc,.map (some b)],.string ⟨n.toArray⟩] w (yO ((G n).getD (0,-1,0))):=by
 have HB:=Ld (zG w (.cells #[.slice ra rn rc,.map (some b)] 61));have HB1:=Ld (HB.out.alloc HB.out.size (.cells #[.int .i64 0,.int .i64 0,.int .i64 0] 58));have L:=(h.below HB1.out).look (s:=n) (by unfold maxLen;omega);have c1:((w.alloc (.cells #[.slice ra rn rc,.map (some b)] 61)).alloc (.cells #[.int .i64 0,.int .i64 0,.int .i64 0] 58)).cell? ⟨w.heap.size,1,none⟩=some (.map (some b)):=by
  rw[((bR _ _).alloc (nR _) _).cell (p:=⟨w.heap.size,1,none⟩) (by simp)];exact World.news_of_block (cs:=#[.slice ra rn rc,.map (some b)]) (t:=61) (fr:=(0,0)) (heap_alloc_new w _) 1 _ rfl
 clear h;cases hG:G n with
|none =>
  rw[hG] at L;simp only[pY,Option.getD_none,Option.isSome_none] at L |-;clear hG;go_enter Tryz.func31,Tryz.ntmps31;go_wp2;obtain⟨a0,a1,a2⟩:=placeBox2 (w.alloc (.cells #[.slice ra rn rc,.map (some b)] 61)) ((0:Int),(-1:Int),(0:Int)) (.cells #[.int .i64 0,.int .i64 0,.int .i64 0] 58) (n:=w.heap.size+1) (by simp);refine bodyPost_ret (v:=yO ((0:Int),(-1:Int),(0:Int))) (by simp[results,Tryz.results31,go_sem,a0,a1,a2,yO]) rfl ⟨rfl,(HB.out.alloc HB.out.size _).alloc (HB.out.alloc HB.out.size _).size _⟩
|some r =>
  obtain⟨r0,r1,r2⟩:=r;rw[hG] at L;simp only[pY,Option.getD_some,Option.isSome_some] at L |-;clear hG;go_enter Tryz.func31,Tryz.ntmps31;go_wp2;obtain⟨a0,a1,a2⟩:=placeBox2 (w.alloc (.cells #[.slice ra rn rc,.map (some b)] 61)) (r0,r1,r2) (.cells #[.int .i64 r0,.int .i64 r1,.int .i64 r2] 58) (n:=w.heap.size+1) (by simp);refine bodyPost_ret (v:=yO (r0,r1,r2)) (by simp[results,Tryz.results31,go_sem,a0,a1,a2,yO]) rfl ⟨rfl,(HB.out.alloc HB.out.size _).alloc (HB.out.alloc HB.out.size _).size _⟩
theorem implLevelsE{w:World}{B:Nat}{ra:Option Addr}{rn rc b m:Nat}{env:List En}(h:sD w B (.slice ra rn rc) env)(hs:xR env)(hr:EnvRng env)(hv:Vars w)(hm:MaxLenInt w)(ht:TabIs w b m (uU env env.length 0))(n:List UInt8)(hn:n.length<=281474976710656) :
  Rt 34 #[.agg #[.slice ra rn rc,.map (some b)],.string ⟨n.toArray⟩] w (.int .i64 (mS env n)):=by
 have HB:=Ld (zG w (.cells #[.slice ra rn rc,.map (some b)] 61));have f1:=Ld (implFind (ra:=ra) (rn:=rn) (rc:=rc) (ht.below HB.out) n hn);rw[tab_found] at f1;have HX:=Ld (envBox (w:=w) (s:=.slice ra rn rc) (m:=.map (some b)));have hP:=lB env n;have HE:Hid (mS env n=sC env (uD env n)):=rfl;obtain⟨x0,x1⟩:=HX.out _ (bR _ _);generalize mS env n=lv at HE |-;generalize uD env n=r at f1 HE hP;clear ht;rcases hP with rfl|⟨j,e,he,hok,hj,hk⟩
 ·have HF:Hid (lv=-1):=(by rw[Hid,HE.out];rfl);simp only[pY] at f1;clear h HE hs hr;go_enter Tryz.func34,Tryz.ntmps34;go_wp2_with fail;(with_reducible refine mo f1.out fun w1 hb1=>?_);have HB1:=bt HB.out hb1;clear hb1 f1;go_wp2;go_ret;rw[HF.out];exact⟨rfl,HB1.out.alloc HB1.out.size _⟩
 have hkd:=pJ hok;have h0:r.1≠0:=by
  rcases hk with h|h|h
  ·rw[h.1];omega
  ·rw[h.1];decide
  ·rw[h.1];decide
 have HM:=Ld (manyOf_at he hj h0);have hsm:=(hs.2 _ (List.mem_of_getElem? he)).1;have hrg:=hr _ (List.mem_of_getElem? he);rw[← HE.out] at HM;obtain⟨g,cap,ua,uc,e1,hjl,hox,HC⟩:=env_open h he;cases e1;obtain⟨what,ri,rk⟩:=r;simp only at h0 hj HM;subst hj;simp only[pY] at f1;have HCx:=Ld HC;have t1:=zn j;have t2:(j:Int)<(env.length:Int):=by omega
 have q0:(what==0)=false:=by rw[bF];exact h0
 have HO:=Ld hox;have HRL:=Ld fun (W:World) (hW:Below w.heap.size w W)=>implRecLevels (zA hox hW) hsm ⟨hrg.1,hrg.2⟩ (hv.below hW) (hm.below hW);clear h HE hs hr he hok hk hkd HC hox hsm hrg hv hm h0;obtain⟨⟨kd,nm,ps,fl,ty,vl,cs⟩,ls⟩:=e;have hval:=nZ kd nm ps fl ty vl cs (.slice ua cs.length uc);simp only[hval] at HCx HRL HM HO;by_cases h6:what=6
 ·subst h6;rw[iP rfl] at HM;go_enter Tryz.func34,Tryz.ntmps34;go_wp2_with fail;(with_reducible refine mo f1.out fun w1 hb1=>?_);have HB1:=bt HB.out hb1;have HB2:=Ld (HB1.out.alloc HB1.out.size (.cells #[.int .i64 6,.int .i64 j,.int .i64 rk] 58));obtain⟨y0,y1⟩:=HX.out _ (hb1.alloc hb1.size (.cells #[.int .i64 6,.int .i64 j,.int .i64 rk] 58));obtain⟨c0,c1,c2,c3,c4,c5,c6⟩:=HCx.out _ HB2.out;clear hb1 f1 HX HCx x0 x1;have f2:=Ld (HRL.out _ HB2.out);go_wp2_with fail;(with_reducible refine mo f2.out fun w2 hb2=>?_);have HB3:=bt HB2.out hb2;clear f2 hb2 HRL;rw[← HM.out];go_wp2;go_ret;exact⟨rfl,HB3.out⟩
 ·have q6:(what==6)=false:=(by rw[bF];exact h6);rw[iN h6] at HM;go_enter Tryz.func34,Tryz.ntmps34;go_wp2_with fail;(with_reducible refine mo f1.out fun w1 hb1=>?_);have HB1:=bt HB.out hb1;have HB2:=Ld (HB1.out.alloc HB1.out.size (.cells #[.int .i64 what,.int .i64 j,.int .i64 rk] 58));obtain⟨y0,y1⟩:=HX.out _ (hb1.alloc hb1.size (.cells #[.int .i64 what,.int .i64 j,.int .i64 rk] 58));obtain⟨c0,c1,c2,c3,c4,c5,c6⟩:=HCx.out _ HB2.out;clear hb1 f1 HX HCx x0 x1;clear HRL;go_wp2;go_ret;rw[HM.out];exact⟨rfl,HB2.out⟩
theorem fK(ls:List (List UInt8)):zV [] ls=none:=by
 unfold zV
 rw[yR fun t h=>by
  have:=eO (uP.2 ⟨t,h⟩);simp at this]
noncomputable def iL (env:List En) (r:Int × Int × Int):List UInt8:=(rawOf env r).getD []
theorem rawAt_len{env:List En}(hs:xR env){r:Int × Int × Int}(hP:FoundP env r):(iL env r).length<=1048576:=by
 unfold iL;rcases hP with rfl|⟨j,e,he,hok,hj,hk⟩
 ·cases hq:rawOf env (0,-1,0) with
 |none=>simp
 |some t =>
   unfold rawOf at hq;split at hq
   ·rename_i e he;rw[iN (by decide),iN (by decide)] at hq;cases hq;exact(hs.2 _ (List.mem_of_getElem? he)).1.type
   ·cases hq
 ·have hsm:=(hs.2 _ (List.mem_of_getElem? he)).1;rw[rawOf_at he hj];split
  ·cases hc:e.1.ctors[r.2.2.toNat]? with
  |none=>simp
  |some c=>exact(hsm.each c (List.mem_of_getElem? hc)).2
  ·split
   ·cases hq:vV e.1 with
   |none=>simp
   |some t=>have:=iK hq;simp only[Option.getD_some];omega
   ·exact hsm.type
theorem implTypeAt{w:World}{B:Nat}{ra:Option Addr}{rn rc:Nat}{env:List En}(h:sD w B (.slice ra rn rc) env)(hs:xR env)(hr:EnvRng env)(hv:Vars w)(hm:MaxLenInt w){b:Nat}{r:Int × Int × Int}(hP:FoundP env r)(h0:r.1≠0) :
  Rt 60 #[.agg #[.slice ra rn rc,.map (some b)],yO r] w (.string ⟨(iL env r).toArray⟩):=by
 rcases hP with rfl|⟨j,e,he,hok,hj,hk⟩
 ·exact absurd rfl h0
 have hsm:=(hs.2 _ (List.mem_of_getElem? he)).1;have hrg:=hr _ (List.mem_of_getElem? he);obtain⟨g,cap,ua,uc,e1,hjl,hox,HC⟩:=env_open h he;cases e1;have hraw:=rawOf_at he hj;have HR:Hid (iL env r=(if r.1=5 then (e.1.ctors[r.2.2.toNat]?).map (fun c=>c.2) else if r.1=6 then vV e.1 else some e.1.type).getD []):=by rw[Hid,iL,hraw]
 generalize iL env r=rw0 at HR |-;have hkd:=pJ hok;obtain⟨what,ri,rk⟩:=r;simp only at hj hk h0 HR;subst hj;rw[pY];have t1:=zn j;have t2:(j:Int)<(env.length:Int):=by omega
 have HV:=Ld hv;have HM:=Ld hm;have FR:=Ld fun (W:World) (hW:Below w.heap.size w W)=>implRecType (zA hox hW) hsm ⟨hrg.1,hrg.2⟩ (hv.below hW) (hm.below hW);have HO:=Ld hox;have HC0:=Ld HC;have s4:=hsm.ctors;clear h hs hr he hok hraw HC hox hsm hrg hv hm h0;obtain⟨⟨kd,nm,ps,fl,ty,vl,cs⟩,lbs⟩:=e;have hval:=nZ kd nm ps fl ty vl cs (.slice ua cs.length uc);simp only[hval] at FR;simp only at HC0 HR HO hk hkd s4;have HB:=Ld ((zG w (.cells #[.slice (some ⟨g,0,none⟩) env.length rc,.map (some b)] 61)).alloc (zG w _).size (.cells #[.int .i64 what,.int .i64 j,.int .i64 rk] 58));obtain⟨c0,c1,c2,c3,c4,c5,c6⟩:=HC0.out _ (bR _ _);obtain⟨b0,b1,b2,b3,b4,b5,b6⟩:=HC0.out _ HB.out;go_enter Tryz.func60,Tryz.ntmps60;have HB3:=Ld (HB.out.alloc HB.out.size (dC kd nm ps fl ty vl (.slice ua cs.length uc) 52));by_cases h5:what=5
 ·subst h5;have hkk:∃ k:Nat,k<cs.length/\rk=(k:Int):=by
   rcases hk with k|k|k
   ·omega
   ·exact k.2
   ·exact absurd k.1 (by decide)
  obtain⟨k,hkl,rfl⟩:=hkk;obtain⟨gc,cc,ec,_,hgc⟩:=HO.out.form (by omega);cases ec;obtain⟨fa,fb⟩:=uB hkl;have y1:=((zA HO.out HB3.out).cellAt (k*2+1) (by omega)).trans fb;rw[iP rfl,Int.toNat_natCast,List.getElem?_eq_getElem hkl] at HR;have q1:=zn k;have q2:(k:Int)<(cs.length:Int):=(by omega);clear fa fb FR hk;generalize cs[k]=ck at y1 HR;obtain⟨cn,ct⟩:=ck;unfold sv at y1;simp only at y1;go_wp2;go_ret;rw[HR.out];exact⟨rfl,HB3.out⟩
 rw[iN h5] at HR;have e5:(what==5)=false:=by rw[bF];exact h5
 by_cases h6:what=6
 ·subst h6;rw[iP rfl] at HR;have f2:=Ld (FR.out _ HB3.out);generalize vV ⟨kd,nm,ps,fl,ty,vl,cs⟩=rt at f2 HR;obtain⟨tt,tb,hq⟩:=vB rt;rw[hq] at f2;have HT:Hid (tt=⟨rw0.toArray⟩):=by
   rw[Hid,HR.out];cases rt with
  |none=>unfold yC at hq;simp at hq;exact hq.1.symm
  |some t=>unfold yC at hq;simp at hq;exact hq.1.symm
  clear FR hk hq;go_wp2_with fail;(with_reducible refine mo f2.out fun w2 hb2=>?_);have HB4:=bt HB3.out hb2;clear f2 hb2;go_wp2;go_ret;rw[HT.out];exact⟨rfl,HB4.out⟩
 ·rw[iN h6] at HR;have e6:(what==6)=false:=(by rw[bF];exact h6);clear FR hk;go_wp2;go_ret;rw[HR.out];exact⟨rfl,HB3.out⟩
theorem implTypeE{w:World}{B:Nat}{ra:Option Addr}{rn rc b m:Nat}{env:List En}(h:sD w B (.slice ra rn rc) env)(hs:xR env)(hr:EnvRng env)(hv:Vars w)(hm:MaxLenInt w)(ht:TabIs w b m (uU env env.length 0))(n:List UInt8)(hn:n.length<=281474976710656)
  {b2:Nat} {lv:Value} {ls:List (List UInt8)} (hl:w.ownsRow b2 9 1 lv ls.length (ls.map sv)) (hl1:ls.length<=1048576) (hl2:∀ x∈ls,x.length<=1048576) :
  Rt 36 #[.agg #[.slice ra rn rc,.map (some b)],.string ⟨n.toArray⟩,lv] w (yC (sU env n ls)):=by
 obtain⟨la,lc,rfl⟩:=yW hl;have HB:=Ld (zG w (.cells #[.slice ra rn rc,.map (some b)] 61));have HX:=Ld (envBox (w:=w) (s:=.slice ra rn rc) (m:=.map (some b)));have hP:=lB env n;have HE:Hid (sU env n ls=eN env (uD env n) ls):=rfl;have FL:=Ld fun (W:World) (hW:Below w.heap.size w W)=>implLevelsE (h.below hW) hs hr (hv.below hW) (hm.below hW) (ht.below hW) n hn;have FF:=Ld fun (W:World) (hW:Below w.heap.size w W)=>implFind (ra:=ra) (rn:=rn) (rc:=rc) (ht.below hW) n hn;have FA:=Ld fun (h0:(uD env n).1≠0) (W:World) (hW:Below w.heap.size w W)=>implTypeAt (h.below hW) hs hr (hv.below hW) (hm.below hW) (b:=b) hP h0;have hLE:mS env n=sC env (uD env n):=rfl;rw[hLE] at FL;rw[tab_found] at FF;have FT:=Ld fun (W:World) (hW:Below w.heap.size w W) (t:List UInt8) (hx:t.length<=1048576)=>fX ⟨t.toArray⟩ (hv.below hW) (by rw[zO];unfold maxLen;omega) (zA hl hW) (fun x hx=>by have:=hl2 x hx;unfold maxLen;omega) (by omega);have hrl:(iL env (uD env n)).length<=1048576:=rawAt_len hs hP;generalize sU env n ls=vf at HE |-;generalize uD env n=r at FF HE hP FL FA hrl;have HVE:Hid (vf=if (ls.length:Int)≠sC env r then none else zV (iL env r) ls):=by
  rw[Hid,HE.out,eN];by_cases hq:(ls.length:Int)≠sC env r
  ·rw[iP (.inr hq),iP hq]
  ·have h0:r.1≠0:=by
    intro h0;apply hq;unfold sC;rw[iP h0];omega
   rw[iN (fun h=>h.elim h0 hq),iN hq,iL];cases rawOf env r with
  |none=>exact(fK ls).symm
  |some t=>rfl
 have HN0:Hid ((ls.length:Int)=sC env r->r.1≠0):=by
  intro hq h0;unfold sC at hq;rw[iP h0] at hq;omega
 clear h hs hr hv hm ht hl hl2 hLE HE hP;obtain⟨x0,x1⟩:=HX.out _ (bR _ _);have f1:=Ld (FL.out _ HB.out);generalize sC env r=mm at f1 HVE HN0;clear FL;go_enter Tryz.func36,Tryz.ntmps36;go_wp2_with fail;(with_reducible refine mo f1.out fun w1 hb1=>?_);have HBX:=Ld hb1;have HB1:=bt HB.out hb1;clear hb1 f1 x0 x1;obtain⟨x0,x1⟩:=HX.out _ HBX.out;by_cases hm:(ls.length:Int)=mm;rotate_left
 ·have em:((ls.length:Int) != mm)=true:=(by rw[bne_iff_ne];exact hm);have HF:Hid (vf=none):=(by rw[Hid,HVE.out,iP hm]);clear FF FA FT HVE hm HN0;go_wp2;refine bodyPost_ret (v:=.tuple #[.string ⟨#[]⟩,.bool false]) (by simp[results,Tryz.results36,go_sem]) rfl ⟨by rw[HF.out];rfl,HB1.out⟩
 ·subst hm;have HF:Hid (vf=zV (iL env r) ls):=(by rw[Hid,HVE.out,iN (fun h=>h rfl)]);have FA2:=Ld (FA.out (HN0.out rfl));have FT2:=Ld fun (W:World) (hW:Below w.heap.size w W)=>FT.out W hW _ hrl;generalize iL env r=rw0 at FA2 FT2 HF;generalize zV rw0 ls=tl at FT2 HF;obtain⟨tt,tb,hq⟩:=vB tl;rw[hq] at FT2;clear FA FT HVE HN0 hrl;have HBd:=Ld HB1.out.drew;have hXd:=HBX.out.drew;go_wp2;go_region_held3 (fun w'=>w'.cell? ⟨w.heap.size,0,none⟩=some (.slice ra rn rc)/\w'.cell? ⟨w.heap.size,1,none⟩=some (.map (some b))) (first|exact X4|exact X3|exact X2|exact⟨x0,x1⟩)
   (first|(go_at_call 31;(with_reducible refine mo (FF.out _ HBd.out) fun w2 hb2=>?_);have h2:=bt HBd.out hb2;have d2:=hXd.trans (hb2.mono hXd.size);have X2:=HX.out _ d2)|(go_at_call 60;(with_reducible refine mo (FA2.out _ h2.out) fun w3 hb3=>?_);have h3:=bt h2.out hb3;have d3:=d2.trans (hb3.mono d2.size);have X3:=HX.out _ d3)|(go_at_call 59;(with_reducible refine mo (FT2.out _ h3.out) fun w4 hb4=>?_);have h4:=bt h3.out hb4;have d4:=d3.trans (hb4.mono d3.size);have X4:=HX.out _ d4))
  go_wp2;refine bodyPost_ret (v:=.tuple #[.string tt,.bool tb]) (by simp[results,Tryz.results36,go_sem]) rfl ⟨by rw[HF.out,hq],h4.out⟩
theorem implTypeFor{w:World}{B:Nat}{v:Value}{env:List En}(h:sD w B v env)(hs:xR env)(hr:EnvRng env)(hv:Vars w)(hm:MaxLenInt w)(n:List UInt8)(hn:n.length<=281474976710656)
  {b2:Nat} {lv:Value} {ls:List (List UInt8)} (hl:w.ownsRow b2 9 1 lv ls.length (ls.map sv)) (hl1:ls.length<=1048576) (hl2:∀ x∈ls,x.length<=1048576) :
  Rt 18 #[v,.string ⟨n.toArray⟩,lv] w (yC (sU env n ls)):=by
 obtain⟨ra,rc,rfl⟩:=h.len;obtain⟨la,lc,rfl⟩:=yW hl;have f1:=Ld (implEnvOf h hs hr hv hm);have F2:=Ld fun (W:World) (hW:Below w.heap.size w W) (b:Nat) (ht:TabIs W b (vT env).length (uU env env.length 0))=>implTypeE (h.below hW) hs hr (hv.below hW) (hm.below hW) ht n hn (zA hl hW) hl1 hl2;generalize sU env n ls=vf at F2 |-;obtain⟨tt,tb,hq⟩:=vB vf;rw[hq] at F2 |-;clear h hs hr hv hm hl hl2 hq;go_enter Tryz.func18,Tryz.ntmps18;go_wp2_with fail;(with_reducible refine f1.out.mono ?_);rintro e w1 ⟨b,rfl,ht,hb1⟩;have f2:=Ld (F2.out _ hb1 b ht);have HB1:=Ld hb1;clear f1 F2 hb1 ht;go_wp2_with fail;(with_reducible refine mo f2.out fun w2 hb2=>?_);have HB2:=bt HB1.out hb2;clear f2 hb2;go_wp2;refine bodyPost_ret (v:=.tuple #[.string tt,.bool tb]) (by simp[results,Tryz.results18,go_sem]) rfl ⟨rfl,HB2.out⟩
end Go.Proofs.YtfohdgplaimomaaGreatDoor
