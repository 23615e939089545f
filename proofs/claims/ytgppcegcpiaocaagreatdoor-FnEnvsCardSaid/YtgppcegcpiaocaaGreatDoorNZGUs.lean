/- QKn QMem GUse2 -/
import Derived.Deep.RegionHeld3
import Derived.Deep.DeepCutAuto
import Derived.BigQuiet
import Derived.Test.YtgppcegcpiaocaaGreatDoorNQD
import Derived.Test.YtgppcegcpiaocaaGreatDoorNQB
import Derived.Test.YtgppcegcpiaocaaGreatDoorNQG
import Derived.Test.YtgppcegcpiaocaaGreatDoorNG3
import Derived.Test.YtgppcegcpiaocaaGreatDoorNG2
set_option maxRecDepth 100000
set_option maxHeartbeats 16000000
set_option linter.unusedSimpArgs false
set_option linter.unusedVariables false
namespace Go.Proofs.YtgppcegcpiaocaaGreatDoor
open Go.ChangeShapes Go.WideShapes Go.ChangeAt Go.RowKit
theorem yI6{w:World}{B:Nat}{v:Value}{env:List En}(h:uL w B v env)(hs:vE env)(hl:(zX env).length<=1000000) :
  Calls Tryz.prog 7 #[v] w (nZ (tW env) w):=by
 obtain⟨xs,hx,hr,ho⟩:=h;have hlx:xs.length=env.length:=by rw[← hx,List.length_map]
 obtain⟨ra,rc,rfl⟩:=zK hr;rw[hlx] at hr |-;have HAT:=Ld fun (k:Nat) (hk:k<env.length)=>zL1 hx hk;have HS:=Ld hs.2;have hlen:=hs.1;have HR:=Ld hr;have HO:=Ld ho;have HL:=Ld hlx;have HKL:=Ld fun k=>Nat.le_trans (iI (env:=env) k) hl;have HKS:=Ld fun (k:Nat) (hk:k<env.length)=>kB hk;obtain⟨ka,hka⟩:∃ ka:Nat->List (List UInt8),(fun k=>zX (env.take k))=ka:=⟨_,rfl⟩;have E0:ka 0=[]:=by rw[← hka];rfl
 have E9:Hid (tW env=srt (ka env.length)):=by rw[Hid,← hka];show _=srt (zX (env.take env.length));rw[List.take_length];rfl
 have EL:Hid (∀ k,(ka k).length<=1000000):=by rw[← hka];exact HKL
 have ES:Hid (∀ (k:Nat) (hk:k<env.length),ka (k+1)=ka k++zO env[k].1):=by rw[← hka];exact HKS
 have hrow0:Hid ((w.alloc (.cells #[] 9)).ownsRow w.heap.size 9 1 (.slice (some ⟨w.heap.size,0,none⟩) 0 0) 0 []):=World.ownsRow_lit w #[] 0 (nR _) (by decide) (by simp);have HA:=Ld (zE w (.cells #[] 9));clear hr ho hx hlx hs hl hka HKL HKS;go_enter Tryz.func7,Tryz.ntmps7;go_wp2;go_loopw [3,4] (fun o i wr=>∃ (k:Nat) (oo:Value),k<=env.length/\i=.int .i64 k/\oo=o/\Hid (wr.ownsRow w.heap.size 9 1 oo (ka k).length ((ka k).map sv))/\Hid (Below w.heap.size w wr)) (fun _ i _=>env.length - (intOf i).toNat)
 case atStart=>exact⟨0,_,Nat.zero_le _,rfl,rfl,by rw[E0];exact hrow0.out,HA.out⟩
 case round =>
  obtain⟨k,oo,hk,rfl,rfl,HOut,HW⟩:=hrel;clear hrow0 HA E0;have hz:=HW.out.size;have hlk:=EL.out k;by_cases hlt:k<env.length;rotate_left
  ·obtain rfl:k=env.length:=(by omega);have fS:=Ld (gZ HOut.out hlk);clear HAT HS HR HO HL EL ES;generalize srt (ka env.length)=sl at fS E9;clear hlk;go_wp2_with fail;(with_reducible refine fS.out.mono ?_);rintro e w8 ⟨v8,rfl,hv8,hb8⟩;have HW8:=Ld (HW.out.trans (hb8.mono hz));have HV8:=Ld (yG hv8 hz);clear hv8 hb8 fS HOut;go_wp2;go_ret;rw[E9.out];exact⟨_,rfl,HV8.out,HW8.out⟩
  obtain⟨x,ex,mx,hek⟩:=HAT.out k hlt;have hsm:=HS.out _ (List.getElem_mem hlt);have HT:=Ld (ES.out k hlt);have hl2:=EL.out (k+1);rw[hek] at hsm HT;obtain⟨g,cap,e0,_,hgl⟩:=HR.out.form (by omega);cases e0;have a8:=nH (zA HR.out HW.out) hlt HL.out ex;have p0:=a8 0 (by decide);have p1:=a8 1 (by decide);have p2:=a8 2 (by decide);have p3:=a8 3 (by decide);have p4:=a8 4 (by decide);have p5:=a8 5 (by decide);have p6:=a8 6 (by decide);have p7:=a8 7 (by decide);have hox:=((HO.out x mx).below HW.out).1;have f1:=Ld (zN8 hox hsm.1);clear a8 ex mx hek HAT HS HR HO HL EL ES E9;obtain⟨⟨⟨kd,nm,ps,fl,ty,vl,cs⟩,ls⟩,u,vv⟩:=x;obtain⟨ua,uc,hu⟩:=zK hox;simp only at hu;subst hu;have hval:=gG kd nm ps fl ty vl cs (.slice ua cs.length uc);simp only[hval] at f1;simp only at HT;simp only[rT,sv,List.getElem?_cons_zero,List.getElem?_cons_succ,Nat.add_zero,Nat.zero_add] at p0 p1 p2 p3 p4 p5 p6 p7;have t1:=zn k;have t2:(k:Int)<(env.length:Int):=(by omega);clear hox hsm hval;generalize zO ⟨kd,nm,ps,fl,ty,vl,cs⟩=nl at f1 HT;have hnl:(ka k).length+nl.length<=1000000:=by
   have h1:=congrArg List.length HT.out;rw[lA] at h1;omega
  go_wp2_with fail;(with_reducible refine f1.out.mono ?_);rintro e w5 ⟨v5,rfl,hv5,hb5⟩;go_wp2_with (at_builtin;refine dJ rfl _ _ rfl rfl rfl (zA HOut.out hb5) hv5 hnl (Nat.le_trans hz hb5.size) ?_;intro vA wA hoA hbA);have HO2:Hid (wA.ownsRow w.heap.size 9 1 vA (ka (k+1)).length ((ka (k+1)).map sv)):=by
   rw[Hid,HT.out];exact hoA
  have HW2:Hid (Below w.heap.size w wA):=(HW.out.trans (hb5.mono hz)).trans hbA;clear hoA hbA hv5 hb5 f1 HT p0 p1 p2 p3 p4 p5 p6 p7;go_wp2;go_roundw
  case rel=>exact⟨k+1,_,by omega,by go_num,rfl,HO2.out,HW2.out⟩
  case measure=>simp[intOf];omega
theorem dX{d:Dc}{n:List UInt8}(h:n∈zO d):zJ d=true/\0<=yL d n:=by
 unfold zO at h;split at h
 ·rename_i hok;refine⟨hok,?_⟩;unfold yL;split
  ·exact Int.le_refl _
  ·rename_i hne;split
   ·omega
   ·rename_i hno;rw[List.findIdx?_eq_none_iff] at hno;rw[List.mem_append,List.mem_cons,List.mem_map] at h;rcases h with (h|⟨c,hc,h⟩)|h
    ·exact absurd h.symm hne
    ·have:=hno c hc;simp only[decide_eq_false_iff_not] at this;exact absurd h this
    ·split at h
     ·rename_i h4;simp only[List.mem_cons,List.not_mem_nil,or_false] at h;rw[iP ⟨h4,h.symm⟩];omega
     ·cases h
 ·cases h
theorem xB2{n:List UInt8}:∀ {es:List En} {i:Nat},n∈zX es->(qN n es i).1≠0:=by
 intro es
 induction es with
|nil=>intro i h;simp[zX] at h
|cons e es ih =>
  intro i h;rw[qN];by_cases hc:0<=yL e.1 n/\zJ e.1=true
  ·rw[iP hc];have hk:=(oC hc.2).1;split
   ·show e.1.kind≠0;omega
   ·split
    ·show (5:Int)≠0
     decide
    ·show (6:Int)≠0
     decide
  ·rw[iN hc];refine ih ?_;unfold zX at h |-;rw[List.flatMap_cons,List.mem_append] at h;rcases h with h|h
   ·exact absurd (dX h).symm hc
   ·exact h
theorem zQ7{env:List En}{n:List UInt8}(h:n∈tW env):(yC env n).1≠0 :=
 xB2 (((srt_spec _ (zX env) (nR _)).2.1 n).1 h)
theorem yE8{n:List UInt8}:∀ {es:List En} {i:Nat},n∉zX es->(∀ e∈es,zJ e.1=true->0<=yL e.1 n->n∈zO e.1)->qN n es i=(0,-1,0):=by
 intro es
 induction es with
|nil=>intro i _ _;rfl
|cons e es ih =>
  intro i h hx;rw[qN];unfold zX at h ih;rw[List.flatMap_cons,List.mem_append] at h;have h1:¬ (0<=yL e.1 n/\zJ e.1=true):=fun k=>h (.inl (hx e (List.mem_cons_self ..) k.2 k.1));rw[iN h1];exact ih (fun k=>h (.inr k)) fun y hy=>hx y (List.mem_cons_of_mem _ hy)
theorem dY{d:Dc}{n:List UInt8}(hok:zJ d=true)(h:0<=yL d n):n∈zO d:=by
 unfold zO;rw[iP hok,List.mem_append,List.mem_cons,List.mem_map];unfold yL at h;split at h
 ·rename_i e;exact .inl (.inl e.symm)
 ·split at h
  ·rename_i k hk;rw[List.findIdx?_eq_some_iff_getElem] at hk;obtain⟨hk,h1,_⟩:=hk;simp only[decide_eq_true_eq] at h1;exact .inl (.inr ⟨_,List.getElem_mem hk,h1⟩)
  ·split at h
   ·rename_i h4;refine .inr ?_;rw[iP h4.1,h4.2];exact List.mem_cons_self ..
   ·omega
theorem zK1{env:List En}{n:List UInt8}(h:n∉zX env):yC env n=(0,-1,0):=yE8 h fun _ _ hok h0=>dY hok h0
theorem yA5{w:World}{d:Dc}{b:Nat}{u:Value}(h:w.ownsRow b 75 2 u d.ctors.length (xM d.ctors))(hs:d.Small) :
  Calls Tryz.prog 44 #[d.val u] w (nZ (oI d) w):=by
 obtain⟨i0,hi,hz0,hz1,hz2⟩:=info_parts sH;obtain⟨kd,nm,ps,fl,ty,vl,cs⟩:=d;obtain⟨ua,uc,rfl⟩:=zK h;have HB0:=Ld (zE w (dC kd nm ps fl ty vl (.slice ua cs.length uc) 37));have HROW:=Ld (zA h HB0.out);have f1:=Ld (nQ (d:=⟨kd,nm,ps,fl,ty,vl,cs⟩) HROW.out hs);have hval:∀ u,Dc.val ⟨kd,nm,ps,fl,ty,vl,cs⟩ u=.agg #[.int .i64 kd,.string ⟨nm.toArray⟩,.int .i64 ps,.int .i64 fl,.string ⟨ty.toArray⟩,.string ⟨vl.toArray⟩,u]:=fun u=>rfl;rw[hval] at f1 |-;have s1:=hs.name;have s2:=hs.type;have s3:=hs.value;have s4:=hs.ctors;have s5:=Ld hs.each;simp only at s1 s2 s3 s4 s5;have HE:Hid (oI ⟨kd,nm,ps,fl,ty,vl,cs⟩=if zJ ⟨kd,nm,ps,fl,ty,vl,cs⟩=true then (srt (tF ⟨kd,nm,ps,fl,ty,vl,cs⟩ cs.length)).filter (fun x=>decide (kd≠4\/x≠nm)) else []):=rfl;have HP:Hid (zJ ⟨kd,nm,ps,fl,ty,vl,cs⟩=true->cs.length<=6):=fun h=>qF h;have HL:=Ld (gR ⟨kd,nm,ps,fl,ty,vl,cs⟩);have HU0:Hid (tF ⟨kd,nm,ps,fl,ty,vl,cs⟩ 0=xX ty++xX vl):=by unfold tF;simp[Hid]
 have HUS:=Ld fun (k:Nat) (h:k<cs.length)=>zD8 (d:=⟨kd,nm,ps,fl,ty,vl,cs⟩) h;have HX:=Ld (xG (w:=w) (kd:=kd) (ps:=ps) (fl:=fl) (nm:=nm) (ty:=ty) (vl:=vl) (u:=.slice ua cs.length uc));have znm:=yB nm;have zty:=yB ty;have zvl:=yB vl;have fC:Hid (∀ (c:List UInt8),c.length<=1048576->∀ W:World,Calls Tryz.prog 70 #[.string ⟨c.toArray⟩] W (nZ (xX c) W)):=fun c hc W=>yA6 (⟨c.toArray⟩:ByteArray) W (by have:=yB c;unfold maxLen;omega);have fT:=Ld (fC.out ty s2);have fV:=Ld (fC.out vl s3);have lT:=Ld (rA ty);have lV:=Ld (rA vl);clear h hval hs;simp only at HUS;generalize zJ ⟨kd,nm,ps,fl,ty,vl,cs⟩=ok at f1 HE HP;generalize tF ⟨kd,nm,ps,fl,ty,vl,cs⟩=ua' at HE HL HU0 HUS;go_enter Tryz.func44,Tryz.ntmps44;go_wp2_with fail;(with_reducible refine mo f1.out fun w1 hb=>?_);have HBX:=Ld hb;have HB1:=bt HB0.out hb;obtain⟨c0,c1,c2,c3,c4,c5,c6⟩:=HX.out _ hb;clear hb f1;cases ok
 ·have HF:Hid (oI ⟨kd,nm,ps,fl,ty,vl,cs⟩=[]):=(by rw[Hid,HE.out];rfl);have hrow:Hid ((w1.alloc (.cells #[] 9)).ownsRow w.heap.size 9 1 (.slice (some ⟨w1.heap.size,0,none⟩) 0 0) 0 []):=World.ownsRow_lit w1 #[] 0 HB1.out.size (by decide) (by simp);have hbl:=Ld (HB1.out.alloc HB1.out.size (.cells #[] 9));clear HX HROW;go_wp2;go_ret;rw[HF.out];exact⟨_,rfl,hrow.out,hbl.out⟩
 have HV:Hid (oI ⟨kd,nm,ps,fl,ty,vl,cs⟩=(srt (ua' cs.length)).filter (fun x=>decide (kd≠4\/x≠nm))):=by rw[Hid,HE.out];rfl
 have hc6:=HP.out rfl;have hl0:(xX ty).length<=2000:=lT.out;have hl1:(xX vl).length<=2000:=lV.out;clear HE HP;obtain⟨W0,hW0⟩:∃ W0,(w.alloc (dC kd nm ps fl ty vl (.slice ua cs.length uc) 37))=W0:=⟨_,rfl⟩;rw[hW0] at HX HROW HB0 HBX;clear hW0;have hzW:=HBX.out.size;go_upto_region 3 with fail;go_cut [3] (fun s3 wx=>Hid (wx.ownsRow W0.heap.size 9 1 s3 (ua' 0).length ((ua' 0).map sv))/\Hid (Below W0.heap.size W0 wx))
 case first =>
  go_region_held3 (fun w'=>w'.cell? ⟨w.heap.size,0,none⟩=some (.int .i64 kd)/\w'.cell? ⟨w.heap.size,1,none⟩=some (.string ⟨nm.toArray⟩)/\w'.cell? ⟨w.heap.size,2,none⟩=some (.int .i64 ps)/\w'.cell? ⟨w.heap.size,3,none⟩=some (.int .i64 fl)/\w'.cell? ⟨w.heap.size,4,none⟩=some (.string ⟨ty.toArray⟩)/\w'.cell? ⟨w.heap.size,5,none⟩=some (.string ⟨vl.toArray⟩)/\w'.cell? ⟨w.heap.size,6,none⟩=some (.slice ua cs.length uc)) (first|exact XA|exact XT|exact XV|exact⟨c0,c1,c2,c3,c4,c5,c6⟩)
   (first
   |(go_at_call_of 70 (Value.string ⟨ty.toArray⟩);(with_reducible refine(fT.out _).mono ?_);rintro e wT ⟨vT,rfl,hvT,hbT⟩;first|(have hdT:=hdV.trans (hbT.mono hdV.size);have hvV2:=zA hvV hbT;have XT:=HX.out _ hdT)|(have hdT:=HBX.out.drew.trans (hbT.mono HBX.out.drew.size);have XT:=HX.out _ hdT))
   |(go_at_call_of 70 (Value.string ⟨vl.toArray⟩);(with_reducible refine(fV.out _).mono ?_);rintro e wV ⟨vV,rfl,hvV,hbV⟩;first|(have hdV:=hdT.trans (hbV.mono hdT.size);have hvT2:=zA hvT hbV;have XV:=HX.out _ hdV)|(have hdV:=HBX.out.drew.trans (hbV.mono HBX.out.drew.size);have XV:=HX.out _ hdV))
   |(refine oJ (by rfl) _ _ (by rfl) (by rfl) (by rfl) (yG hvT2 hzW) hvV (by omega) hdV.size ?_;intro vA wA hoA hbA;have hdA:=hdV.trans hbA;have XA:=HX.out _ hdA)
   |(refine oJ (by rfl) _ _ (by rfl) (by rfl) (by rfl) (yG hvT (hdV.size)) hvV2 (by omega) hdT.size ?_;intro vA wA hoA hbA;have hdA:=hdT.trans hbA;have XA:=HX.out _ hdA))
  all_goals (go_wp2_with fail;go_meet;rw[HU0.out];exact⟨hoA,hdA⟩)
 case rest =>
  obtain⟨HL0,HW0⟩:=hcut;clear c0 c1 c2 c3 c4 c5 c6 fT fV lT lV hl0 hl1 HB1 HBX hzW;go_wp2;go_loopw [3,4] (fun o i wr=>∃ (k:Nat) (oo:Value),k<=cs.length/\i=.int .i64 k/\oo=o/\Hid (wr.ownsRow W0.heap.size 9 1 oo (ua' k).length ((ua' k).map sv))/\Hid (Below W0.heap.size W0 wr)) (fun _ i _=>cs.length - (intOf i).toNat)
  case atStart=>exact⟨0,_,Nat.zero_le _,rfl,rfl,HL0.out,HW0.out⟩
  case round =>
   obtain⟨k,oo,hk,rfl,rfl,HO,HW⟩:=hrel;clear HL0 HW0;obtain⟨c0,c1,c2,c3,c4,c5,c6⟩:=HX.out _ HW.out;have hz:=HW.out.size;have hlk:=HL.out k;by_cases hlt:k<cs.length
   ·have hrow:=zA HROW.out HW.out;obtain⟨g,cap',eg,_,hgl⟩:=hrow.form (by omega);cases eg;obtain⟨fa,fb⟩:=sZ hlt;have x1:=(hrow.cellAt (k*2+1) (by omega)).trans fb;unfold sv at x1;have HT:=HUS.out k hlt;have fc:=Ld (fC.out cs[k].2 (s5.out _ (List.getElem_mem hlt)).2);have hlc:=rA cs[k].2;have q1:=zn k;have q2:(k:Int)<(cs.length:Int):=(by omega);clear fa fb hrow;generalize cs[k].2=n at x1 HT fc hlc;go_wp2_with fail;(with_reducible refine(fc.out _).mono ?_);rintro e w5 ⟨v5,rfl,hv5,hb5⟩;go_wp2_with (at_builtin;refine dJ rfl _ _ rfl rfl rfl (zA HO.out hb5) hv5 (by omega) (Nat.le_trans hz hb5.size) ?_;intro vA wA hoA hbA);have HO2:Hid (wA.ownsRow W0.heap.size 9 1 vA (ua' (k+1)).length ((ua' (k+1)).map sv)):=by
     rw[Hid,HT];exact hoA
    have HW2:Hid (Below W0.heap.size W0 wA):=(HW.out.trans (hb5.mono hz)).trans hbA;clear hoA hbA hv5 hb5;go_wp2;go_roundw
    case rel=>exact⟨k+1,_,by omega,by go_num,rfl,HO2.out,HW2.out⟩
    case measure=>simp[intOf];omega
   ·obtain rfl:k=cs.length:=(by omega);have fS:=Ld (gZ HO.out (by omega));have hsl:=(srt_spec _ (ua' cs.length) (nR _)).2.2;have HWo:=Ld HW;have HL9:=Ld (HL.out cs.length);clear HUS HU0 HL fC;generalize srt (ua' cs.length)=sl at fS hsl HV;go_wp2_with fail;(with_reducible refine fS.out.mono ?_);rintro e w8 ⟨v8,rfl,hv8,hb8⟩;have HW8:=Ld (HW.out.trans (hb8.mono hz));obtain⟨va,vc,rfl⟩:=xZ hv8;have HS8:=Ld hv8;have hrow9:Hid ((w8.alloc (.cells #[] 9)).ownsRow w8.heap.size 9 1 (.slice (some ⟨w8.heap.size,0,none⟩) 0 0) 0 []):=World.ownsRow_lit w8 #[] 0 (nR _) (by decide) (by simp);have hbl9:=Ld ((bR w8.heap.size w8).alloc (nR _) (.cells #[] 9));clear c0 c1 c2 c3 c4 c5 c6 hv8 hb8 fS HO;go_wp2;have HF0:Hid (∀ m:Nat,(h:m<sl.length)->(sl.take (m+1)).filter (fun x=>decide (kd≠4\/x≠nm))=(sl.take m).filter (fun x=>decide (kd≠4\/x≠nm))++(if kd≠4\/sl[m]≠nm then [sl[m]] else [])):=fun m h=>by
     rw[List.take_succ_eq_append_getElem h,List.filter_append];by_cases hq:kd≠4\/sl[m]≠nm<;>simp[List.filter,hq]
    have HFL:Hid (∀ m:Nat,((sl.take m).filter (fun x=>decide (kd≠4\/x≠nm))).length<=m):=fun m=>Nat.le_trans (List.length_filter_le _ _) (by rw[List.length_take];omega);have HFE:Hid ((sl.take 0).filter (fun x=>decide (kd≠4\/x≠nm))=[]):=rfl;have HFF:Hid ((sl.take sl.length).filter (fun x=>decide (kd≠4\/x≠nm))=sl.filter (fun x=>decide (kd≠4\/x≠nm))):=(by rw[Hid,List.take_length]);generalize hfl:(fun m:Nat=>(sl.take m).filter (fun x=>decide (kd≠4\/x≠nm)))=fl';have e0:fl' 0=[]:=(by rw[← hfl];exact HFE.out);have e1:Hid (fl' sl.length=oI ⟨kd,nm,ps,fl,ty,vl,cs⟩):=(by rw[Hid,← hfl,HV.out];exact HFF.out);have e2:Hid (∀ m:Nat,(h:m<sl.length)->fl' (m+1)=fl' m++(if kd≠4\/sl[m]≠nm then [sl[m]] else [])):=(by rw[← hfl];exact HF0);have e3:Hid (∀ m:Nat,(fl' m).length<=m):=(by rw[← hfl];exact HFL);clear HF0 HFL HFE HFF hfl HV;have hl9:=HL9.out;clear HL9;go_loopw [5,6] (fun o i wr2=>∃ (m:Nat) (oo:Value),m<=sl.length/\i=.int .i64 m/\oo=o/\Hid (wr2.ownsRow w8.heap.size 9 1 oo (fl' m).length ((fl' m).map sv))/\Hid (Below w8.heap.size w8 wr2)) (fun _ i _=>sl.length - (intOf i).toNat)
    case atStart=>exact⟨0,_,Nat.zero_le _,rfl,rfl,by rw[e0];exact hrow9.out,hbl9.out⟩
    case round =>
     obtain⟨m,oo,hm,rfl,rfl,HO2,HW2⟩:=hrel;clear hrow9 hbl9 e0;obtain⟨c0,c1,c2,c3,c4,c5,c6⟩:=HX.out _ (HW8.out.trans (HW2.out.mono HW8.out.size));have hz2:=HW2.out.size;have hlm:=e3.out m;by_cases hlt:m<sl.length
     ·have hrow:=zA HS8.out HW2.out;obtain⟨g,cap',eg,_,hgl⟩:=hrow.form (by omega);cases eg;have x1:=hrow.cellAt m (by omega);have HT:=e2.out m hlt;have q1:=zn m;have q2:(m:Int)<(sl.length:Int):=(by omega);have xx:wr.cell? ⟨g,m,none⟩=some (.string ⟨sl[m].toArray⟩):=(by rw[x1,List.getElem?_map,List.getElem?_eq_getElem hlt];rfl);clear hrow x1;generalize sl[m]=x at xx HT;by_cases k4:kd=4
      ·subst k4;by_cases hx:x=nm
       ·subst hx;rw[iN (by simp),List.append_nil] at HT;have dx:(x==x)=true:=(by rw[beq_iff_eq]);go_wp2;go_quiet (fail);have HO3:Hid ((wr.drewN nq).ownsRow w8.heap.size 9 1 oo (fl' m).length ((fl' m).map sv)):=uF HO2.out nq;have HW3:Hid (Below w8.heap.size w8 (wr.drewN nq)):=zG HW2.out nq;have xx3:(wr.drewN nq).cell? ⟨g,m,none⟩=some (.string ⟨x.toArray⟩):=xx;clear HO2 HW2 xx c0 c1 c2 c3 c4 c5 c6 hz2 HX HROW;generalize wr.drewN nq=wq at HO3 HW3 xx3 |-;have hzq:=HW3.out.size;have HO4:Hid (wq.ownsRow w8.heap.size 9 1 oo (fl' (m+1)).length ((fl' (m+1)).map sv)):=by
         rw[Hid,HT];exact HO3.out
        go_wp2;go_roundw
        case rel=>exact⟨m+1,_,by omega,by go_num,rfl,HO4.out,HW3.out⟩
        case measure=>simp[intOf];omega
       ·have dx:(x==nm)=false:=(by rw[bF];exact hx);rw[iP (.inr hx)] at HT;go_wp2;go_quiet (fail);have HO3:Hid ((wr.drewN nq).ownsRow w8.heap.size 9 1 oo (fl' m).length ((fl' m).map sv)):=uF HO2.out nq;have HW3:Hid (Below w8.heap.size w8 (wr.drewN nq)):=zG HW2.out nq;have xx3:(wr.drewN nq).cell? ⟨g,m,none⟩=some (.string ⟨x.toArray⟩):=xx;clear HO2 HW2 xx c0 c1 c2 c3 c4 c5 c6 hz2 HX HROW;generalize wr.drewN nq=wq at HO3 HW3 xx3 |-;have hzq:=HW3.out.size;go_wp2_with (at_builtin;refine wpList_append_own _ rfl _ _ 26 rfl w8.heap.size 9 i0 _ 1 16 Tryz.underlying26 hi hz0 hz1 hz2 rfl (by decide) _ _ _ rfl (HO3.out.alloc _) ⟨wq.heap.size,0,none⟩ 1 1 [.string ⟨x.toArray⟩] rfl rfl (yO _ _ _) (by simp[Value.oneCell']) (by simp only[maxLen];omega) (by omega) (by simp;omega) ?_;intro v2 w2 hown2 hgrow hnil2);have HO4:Hid (w2.ownsRow w8.heap.size 9 1 v2 (fl' (m+1)).length ((fl' (m+1)).map sv)):=by
         rw[Hid,HT,lA,List.map_append];exact hown2
        have HW4:Hid (Below w8.heap.size w8 w2):=(HW3.out.alloc hzq _).grown hgrow (by simp;omega) (fun q hq=>(HO3.out.lt q hq).1);clear hown2 hgrow;go_wp2;go_roundw
        case rel=>exact⟨m+1,_,by omega,by go_num,rfl,HO4.out,HW4.out⟩
        case measure=>simp[intOf];omega
      ·have b4:(kd==4)=false:=(by rw[bF];exact k4);have b5:(kd != 4)=true:=(by rw[bne,b4];rfl);rw[iP (.inl k4)] at HT;go_wp2;go_quiet (fail);have HO3:Hid ((wr.drewN nq).ownsRow w8.heap.size 9 1 oo (fl' m).length ((fl' m).map sv)):=uF HO2.out nq;have HW3:Hid (Below w8.heap.size w8 (wr.drewN nq)):=zG HW2.out nq;have xx3:(wr.drewN nq).cell? ⟨g,m,none⟩=some (.string ⟨x.toArray⟩):=xx;clear HO2 HW2 xx c0 c1 c2 c3 c4 c5 c6 hz2 HX HROW;generalize wr.drewN nq=wq at HO3 HW3 xx3 |-;have hzq:=HW3.out.size;go_wp2_with (at_builtin;refine wpList_append_own _ rfl _ _ 26 rfl w8.heap.size 9 i0 _ 1 16 Tryz.underlying26 hi hz0 hz1 hz2 rfl (by decide) _ _ _ rfl (HO3.out.alloc _) ⟨wq.heap.size,0,none⟩ 1 1 [.string ⟨x.toArray⟩] rfl rfl (yO _ _ _) (by simp[Value.oneCell']) (by simp only[maxLen];omega) (by omega) (by simp;omega) ?_;intro v2 w2 hown2 hgrow hnil2);have HO4:Hid (w2.ownsRow w8.heap.size 9 1 v2 (fl' (m+1)).length ((fl' (m+1)).map sv)):=by
        rw[Hid,HT,lA,List.map_append];exact hown2
       have HW4:Hid (Below w8.heap.size w8 w2):=(HW3.out.alloc hzq _).grown hgrow (by simp;omega) (fun q hq=>(HO3.out.lt q hq).1);clear hown2 hgrow;go_wp2;go_roundw
       case rel=>exact⟨m+1,_,by omega,by go_num,rfl,HO4.out,HW4.out⟩
       case measure=>simp[intOf];omega
     ·obtain rfl:m=sl.length:=(by omega);have HBF:=Ld (HB0.out.trans ((HW8.out.trans (HW2.out.mono HW8.out.size)).mono HB0.out.size));have hzf:w.heap.size<=w8.heap.size:=Nat.le_trans HB0.out.size HW8.out.size;go_wp2;go_ret;rw[← e1.out];exact⟨_,rfl,yG HO2.out hzf,HBF.out⟩
end Go.Proofs.YtgppcegcpiaocaaGreatDoor
