/- GNmP GNm GI5R GI5 -/
import Derived.Test.YtcaahdjhbmmcnaaGreatDoorTG2
import Derived.Test.YtcaahdjhbmmcnaaGreatDoorTP6
import Derived.Test.YtcaahdjhbmmcnaaGreatDoorTP4
set_option maxRecDepth 100000
set_option maxHeartbeats 16000000
set_option linter.unusedSimpArgs false
set_option linter.unusedVariables false
namespace Go.Proofs.YtcaahdjhbmmcnaaGreatDoor
open Go.ChangeShapes Go.WideShapes Go.ChangeAt Go.RowKit
theorem yQ0(nm:List UInt8):(⟨nm.toArray⟩:ByteArray)++⟨#[46]⟩++⟨#[114,101,99]⟩=⟨(nm++46::rP).toArray⟩:=by
 apply ByteArray.ext;simp[rP]
theorem zM5{w:World}{d:Dc}{b:Nat}{u:Value}(h:w.ownsRow b 88 2 u d.ctors.length (xJ d.ctors))(hs:d.Small)(hr:d.Rng)(hv:Vars w)(hm:MaxLenInt w) :
  Rt 74 #[d.val u] w (.string ⟨(nQ d).toArray⟩):=by
 obtain⟨kd,nm,ps,fl,ty,vl,cs⟩:=d;obtain⟨ua,uc,rfl⟩:=zF h;have HB0:=Ld (zG w (dC kd nm ps fl ty vl (.slice ua cs.length uc) 52));have f1:=Ld (sT (d:=⟨kd,nm,ps,fl,ty,vl,cs⟩) (zA h HB0.out) hs hr (hv.below HB0.out) (hm.below HB0.out));have hval:=mE kd nm ps fl ty vl cs (.slice ua cs.length uc);rw[hval] at f1 |-;have s1:=hs.name;simp only at s1 f1;have HE:Hid (nQ ⟨kd,nm,ps,fl,ty,vl,cs⟩=if kd=4/\zT ⟨kd,nm,ps,fl,ty,vl,cs⟩=true then nm++46::rP else []):=rfl;have HX:=Ld (yZ (w:=w) (kd:=kd) (ps:=ps) (fl:=fl) (nm:=nm) (ty:=ty) (vl:=vl) (u:=.slice ua cs.length uc));have hrt:=yQ0 nm;have znm:=zO nm;have hz:((⟨nm.toArray⟩:ByteArray)++(⟨#[46]⟩:ByteArray)).size=nm.length+1:=by rw[ByteArray.size_append,znm];rfl
 obtain⟨c0,c1,c2,c3,c4,c5,c6⟩:=HX.out _ (bR _ _);clear h hval hs hr hv hm;have HD:Hid ((kd=4/\zT ⟨kd,nm,ps,fl,ty,vl,cs⟩=true)↔(decide (kd=4)&&zT ⟨kd,nm,ps,fl,ty,vl,cs⟩)=true):=by rw[Hid,Bool.and_eq_true,decide_eq_true_eq]
 generalize (decide (kd=4)&&zT ⟨kd,nm,ps,fl,ty,vl,cs⟩)=ok at f1 HD;go_enter Tryz.func74,Tryz.ntmps74;go_wp2_with fail;(with_reducible refine mo f1.out fun w1 hb=>?_);have HB1:=bt HB0.out hb;clear c0 c1 c2 c3 c4 c5 c6;obtain⟨c0,c1,c2,c3,c4,c5,c6⟩:=HX.out _ hb;clear hb f1 HX;cases ok
 ·have HF:Hid (nQ ⟨kd,nm,ps,fl,ty,vl,cs⟩=[]):=(by rw[Hid,HE.out,iN (fun h=>by have:=HD.out.1 h;cases this)]);go_wp2;go_ret;rw[HF.out];exact⟨rfl,HB1.out⟩
 ·have HF:Hid (nQ ⟨kd,nm,ps,fl,ty,vl,cs⟩=nm++46::rP):=(by rw[Hid,HE.out,iP (HD.out.2 rfl)]);generalize nm++46::rP=rn at hrt HF;go_wp2;go_ret;rw[HF.out];exact⟨rfl,HB1.out⟩
theorem zM9{w:World}{d:Dc}{b:Nat}{u:Value}(h:w.ownsRow b 88 2 u d.ctors.length (xJ d.ctors))(hs:d.Small)(hr:d.Rng)(hv:Vars w)(hm:MaxLenInt w) :
  Calls Tryz.prog 51 #[d.val u] w (oS (yA d) w):=by
 obtain⟨i0,hi,hz0,hz1,hz2⟩:=info_parts tF;have HRN:=Ld fun (W:World) (hW:Below w.heap.size w W)=>zM5 (zA h hW) hs hr (hv.below hW) (hm.below hW);obtain⟨kd,nm,ps,fl,ty,vl,cs⟩:=d;obtain⟨ua,uc,rfl⟩:=zF h;have HB0:=Ld (zG w (dC kd nm ps fl ty vl (.slice ua cs.length uc) 52));have HROW:=Ld (zA h HB0.out);have f1:=Ld (kD (d:=⟨kd,nm,ps,fl,ty,vl,cs⟩) (zA h HB0.out) hs hr (hv.below HB0.out) (hm.below HB0.out));have hval:=mE kd nm ps fl ty vl cs (.slice ua cs.length uc);rw[hval] at f1 |-;simp only[hval] at HRN;have s1:=hs.name;have s4:=hs.ctors;have s5:=hs.each;simp only at s1 s4 s5;have HE:Hid (yA ⟨kd,nm,ps,fl,ty,vl,cs⟩=if zT ⟨kd,nm,ps,fl,ty,vl,cs⟩=true then nm::(cs.map fun c=>c.1)++(if kd=4 then [nm++46::rP] else []) else []):=rfl;have HER:Hid (nQ ⟨kd,nm,ps,fl,ty,vl,cs⟩=if kd=4/\zT ⟨kd,nm,ps,fl,ty,vl,cs⟩=true then nm++46::rP else []):=rfl;have HX:=Ld (yZ (w:=w) (kd:=kd) (ps:=ps) (fl:=fl) (nm:=nm) (ty:=ty) (vl:=vl) (u:=.slice ua cs.length uc));have HLen:Hid (∀ x∈nm::(cs.map fun c=>c.1)++(if kd=4 then [nm++46::rP] else []),x.length<=281474976710656):=by
  intro x hx;rw[List.cons_append,List.mem_cons,List.mem_append] at hx;rcases hx with rfl|hx|hx
  ·omega
  ·obtain⟨c,hc,rfl⟩:=List.mem_map.1 hx;have:=(s5 c hc).1;omega
  ·split at hx
   ·rw[List.mem_singleton] at hx;subst hx;simp[rP];omega
   ·cases hx
 obtain⟨c0,c1,c2,c3,c4,c5,c6⟩:=HX.out _ (bR _ _);clear h hval hs hr hv hm s5;generalize zT ⟨kd,nm,ps,fl,ty,vl,cs⟩=ok at f1 HE HER;go_enter Tryz.func51,Tryz.ntmps51;go_wp2_with fail;(with_reducible refine mo f1.out fun w1 hb=>?_);have HBX:=Ld hb;have HB1:=bt HB0.out hb;clear c0 c1 c2 c3 c4 c5 c6;obtain⟨c0,c1,c2,c3,c4,c5,c6⟩:=HX.out _ hb;clear hb f1;cases ok
 ·have HF:Hid (yA ⟨kd,nm,ps,fl,ty,vl,cs⟩=[]):=(by rw[Hid,HE.out];rfl);clear HX HROW HRN;go_wp2;go_ret;rw[HF.out];exact⟨_,rfl,World.ownsRow_nil _ _ _ _,HB1.out⟩
 have HV:Hid (yA ⟨kd,nm,ps,fl,ty,vl,cs⟩=nm::(cs.map fun c=>c.1)++(if kd=4 then [nm++46::rP] else [])):=by rw[Hid,HE.out];rfl
 have HRV:Hid (nQ ⟨kd,nm,ps,fl,ty,vl,cs⟩=if kd=4 then nm++46::rP else []):=by rw[Hid,HER.out];simp
 rw[← HV.out] at HLen;clear HE HER;generalize nQ ⟨kd,nm,ps,fl,ty,vl,cs⟩=rn at HRN HRV;obtain⟨W0,hW0⟩:∃ W0,(w.alloc (dC kd nm ps fl ty vl (.slice ua cs.length uc) 52))=W0:=⟨_,rfl⟩;rw[hW0] at HX HROW HB0 HBX;clear hW0;have hrow0:Hid ((w1.alloc (.cells #[.string ⟨nm.toArray⟩] 9)).ownsRow W0.heap.size 9 1 (.slice (some ⟨w1.heap.size,0,none⟩) 1 1) 1 [sv nm]):=World.ownsRow_lit w1 #[.string ⟨nm.toArray⟩] 1 HBX.out.size (by decide) (by simp);have hbl0:=Ld (HBX.out.alloc HBX.out.size (.cells #[.string ⟨nm.toArray⟩] 9));obtain⟨l0,l1,l2,l3,l4,l5,l6⟩:=HX.out _ hbl0.out;go_wp2;clear l0 l1 l2 l3 l4 l5 l6;go_loopw [3,16] (fun o i wr=>∃ (k:Nat) (oo:Value),k<=cs.length/\i=.int .i64 k/\oo=o/\Hid (wr.ownsRow W0.heap.size 9 1 oo (k+1) ((nm::(cs.take k).map fun c=>c.1).map sv))/\Hid (Below W0.heap.size W0 wr)) (fun _ i _=>cs.length - (intOf i).toNat)
 case atStart=>exact⟨0,_,Nat.zero_le _,rfl,rfl,hrow0.out,hbl0.out⟩
 case round =>
  obtain⟨k,oo,hk,rfl,rfl,HO,HW⟩:=hrel;clear c0 c1 c2 c3 c4 c5 c6;obtain⟨c0,c1,c2,c3,c4,c5,c6⟩:=HX.out _ HW.out;have hz:=HW.out.size;by_cases hlt:k<cs.length
  ·have hrow:=zA HROW.out HW.out;obtain⟨g,cap',eg,_,hgl⟩:=hrow.form (by omega);cases eg;obtain⟨fa,fb⟩:=uE hlt;have x1:=(hrow.cellAt (k*2) (by omega)).trans fa;have y1:=(hrow.cellAt (k*2+1) (by omega)).trans fb;unfold sv at x1 y1;have HT:Hid ((nm::(cs.take (k+1)).map fun c=>c.1).map sv=((nm::(cs.take k).map fun c=>c.1).map sv)++[sv cs[k].1]):=by
    rw[Hid,List.take_succ_eq_append_getElem hlt,List.map_append,← List.cons_append,List.map_append];rfl
   have q1:=zn k;have q2:(k:Int)<(cs.length:Int):=(by omega);clear fa fb hrow;generalize cs[k]=ck at x1 y1 HT;obtain⟨n,t⟩:=ck;simp only at x1 y1 HT;have HOw:=Ld (HO.out.alloc (.cells #[.string ⟨n.toArray⟩,.string ⟨t.toArray⟩] 88));have HWk:=Ld (HW.out.alloc hz (.cells #[.string ⟨n.toArray⟩,.string ⟨t.toArray⟩] 88));have hzk:W0.heap.size<=(wr.alloc (.cells #[.string ⟨n.toArray⟩,.string ⟨t.toArray⟩] 88)).heap.size:=(by simp;omega);have m1:(wr.alloc (.cells #[.string ⟨n.toArray⟩,.string ⟨t.toArray⟩] 88)).cell? ⟨wr.heap.size,0,none⟩=some (.string ⟨n.toArray⟩):=World.news_of_block (cs:=#[.string ⟨n.toArray⟩,.string ⟨t.toArray⟩]) (t:=88) (fr:=(0,0)) (heap_alloc_new wr _) 0 _ rfl;go_upto_region 7 with fail;generalize hwk:wr.alloc (.cells #[.string ⟨n.toArray⟩,.string ⟨t.toArray⟩] 88)=wk at m1 HOw HWk hzk |-;clear hwk;go_wp2_with (at_builtin;refine wpList_append_own _ rfl _ _ 31 rfl W0.heap.size 9 i0 _ 1 16 Tryz.underlying31 hi hz0 hz1 hz2 rfl (by decide) _ _ _ rfl (HOw.out.alloc _) ⟨wk.heap.size,0,none⟩ 1 1 [.string ⟨n.toArray⟩] rfl rfl (yI _ _ _) (by simp[Value.oneCell']) (by simp only[maxLen];omega) (by omega) (by simp;omega) ?_;intro v2 w2 hown2 hgrow hnil2);have HO2:Hid (w2.ownsRow W0.heap.size 9 1 v2 (k+1+1) ((nm::(cs.take (k+1)).map fun c=>c.1).map sv)):=by
    rw[Hid,HT.out];exact hown2
   have HW2:Hid (Below W0.heap.size W0 w2):=(HWk.out.alloc hzk _).grown hgrow (by simp;omega) (fun q hq=>(HOw.out.lt q hq).1);clear hown2 hgrow;go_wp2;go_roundw
   case rel=>exact⟨k+1,_,by omega,by go_num,rfl,HO2.out,HW2.out⟩
   case measure=>simp[intOf];omega
  ·obtain rfl:k=cs.length:=(by omega);have HBF:=Ld (HB0.out.trans (HW.out.mono HB0.out.size));have hz0':=HB0.out.size;have f2:=Ld (HRN.out _ HBF.out);clear HRN;go_wp2_with fail;(with_reducible refine mo f2.out fun w3 hb3=>?_);have HW3:=Ld (HW.out.trans (hb3.mono hz));have HB3:=bt HBF.out hb3;have HO3:=Ld (zA HO.out hb3);have hz3:=HW3.out.size;clear hb3 f2 HO HW HBF;by_cases k4:kd=4
   ·have HF:Hid ((yA ⟨kd,nm,ps,fl,ty,vl,cs⟩).map sv=((nm::(cs.take cs.length).map fun c=>c.1).map sv)++[sv rn]/\(yA ⟨kd,nm,ps,fl,ty,vl,cs⟩).length=cs.length+1+1):=by
     rw[Hid,HV.out,HRV.out,iP k4,iP k4,List.take_length];simp
    have dn:(rn==[])=false:=(by rw[bF,HRV.out,iP k4];simp);clear HV HRV k4;go_wp2_with (at_builtin;refine wpList_append_own _ rfl _ _ 31 rfl W0.heap.size 9 i0 _ 1 16 Tryz.underlying31 hi hz0 hz1 hz2 rfl (by decide) _ _ _ rfl (HO3.out.alloc _) ⟨w3.heap.size,0,none⟩ 1 1 [.string ⟨rn.toArray⟩] rfl rfl (yI _ _ _) (by simp[Value.oneCell']) (by simp only[maxLen];omega) (by omega) (by simp;omega) ?_;intro v2 w4 hown2 hgrow hnil2);have HO4:Hid (w4.ownsRow W0.heap.size 9 1 v2 (yA ⟨kd,nm,ps,fl,ty,vl,cs⟩).length ((yA ⟨kd,nm,ps,fl,ty,vl,cs⟩).map sv)):=by
     rw[Hid,HF.out.1,HF.out.2];exact hown2
    have HB4:Hid (Below w.heap.size w w4):=(HB3.out.alloc HB3.out.size _).grown hgrow (by simp;omega) (fun q hq=>Nat.le_trans hz0' (HO3.out.lt q hq).1);have hln:=HF.out.2;have f3:=Ld (yK3 HO4.out (by omega) HLen.out);unfold yM5 at f3;clear hown2 hgrow HO3 HB3 HF HLen;go_wp2_with fail;(with_reducible refine f3.out.mono ?_);rintro e w5 ⟨v5,rfl,hv5,hb5⟩;have HO5:=Ld (xR hv5 HB4.out.size);have HB5:=bt HB4.out hb5;clear hv5 hb5 f3;go_wp2;go_ret;exact⟨_,rfl,HO5.out,HB5.out⟩
   ·have HF:Hid ((yA ⟨kd,nm,ps,fl,ty,vl,cs⟩).map sv=((nm::(cs.take cs.length).map fun c=>c.1).map sv)/\(yA ⟨kd,nm,ps,fl,ty,vl,cs⟩).length=cs.length+1):=by
     rw[Hid,HV.out,iN k4,List.take_length];simp
    have e0:rn=[]:=(by rw[HRV.out,iN k4]);subst e0;clear HV HRV k4;have HO4:Hid (w3.ownsRow W0.heap.size 9 1 oo (yA ⟨kd,nm,ps,fl,ty,vl,cs⟩).length ((yA ⟨kd,nm,ps,fl,ty,vl,cs⟩).map sv)):=by
     rw[Hid,HF.out.1,HF.out.2];exact HO3.out
    have hln:=HF.out.2;have f3:=Ld (yK3 HO4.out (by omega) HLen.out);unfold yM5 at f3;clear HO3 HF HLen;go_wp2_with fail;(with_reducible refine f3.out.mono ?_);rintro e w5 ⟨v5,rfl,hv5,hb5⟩;have HO5:=Ld (xR hv5 HB3.out.size);have HB5:=bt HB3.out hb5;clear hv5 hb5 f3;go_wp2;go_ret;exact⟨_,rfl,HO5.out,HB5.out⟩
end Go.Proofs.YtcaahdjhbmmcnaaGreatDoor
