/- KI5 -/
import Derived.Deep.RegionHeld3
import Derived.Test.YtgonemalnljabaaGreatDoorZKP
import Derived.Test.YtgonemalnljabaaGreatDoorZKC
import Derived.Test.YtgonemalnljabaaGreatDoorZJI6
import Derived.Test.YtgonemalnljabaaGreatDoorZQ3
import Derived.Test.YtgonemalnljabaaGreatDoorZR1
set_option maxRecDepth 100000
set_option maxHeartbeats 16000000
set_option linter.unusedSimpArgs false
set_option linter.unusedVariables false
namespace Go.Proofs.YtgonemalnljabaaGreatDoor
open Go.ChangeShapes Go.WideShapes Go.ChangeAt Go.RowKit
theorem minorType_no{d:Dc}{k:Int}(h:yM d k=false):yP d k=none:=by
 unfold yP
 rw[if_neg (by rw[h];decide)]
theorem minorType_yes{d:Dc}{k:Nat}(h:yM d (k:Int)=true):yP d (k:Int)=minorAt d k:=by
 unfold yP
 rw[if_pos h,Int.toNat_natCast]
theorem implMinorType{w:World}{d:Dc}{b:Nat}{u:Value}(h:w.ownsRow b 42 2 u d.ctors.length (xI d.ctors))(hs:d.Small)(hr:d.Rng)(hv:Vars w)(hm:MaxLenInt w)(k:Int) :
  Calls Tryz.prog 40 #[d.val u,.int .i64 k] w fun e w'=>e=.returned (yW (yP d k))∧Below w.heap.size w w':=by
 have FC:=Ld fun (W:World) (hW:Below w.heap.size w W)=>implCtorAtN (zA h hW) hs hr (hv.below hW) (hm.below hW) k
 have FS:=Ld fun (W:World) (hW:Below w.heap.size w W)=>implShapesOf (zA h hW) hs hr (hv.below hW) (hm.below hW) k
 have FR:=Ld fun (W:World) (hW:Below w.heap.size w W)=>implResultOk (zA h hW) hs hr (hv.below hW) (hm.below hW) k
 have HV:=Ld hv
 have HK:=Ld fun h=>isCtor_lt (d:=d) (k:=k) h
 have HNo:=Ld fun h=>minorType_no (d:=d) (k:=k) h
 have HRC:=Ld fun h=>resultOk_ctor (d:=d) (k:=k) h
 have HSL:=shapesOf_len d k
 have HYes:=Ld fun (j:Nat) (e:k=(j:Int)) (hr:yM d k=true)=>show yP d k=minorAt d j by subst e;exact minorType_yes hr
 have HBad:=Ld fun (j:Nat) (e:k=(j:Int)) (hr:xH d k=true) (hb:(2:Int)∈yL d k)=>show minorAt d j=none by subst e;exact minor_none hr hb
 have HPack:=Ld fun (j:Nat) (e:k=(j:Int)) (hr:yM d k=true) (hb:¬ (2:Int)∈yL d k)=>show ∃ (t:Tm) (ds:List (Tm × Bool)),IsTm (yN d k) t∧t.doms=ds.map Prod.fst∧yL d k=(ds.map fun p=>if p.2=true then (1:Int) else 0)∧minorAt d j=sayT (some []) (minorT (ctorName d j) (zT d.params.toNat) j ds)∧ds.length≤499∧(∀ p∈ds,p.1.Ok∧p.1.bytes.length≤2000)∧(Tm.const (ctorName d j) (zT d.params.toNat)).Good by subst e;exact minor_pack hr hb
 have HEach:=Ld hs.each
 have HSix:=Ld fun h=>isCtor_six (d:=d) (k:=k) h
 have HPar:=Ld fun h=>isCtor_params (d:=d) (k:=k) h
 have HNm:=Ld fun (j:Nat) (n t:List UInt8) (h:d.ctors[j]?=some (n,t))=>show ctorName d j=n by unfold ctorName;rw[h]
 obtain⟨kd,nm,ps,fl,ty,vl,cs⟩:=d
 obtain⟨ua,uc,rfl⟩:=zR h
 have hval:Dc.val ⟨kd,nm,ps,fl,ty,vl,cs⟩ (.slice ua cs.length uc)=.agg #[.int .i64 kd,.string ⟨nm.toArray⟩,.int .i64 ps,.int .i64 fl,.string ⟨ty.toArray⟩,.string ⟨vl.toArray⟩,.slice ua cs.length uc]:=rfl
 rw[hval] at FC FS FR ⊢
 simp only at HEach HK HSix HPar HNm HPack HNo HYes
 obtain⟨W0,hW0⟩:∃ W0,w.alloc (.cells #[.int .i64 kd,.string ⟨nm.toArray⟩,.int .i64 ps,.int .i64 fl,.string ⟨ty.toArray⟩,.string ⟨vl.toArray⟩,.slice ua cs.length uc] 36)=W0:=⟨_,rfl⟩
 have HX:Hid (∀ W,Below W0.heap.size W0 W→W.cell? ⟨w.heap.size,0,none⟩=some (.int .i64 kd)∧W.cell? ⟨w.heap.size,1,none⟩=some (.string ⟨nm.toArray⟩)∧W.cell? ⟨w.heap.size,2,none⟩=some (.int .i64 ps)∧W.cell? ⟨w.heap.size,3,none⟩=some (.int .i64 fl)∧W.cell? ⟨w.heap.size,4,none⟩=some (.string ⟨ty.toArray⟩)∧W.cell? ⟨w.heap.size,5,none⟩=some (.string ⟨vl.toArray⟩)∧W.cell? ⟨w.heap.size,6,none⟩=some (.slice ua cs.length uc)):=by
  rw[Hid,← hW0];exact xF
 have HB0:Hid (Below w.heap.size w W0):=by rw[Hid,← hW0];exact zI _ _
 have hz0:W0.heap.size=w.heap.size+1:=by rw[← hW0];simp
 obtain⟨c0,c1,c2,c3,c4,c5,c6⟩:=HX.out _ (Below.refl _ _)
 have f1:=Ld (FC.out _ HB0.out)
 unfold CtorAnsN at f1
 clear h hval hs hr hv hm FC
 generalize hic:xH ⟨kd,nm,ps,fl,ty,vl,cs⟩ k=ic at f1 HK HRC HBad HSix HPar
 generalize hro:yM ⟨kd,nm,ps,fl,ty,vl,cs⟩ k=ro at FR HNo HRC HYes HPack
 generalize yP ⟨kd,nm,ps,fl,ty,vl,cs⟩ k=res at HNo HYes ⊢
 generalize yL ⟨kd,nm,ps,fl,ty,vl,cs⟩ k=sl at FS HSL HBad HPack
 clear hic hro
 go_enter Tryz.func40,Tryz.ntmps40
 go_wp2_with fail
 (with_reducible refine f1.out.mono ?_);rintro e w1 ⟨n,t,rfl,hct,hb⟩
 have HB1:=Ld (HB0.out.trans (hb.mono HB0.out.size))
 have ha:=zI w1 (.cells #[.string ⟨n.toArray⟩,.string ⟨t.toArray⟩] 42)
 have hz1:W0.heap.size≤w1.heap.size:=hb.size
 have HKA:Hid (Below W0.heap.size W0 (w1.alloc (.cells #[.string ⟨n.toArray⟩,.string ⟨t.toArray⟩] 42))):=hb.trans (ha.mono hz1)
 have HCT:=Ld hct
 have hlt0:w.heap.size<w1.heap.size:=by omega
 have HXC:Hid (∀ W,Below (w1.alloc (.cells #[.string ⟨n.toArray⟩,.string ⟨t.toArray⟩] 42)).heap.size (w1.alloc (.cells #[.string ⟨n.toArray⟩,.string ⟨t.toArray⟩] 42)) W→W.cell? ⟨w1.heap.size,0,none⟩=some (.string ⟨n.toArray⟩)∧W.cell? ⟨w1.heap.size,1,none⟩=some (.string ⟨t.toArray⟩)):=by
  intro W hW
  have h:=fun i=>hW.cell (p:=⟨w1.heap.size,i,none⟩) (by simp)
  have k:=World.news_of_block (cs:=#[.string ⟨n.toArray⟩,.string ⟨t.toArray⟩]) (t:=42) (fr:=(0,0)) (heap_alloc_new w1 _)
  exact⟨(h 0).trans (k 0 _ rfl),(h 1).trans (k 1 _ rfl)⟩
 clear c0 c1 c2 c3 c4 c5 c6
 obtain⟨c0,c1,c2,c3,c4,c5,c6⟩:=HX.out _ HKA.out
 obtain⟨d0,d1,d2,d3,d4,d5,d6⟩:=HX.out _ hb
 clear hb ha hct f1 hW0
 obtain⟨WA,hWA⟩:∃ WA,(w1.alloc (.cells #[.string ⟨n.toArray⟩,.string ⟨t.toArray⟩] 42))=WA:=⟨_,rfl⟩
 rw[hWA] at HXC HKA c0 c1 c2 c3 c4 c5 c6
 have HAB:Hid (Below w.heap.size w WA):=HB0.out.trans (HKA.out.mono HB0.out.size)
 have f2:=FS.out _ HAB.out
 unfold IRes at f2
 have f2:=Ld f2
 go_wp2_with fail
 clear hWA
 (with_reducible refine f2.out.mono ?_);rintro e w2 ⟨v2,rfl,hv2,hb2⟩
 have HK2:=Ld (HKA.out.trans (hb2.mono HKA.out.size))
 have HB2:=Ld (HAB.out.trans (hb2.mono HAB.out.size))
 have HA2:=Ld hb2
 have HV2:=Ld hv2
 obtain⟨a2,k2,rfl⟩:=own_sliceI hv2
 clear hb2 hv2 f2 FS c0 c1 c2 c3 c4 c5 c6 d0 d1 d2 d3 d4 d5 d6
 obtain⟨c0,c1,c2,c3,c4,c5,c6⟩:=HX.out _ HK2.out
 cases ic
 ·have HF:Hid (res=none):=HNo.out (by
   cases ro
   ·rfl
   ·have:=HRC.out rfl
    cases this)
  clear HX HXC FR HYes HBad HPack HEach HSix HPar HNm HCT HK HNo HRC HV2
  go_wp2
  go_ret2
  rw[HF.out]
  exact⟨rfl,HB2.out⟩
 obtain⟨k0,k1,_⟩:=HK.out rfl
 obtain⟨j,rfl⟩:∃ j:Nat,k=(j:Int):=⟨k.toNat,by omega⟩
 have h6:=HSix.out rfl
 obtain⟨q0,q3⟩:=HPar.out rfl
 obtain⟨hct1,hct2⟩:=HCT.out rfl
 rw[Int.toNat_natCast] at hct2
 have HNA:=Ld (HNm.out j n t hct2)
 have HC1:=Ld hct1
 clear hct1 hct2
 have f3:=Ld (FR.out _ HB2.out)
 clear HCT HNm HPar HSix HK HRC FR
 go_wp2_with fail
 (with_reducible refine f3.out.mono ?_);rintro e w3 ⟨rfl,hb3⟩
 have HK3:=Ld (HK2.out.trans (hb3.mono HK2.out.size))
 have HB3:=Ld (HB2.out.trans (hb3.mono HB2.out.size))
 have HA3:=Ld (HA2.out.trans (hb3.mono HA2.out.size))
 have hv3:=zA HV2.out hb3
 clear hb3 f3 HV2 HK2 HB2 HA2 c0 c1 c2 c3 c4 c5 c6
 obtain⟨c0,c1,c2,c3,c4,c5,c6⟩:=HX.out _ HK3.out
 cases ro
 ·have HF:Hid (res=none):=HNo.out rfl
  clear HX HXC HYes HBad HPack HEach hv3 HNo
  go_wp2
  go_ret2
  rw[HF.out]
  exact⟨rfl,HB3.out⟩
 have f4:=Ld (slicesContainsI hv3 2 (by omega))
 have HV3:=Ld hv3
 have HR:=Ld (HYes.out j rfl (by first|rfl|trivial))
 clear HNo HYes hv3
 go_wp2_with fail
 (with_reducible refine f4.out.mono ?_);rintro e w4 ⟨rfl,rfl⟩
 clear f4
 by_cases hbad:(2:Int)∈sl
 ·have HF:Hid (res=none):=HR.out.trans (HBad.out j rfl (by first|rfl|trivial) hbad)
  have hde:decide ((2:Int)∈sl)=true:=decide_eq_true hbad
  clear HX HXC HBad HPack HEach HV3 HR
  rw[hde]
  clear hde hbad
  go_wp2
  go_ret2
  rw[HF.out]
  exact⟨rfl,HB3.out⟩
 obtain⟨T,ds,hT,hdm,hsl,hmn,hdl,hds,hcg⟩:=HPack.out j rfl (by first|rfl|trivial) hbad
 have hde:decide ((2:Int)∈sl)=false:=decide_eq_false hbad
 rw[hde]
 clear hde hbad HBad HPack
 rw[← HC1.out] at hT
 rw[HNA.out] at hmn hcg
 have HRES:Hid (res=sayT (some []) (minorT n (zT ps.toNat) j ds)):=HR.out.trans hmn
 have htl:t.length≤2000:=hT.2.2
 obtain⟨x0,x1⟩:=HXC.out _ HA3.out
 have f5:=Ld (xG ⟨t.toArray⟩ w4 (HV.out.below HB3.out) (by rw[zM];unfold maxLen;omega))
 unfold ReadAns at f5
 simp only at f5
 have HSL2:=Ld hsl
 have HTT:=Ld hT
 have HDM:=Ld hdm
 have HDS:=Ld hds
 have HCG:=Ld hcg
 clear hmn HR HEach HC1 HNA hsl hT hdm hds hcg
 go_wp2_with fail
 (with_reducible refine f5.out.mono ?_);rintro e w5 ⟨hb5,⟨T',vt,hT',rfl,hrt⟩|⟨hno,rfl⟩⟩
 rotate_left
 ·exact absurd HTT.out (hno _)
 obtain rfl:=hT'.uniq HTT.out
 have HK5:=Ld (HK3.out.trans (hb5.mono HK3.out.size))
 have HB5:=Ld (HB3.out.trans (hb5.mono HB3.out.size))
 have HA5:=Ld (HA3.out.trans (hb5.mono HA3.out.size))
 have HV5:=Ld (zA HV3.out hb5)
 have HRT:=Ld hrt
 obtain⟨TT,xt,rfl⟩:=hrt.iface
 clear hb5 hrt hT' f5 HV3 HK3 HB3 HA3 c0 c1 c2 c3 c4 c5 c6 x0 x1
 obtain⟨c0,c1,c2,c3,c4,c5,c6⟩:=HX.out _ HK5.out
 obtain⟨x0,x1⟩:=HXC.out _ HA5.out
 obtain⟨pn,rfl⟩:∃ pn:Nat,ps=(pn:Int):=⟨ps.toNat,by omega⟩
 rw[Int.toNat_natCast] at HRES HCG
 have f6:=Ld fun W (hW:Vars W)=>implParamLevels (n:=pn) W (by omega) hW
 have HVd:=Ld (HV.out.below HB5.out.drew)
 go_wp2
 go_region_held3 (fun w'=>(w'.cell? ⟨w.heap.size,0,none⟩=some (.int .i64 kd)∧w'.cell? ⟨w.heap.size,1,none⟩=some (.string ⟨nm.toArray⟩)∧w'.cell? ⟨w.heap.size,2,none⟩=some (.int .i64 pn)∧w'.cell? ⟨w.heap.size,3,none⟩=some (.int .i64 fl)∧w'.cell? ⟨w.heap.size,4,none⟩=some (.string ⟨ty.toArray⟩)∧w'.cell? ⟨w.heap.size,5,none⟩=some (.string ⟨vl.toArray⟩)∧w'.cell? ⟨w.heap.size,6,none⟩=some (.slice ua cs.length uc))∧(w'.cell? ⟨w1.heap.size,0,none⟩=some (.string ⟨n.toArray⟩)∧w'.cell? ⟨w1.heap.size,1,none⟩=some (.string ⟨t.toArray⟩))) (first|exact X7|exact X6|exact⟨⟨c0,c1,c2,c3,c4,c5,c6⟩,x0,x1⟩)
  (first|(go_at_call 84;(with_reducible refine(f6.out _ HVd.out).mono ?_);rintro e w6 ⟨v6,rfl,hv6,hb6⟩;obtain⟨a6,k6,rfl⟩:=zQ hv6;have hk6:=HK5.out.drew.trans (hb6.mono HK5.out.drew.size);have X6:=And.intro (HX.out _ hk6) (HXC.out _ (HA5.out.drew.trans (hb6.mono HA5.out.drew.size)));have ha6:=zI w6 (.cells #[.string ⟨n.toArray⟩,.slice a6 (zT pn).length k6] 116);have X7:=And.intro (HX.out _ (hk6.trans (ha6.mono hk6.size))) (HXC.out _ ((HA5.out.drew.trans (hb6.mono HA5.out.drew.size)).trans (ha6.mono (HA5.out.drew.trans (hb6.mono HA5.out.drew.size)).size)))))
 have hb56:Below w5.heap.size w5 (w6.alloc (.cells #[.string ⟨n.toArray⟩,.slice a6 (zT pn).length k6] 116)):=((Below.refl w5.heap.size w5).drew.trans hb6).trans (ha6.mono ((Below.refl w5.heap.size w5).drew.trans hb6).size)
 have hrC:yD (w6.alloc (.cells #[.string ⟨n.toArray⟩,.slice a6 (zT pn).length k6] 116)) (.const n (zT pn)) (.iface 114 (.pointer (some ⟨w6.heap.size,0,none⟩))):=⟨_,_,rfl,heap_alloc_new _ _,own_lower (zA hv6 ha6) (Nat.zero_le _)⟩
 have HBc:=Ld (HB5.out.trans (hb56.mono HB5.out.size))
 have HVc:=Ld (zA HV5.out hb56)
 have HRc:=Ld (HRT.out.below hb56)
 have HCc:=Ld hrC
 have hdl2:T'.doms.length≤499:=by rw[HDM.out,List.length_map];exact hdl
 clear hk6 X6 X7 ha6 hb56 hrC hv6 hb6 HX HXC HA5 HK5 HB5 HV5 HRT c0 c1 c2 c3 c4 c5 c6 x0 x1 f6 HVd
 generalize w6.alloc (.cells #[.string ⟨n.toArray⟩,.slice a6 (zT pn).length k6] 116)=Wc at HBc HVc HRc HCc ⊢
 have f7:=Ld (implDomainsOf TT xt Wc)
 have f8:=Ld (implCollDoms HRc.out (by omega))
 go_wp2_with fail
 (with_reducible refine f7.out.mono ?_);rintro e w7 ⟨rfl,rfl⟩
 clear f7
 generalize hwb:Wc.alloc (.cells #[.iface TT xt] 68)=wb at f8 ⊢
 clear hwb
 go_wp2_with fail
 (with_reducible refine f8.out.mono ?_);rintro e w8 ⟨u8,vs8,rfl,hu8,hvs8,hb8⟩
 have HB8:=Ld (HBc.out.trans (hb8.mono HBc.out.size))
 have hv8:=zA HVc.out hb8
 have hvg:∀ b v,w8.ownsRow b 3 1 v sl.length (sl.map iv)→w8.ownsRow b 3 1 v ds.length ((ds.map fun p=>if p.2=true then (1:Int) else 0).map iv):=fun b v h=>by
  rw[HSL2.out,List.length_map] at h
  exact h
 have hv8:=hvg _ _ hv8
 rw[HDM.out,List.length_map] at hu8
 rw[HDM.out] at hvs8
 obtain⟨a8,k8,rfl⟩:=zQ hu8
 have hj:j≤10:=by omega
 have f9:=implMinorOf (K:=j) (HCc.out.below hb8) hu8 hvs8 hv8 HDS.out hdl hj
 have f9:=Ld f9
 clear f8 hb8 hu8 hvs8 hv8 HBc HVc HRc HCc hdl2
 have HFit:=Ld (minorT_fit (k:=j) (nm:=n) (lv:=zT pn) hj ⟨HTT.out.1,by have:=HTT.out.2;rw[← this.1] at this;exact this.2⟩ HDM.out HCG.out)
 go_wp2_with fail
 (with_reducible refine f9.out.mono ?_);rintro e w9 ⟨T9,x9,rfl,hr9,hb9⟩
 have HB9:=Ld (HB8.out.trans (hb9.mono HB8.out.size))
 have f10:=implTextWithin (HV.out.below HB9.out) HFit.out.1 HFit.out.2.1 HFit.out.2.2 hr9
 obtain⟨o2,ho⟩:=putRes_get (sayT (some []) (minorT n (zT pn) j ds))
 have HRES2:Hid (yW res=.tuple #[.string ⟨((sayT (some []) (minorT n (zT pn) j ds)).getD []).toArray⟩,.bool o2]):=by rw[Hid,HRES.out];exact ho
 rw[ho] at f10
 generalize (sayT (some []) (minorT n (zT pn) j ds)).getD []=rt at f10 HRES2
 have f10:=Ld f10
 clear ho f9 hr9 hb9 HB8 HRES HFit
 go_wp2_with fail
 (with_reducible refine f10.out.mono ?_);rintro e w10 ⟨rfl,hb10⟩
 have HB10:=Ld (HB9.out.trans (hb10.mono HB9.out.size))
 clear f10 hb10 HB9
 go_wp2
 go_ret2
 rw[HRES2.out]
 exact⟨rfl,HB10.out⟩
end Go.Proofs.YtgonemalnljabaaGreatDoor
