/- JCt JRo JArg JSh ULeA JLg -/
import Derived.Laws.Cover1
import Derived.Test.YtgonemalnljabaaGreatDoorZE1
import Derived.Test.YtgonemalnljabaaGreatDoorZG2
import Derived.Test.YtgonemalnljabaaGreatDoorZE3
import Derived.Test.YtgonemalnljabaaGreatDoorZG1
import Derived.Test.YtgonemalnljabaaGreatDoorZG3
import Derived.Test.YtgonemalnljabaaGreatDoorZJ0
set_option maxRecDepth 100000
set_option maxHeartbeats 16000000
set_option linter.unusedSimpArgs false
set_option linter.unusedVariables false
namespace Go.Proofs.YtgonemalnljabaaGreatDoor
open Go.ChangeShapes Go.WideShapes Go.ChangeAt Go.RowKit
theorem specCtor{w:World}{d:Dc}{b:Nat}{u:Value}(h:w.ownsRow b 42 2 u d.ctors.length (xI d.ctors))(hs:d.Small)(k:Int) :
  Calls Tryz.prog 107 #[d.val u,.int .i64 k] w fun e w'=>e=.returned (.bool (xH d k))∧Below w.heap.size w w':=by
 obtain⟨kd,nm,ps,fl,ty,vl,cs⟩:=d
 obtain⟨ua,uc,rfl⟩:=zR h
 have HB0:=Ld (zI w (.cells #[.int .i64 kd,.string ⟨nm.toArray⟩,.int .i64 ps,.int .i64 fl,.string ⟨ty.toArray⟩,.string ⟨vl.toArray⟩,.slice ua cs.length uc] 36))
 have f1:=Ld (specDeclOk (d:=⟨kd,nm,ps,fl,ty,vl,cs⟩) (zA h HB0.out) hs)
 have hval:Dc.val ⟨kd,nm,ps,fl,ty,vl,cs⟩ (.slice ua cs.length uc)=.agg #[.int .i64 kd,.string ⟨nm.toArray⟩,.int .i64 ps,.int .i64 fl,.string ⟨ty.toArray⟩,.string ⟨vl.toArray⟩,.slice ua cs.length uc]:=rfl
 rw[hval] at f1 ⊢
 have HE:Hid (xH ⟨kd,nm,ps,fl,ty,vl,cs⟩ k=((decide (kd=4)&&zZ ⟨kd,nm,ps,fl,ty,vl,cs⟩)&&(decide (0≤k)&&decide (k<(cs.length:Int))))):=rfl
 have HX:=Ld (xF (w:=w) (kd:=kd) (ps:=ps) (fl:=fl) (nm:=nm) (ty:=ty) (vl:=vl) (u:=.slice ua cs.length uc))
 obtain⟨c0,c1,c2,c3,c4,c5,c6⟩:=HX.out _ (Below.refl _ _)
 clear h hval hs
 generalize zZ ⟨kd,nm,ps,fl,ty,vl,cs⟩=ok at f1 HE
 by_cases k4:kd=4
 rotate_left
 ·have b4:(kd==4)=false:=by rw[beq_eq_false_iff_ne];exact k4
  have HF:Hid (xH ⟨kd,nm,ps,fl,ty,vl,cs⟩ k=false):=by rw[Hid,HE.out,decide_eq_false k4];rfl
  clear f1 HX HE k4
  go_enter Tryz.func107,Tryz.ntmps107
  go_wp2
  go_ret
  rw[HF.out]
  exact⟨rfl,HB0.out⟩
 subst k4
 go_enter Tryz.func107,Tryz.ntmps107
 go_wp2_with fail
 (with_reducible refine f1.out.mono ?_);rintro e w1 ⟨rfl,hb⟩
 have HB1:=Ld (HB0.out.trans (hb.mono HB0.out.size))
 clear c0 c1 c2 c3 c4 c5 c6
 obtain⟨c0,c1,c2,c3,c4,c5,c6⟩:=HX.out _ hb
 clear hb f1 HX
 cases ok
 ·have HF:Hid (xH ⟨4,nm,ps,fl,ty,vl,cs⟩ k=false):=by rw[Hid,HE.out];simp
  go_wp2
  go_ret
  rw[HF.out]
  exact⟨rfl,HB1.out⟩
 by_cases q1:0≤k
 rotate_left
 ·have d1:decide (0≤k)=false:=decide_eq_false q1
  have HF:Hid (xH ⟨4,nm,ps,fl,ty,vl,cs⟩ k=false):=by rw[Hid,HE.out,d1];simp
  go_wp2
  go_ret
  rw[HF.out]
  exact⟨rfl,HB1.out⟩
 have d1:decide (0≤k)=true:=decide_eq_true q1
 by_cases q2:k<(cs.length:Int)
 ·have d2:decide (k<(cs.length:Int))=true:=decide_eq_true q2
  have HF:Hid (xH ⟨4,nm,ps,fl,ty,vl,cs⟩ k=true):=by rw[Hid,HE.out,d1,d2];rfl
  go_wp2
  go_ret
  rw[HF.out]
  exact⟨rfl,HB1.out⟩
 ·have d2:decide (k<(cs.length:Int))=false:=decide_eq_false q2
  have HF:Hid (xH ⟨4,nm,ps,fl,ty,vl,cs⟩ k=false):=by rw[Hid,HE.out,d2];simp
  go_wp2
  go_ret
  rw[HF.out]
  exact⟨rfl,HB1.out⟩
theorem specResultOk{w:World}{d:Dc}{b:Nat}{u:Value}(h:w.ownsRow b 42 2 u d.ctors.length (xI d.ctors))(hs:d.Small)(k:Int) :
  Calls Tryz.prog 51 #[d.val u,.int .i64 k] w fun e w'=>e=.returned (.bool (yM d k))∧Below w.heap.size w w':=by
 have HSC:=Ld fun (W:World) (hW:Below w.heap.size w W)=>specSelfConst (zA h hW) hs
 obtain⟨kd,nm,ps,fl,ty,vl,cs⟩:=d
 obtain⟨ua,uc,rfl⟩:=zR h
 have HB0:=Ld (zI w (.cells #[.int .i64 kd,.string ⟨nm.toArray⟩,.int .i64 ps,.int .i64 fl,.string ⟨ty.toArray⟩,.string ⟨vl.toArray⟩,.slice ua cs.length uc] 36))
 have HROW:=Ld (zA h HB0.out)
 have HCt:=Ld fun (W:World) (hW:Below w.heap.size w W)=>specCtor (d:=⟨kd,nm,ps,fl,ty,vl,cs⟩) (zA h hW) hs k
 have hval:Dc.val ⟨kd,nm,ps,fl,ty,vl,cs⟩ (.slice ua cs.length uc)=.agg #[.int .i64 kd,.string ⟨nm.toArray⟩,.int .i64 ps,.int .i64 fl,.string ⟨ty.toArray⟩,.string ⟨vl.toArray⟩,.slice ua cs.length uc]:=rfl
 simp only[hval] at HCt HSC
 rw[hval]
 have s5:=Ld hs.each
 simp only at s5
 have HE:Hid (yM ⟨kd,nm,ps,fl,ty,vl,cs⟩ k=(xH ⟨kd,nm,ps,fl,ty,vl,cs⟩ k&&decide (yI (yN ⟨kd,nm,ps,fl,ty,vl,cs⟩ k)=zJ ⟨kd,nm,ps,fl,ty,vl,cs⟩))):=rfl
 have HK:=Ld (isCtor_lt (d:=⟨kd,nm,ps,fl,ty,vl,cs⟩) (k:=k))
 have HTy:=Ld fun (j:Nat) (hj:j<cs.length)=>ctorType_at (d:=⟨kd,nm,ps,fl,ty,vl,cs⟩) (k:=j) hj
 have HX:=Ld (xF (w:=w) (kd:=kd) (ps:=ps) (fl:=fl) (nm:=nm) (ty:=ty) (vl:=vl) (u:=.slice ua cs.length uc))
 simp only at HK HTy
 obtain⟨c0,c1,c2,c3,c4,c5,c6⟩:=HX.out _ (Below.refl _ _)
 have HK0:=Ld (Below.refl (w.alloc (.cells #[.int .i64 kd,.string ⟨nm.toArray⟩,.int .i64 ps,.int .i64 fl,.string ⟨ty.toArray⟩,.string ⟨vl.toArray⟩,.slice ua cs.length uc] 36)).heap.size (w.alloc (.cells #[.int .i64 kd,.string ⟨nm.toArray⟩,.int .i64 ps,.int .i64 fl,.string ⟨ty.toArray⟩,.string ⟨vl.toArray⟩,.slice ua cs.length uc] 36)))
 have f1:=Ld (HCt.out _ HB0.out.drew)
 clear h hval hs HCt
 generalize zJ ⟨kd,nm,ps,fl,ty,vl,cs⟩=sf at HSC HE
 generalize xH ⟨kd,nm,ps,fl,ty,vl,cs⟩ k=ic at f1 HE HK
 go_enter Tryz.func51,Tryz.ntmps51
 go_wp2
 generalize hWB:(w.alloc (.cells #[.int .i64 kd,.string ⟨nm.toArray⟩,.int .i64 ps,.int .i64 fl,.string ⟨ty.toArray⟩,.string ⟨vl.toArray⟩,.slice ua cs.length uc] 36))=W0 at c0 c1 c2 c3 c4 c5 c6 HK0 f1 ⊢
 have hbox:w.heap.size<W0.heap.size:=by rw[← hWB];simp
 rw[hWB] at HX HB0 HROW
 clear hWB
 cases ic
 ·have HF:Hid (yM ⟨kd,nm,ps,fl,ty,vl,cs⟩ k=false):=by rw[Hid,HE.out];rfl
  refine wp_region_held_drew (S:=(fun w'=>w'.cell? ⟨w.heap.size,0,none⟩=some (.int .i64 kd)∧w'.cell? ⟨w.heap.size,1,none⟩=some (.string ⟨nm.toArray⟩)∧w'.cell? ⟨w.heap.size,2,none⟩=some (.int .i64 ps)∧w'.cell? ⟨w.heap.size,3,none⟩=some (.int .i64 fl)∧w'.cell? ⟨w.heap.size,4,none⟩=some (.string ⟨ty.toArray⟩)∧w'.cell? ⟨w.heap.size,5,none⟩=some (.string ⟨vl.toArray⟩)∧w'.cell? ⟨w.heap.size,6,none⟩=some (.slice ua cs.length uc))) (by kernel_rfl) ⟨c0,c1,c2,c3,c4,c5,c6⟩ (fun hS0=>?_)
  refine HV 0 5 (.agg #[.int .i64 kd,.string ⟨nm.toArray⟩,.int .i64 ps,.int .i64 fl,.string ⟨ty.toArray⟩,.string ⟨vl.toArray⟩,.slice ua cs.length uc]) hS0 ?_
  simp only[Act.put,eA,eB,eC]
  refine HV 1 6 (.int .i64 k) hS0 ?_
  simp only[Act.put,eA,eB,eC]
  refine wpAnyH_ready (rs:=[2]) (by kernel_rfl) (by simp) (AllReadyH.cons rfl (fun K hK=>?_) AllReadyH.nil)
  rw[if_pos (by rfl)]
  go_simp
  (with_reducible refine f1.out.mono ?_);rintro e w1 ⟨rfl,hb1⟩
  have hk1:Below W0.heap.size W0 w1:=HK0.out.drew.trans (hb1.mono HK0.out.drew.size)
  have HB1:=Ld (HB0.out.trans (hk1.mono HB0.out.size))
  refine hK.out _ _ (HX.out _ hk1) (fun hS1=>?_)
  clear hK K hS0 hb1 hk1 f1
  try simp only[Act.put,eA,eB,eC]
  refine HV 3 8 (.bool false) hS1 ?_
  simp only[Act.put,eA,eB,eC]
  refine HS 4 9 hS1 ?_
  simp only[Act.put,eA,eB,eC]
  refine HS 5 10 hS1 ?_
  simp only[Act.put,eA,eB,eC]
  refine HS 6 11 hS1 ?_
  simp only[Act.put,eA,eB,eC]
  refine HS 7 12 hS1 ?_
  simp only[Act.put,eA,eB,eC]
  refine HS 8 13 hS1 ?_
  simp only[Act.put,eA,eB,eC]
  refine HS 9 14 hS1 ?_
  simp only[Act.put,eA,eB,eC]
  refine HS 10 15 hS1 ?_
  simp only[Act.put,eA,eB,eC]
  refine HS 11 16 hS1 ?_
  simp only[Act.put,eA,eB,eC]
  refine HS 12 17 hS1 ?_
  simp only[Act.put,eA,eB,eC]
  refine HS 13 18 hS1 ?_
  simp only[Act.put,eA,eB,eC]
  refine HV 14 19 (.bool false) hS1 ?_
  simp only[Act.put,eA,eB,eC]
  refine HV 15 4 (.bool false) hS1 ?_
  simp only[Act.put,eA,eB,eC]
  refine wpAnyH_done (by kernel_rfl) ?_ _
  clear HX HROW HSC
  go_wp2
  go_ret
  rw[HF.out]
  exact⟨rfl,HB1.out⟩
 obtain⟨k0,k1,_⟩:=HK.out rfl
 obtain⟨j,rfl⟩:∃ j:Nat,k=(j:Int):=⟨k.toNat,by omega⟩
 have hj:j<cs.length:=by omega
 have HF:Hid (yM ⟨kd,nm,ps,fl,ty,vl,cs⟩ (j:Int)=decide (yI cs[j].2=sf)):=by
  rw[Hid,HE.out,HTy.out j hj];rfl
 clear HE HK HTy
 obtain⟨g,cap',eg,_,hgl⟩:=HROW.out.form (by omega)
 cases eg
 obtain⟨fa,fb⟩:=flatC_at hj
 have y1:=(HROW.out.cellAt (j*2+1) (by omega)).trans fb
 unfold sv at y1
 have hel:=(s5.out _ (List.getElem_mem hj)).2
 have q1:(0:Int)≤(j:Int):=by omega
 have q2:(j:Int)<(cs.length:Int):=by omega
 clear fa fb s5
 generalize cs[j].2=t at y1 hel HF
 have f2:=Ld fun W=>specTarget ⟨t.toArray⟩ W (by rw[zM];unfold maxLen;omega)
 simp only at f2
 generalize yI t=tg at f2 HF
 refine wp_region_held_drew (S:=(fun w'=>(w'.cell? ⟨w.heap.size,0,none⟩=some (.int .i64 kd)∧w'.cell? ⟨w.heap.size,1,none⟩=some (.string ⟨nm.toArray⟩)∧w'.cell? ⟨w.heap.size,2,none⟩=some (.int .i64 ps)∧w'.cell? ⟨w.heap.size,3,none⟩=some (.int .i64 fl)∧w'.cell? ⟨w.heap.size,4,none⟩=some (.string ⟨ty.toArray⟩)∧w'.cell? ⟨w.heap.size,5,none⟩=some (.string ⟨vl.toArray⟩)∧w'.cell? ⟨w.heap.size,6,none⟩=some (.slice (some ⟨g,0,none⟩) cs.length uc))∧w'.cell? ⟨g,j*2+1,none⟩=some (.string ⟨t.toArray⟩))) (by kernel_rfl) ⟨⟨c0,c1,c2,c3,c4,c5,c6⟩,y1⟩ (fun hS0=>?_)
 refine HV 0 5 (.agg #[.int .i64 kd,.string ⟨nm.toArray⟩,.int .i64 ps,.int .i64 fl,.string ⟨ty.toArray⟩,.string ⟨vl.toArray⟩,.slice (some ⟨g,0,none⟩) cs.length uc]) hS0 ?_
 simp only[Act.put,eA,eB,eC]
 refine HV 1 6 (.int .i64 j) hS0 ?_
 simp only[Act.put,eA,eB,eC]
 refine wpAnyH_ready (rs:=[2]) (by kernel_rfl) (by simp) (AllReadyH.cons rfl (fun K hK=>?_) AllReadyH.nil)
 rw[if_pos (by rfl)]
 go_simp
 (with_reducible refine f1.out.mono ?_);rintro e w1 ⟨rfl,hb1⟩
 have hk1:Below W0.heap.size W0 w1:=HK0.out.drew.trans (hb1.mono HK0.out.drew.size)
 have HK1:=Ld hk1
 have y2:=(hk1.cell (p:=⟨g,j*2+1,none⟩) hgl).trans y1
 have hgl1:g<w1.heap.size:=Nat.lt_of_lt_of_le hgl hk1.size
 refine hK.out _ _ ⟨HX.out _ hk1,y2⟩ (fun hS1=>?_)
 clear hK K hS0 hb1 hk1 f1 c0 c1 c2 c3 c4 c5 c6
 try simp only[Act.put,eA,eB,eC]
 refine HV 3 8 (.bool true) hS1 ?_
 simp only[Act.put,eA,eB,eC]
 refine HV 4 9 (.pointer (some ⟨w.heap.size,6,none⟩)) hS1 ?_
 simp only[Act.put,eA,eB,eC]
 refine HV 5 10 (.slice (some ⟨g,0,none⟩) cs.length uc) hS1 ?_
 simp only[Act.put,eA,eB,eC]
 refine HV 6 11 (.int .i64 j) hS1 ?_
 simp only[Act.put,eA,eB,eC]
 refine HV 7 12 (.pointer (some ⟨g,j*2,none⟩)) hS1 ?_
 simp only[Act.put,eA,eB,eC]
 refine HV 8 13 (.pointer (some ⟨g,j*2+1,none⟩)) hS1 ?_
 simp only[Act.put,eA,eB,eC]
 refine HV 9 14 (.string ⟨t.toArray⟩) hS1 ?_
 simp only[Act.put,eA,eB,eC]
 refine HV 11 16 (.agg #[.int .i64 kd,.string ⟨nm.toArray⟩,.int .i64 ps,.int .i64 fl,.string ⟨ty.toArray⟩,.string ⟨vl.toArray⟩,.slice (some ⟨g,0,none⟩) cs.length uc]) hS1 ?_
 simp only[Act.put,eA,eB,eC]
 refine wpAnyH_ready (rs:=[10]) (by kernel_rfl) (by simp) (AllReadyH.cons rfl (fun K hK=>?_) AllReadyH.nil)
 rw[if_pos (by rfl)]
 go_simp
 (with_reducible refine(f2.out _).mono ?_);rintro e w2 ⟨rfl,hbw2⟩
 have HKw2:=Ld (HK1.out.trans (hbw2.mono HK1.out.size))
 have yw2:=(HKw2.out.cell (p:=⟨g,j*2+1,none⟩) hgl).trans y1
 refine hK.out _ _ ⟨HX.out _ HKw2.out,yw2⟩ (fun hSw2=>?_)
 clear hK K hbw2
 try simp only[Act.put,eA,eB,eC]
 refine wpAnyH_ready (rs:=[12]) (by kernel_rfl) (by simp) (AllReadyH.cons rfl (fun K hK=>?_) AllReadyH.nil)
 rw[if_pos (by rfl)]
 go_simp
 (with_reducible refine(HSC.out _ (HB0.out.trans (HKw2.out.mono HB0.out.size))).mono ?_);rintro e w3 ⟨rfl,hbw3⟩
 have HKw3:=Ld (HKw2.out.trans (hbw3.mono HKw2.out.size))
 have yw3:=(HKw3.out.cell (p:=⟨g,j*2+1,none⟩) hgl).trans y1
 refine hK.out _ _ ⟨HX.out _ HKw3.out,yw3⟩ (fun hSw3=>?_)
 clear hK K hbw3
 try simp only[Act.put,eA,eB,eC]
 have HBF:=Ld (HB0.out.trans (HKw3.out.mono HB0.out.size))
 by_cases ht:tg=sf
 ·have d1:(tg==sf)=true:=by rw[beq_iff_eq];exact ht
  have HG:Hid (yM ⟨kd,nm,ps,fl,ty,vl,cs⟩ (j:Int)=true):=by rw[Hid,HF.out];exact decide_eq_true ht
  refine HV 13 18 (.bool true) hSw3 ?_
  simp only[Act.put,eA,eB,eC]
  refine HV 14 19 (.bool true) hSw3 ?_
  simp only[Act.put,eA,eB,eC]
  refine HV 15 4 (.bool true) hSw3 ?_
  simp only[Act.put,eA,eB,eC]
  refine wpAnyH_done (by kernel_rfl) ?_ _
  clear HX HROW HSC
  go_wp2
  go_ret
  rw[HG.out]
  exact⟨rfl,HBF.out⟩
 ·have d1:(tg==sf)=false:=by rw[beq_eq_false_iff_ne];exact ht
  have HG:Hid (yM ⟨kd,nm,ps,fl,ty,vl,cs⟩ (j:Int)=false):=by rw[Hid,HF.out];exact decide_eq_false ht
  refine HV 13 18 (.bool false) hSw3 ?_
  simp only[Act.put,eA,eB,eC]
  refine HV 14 19 (.bool false) hSw3 ?_
  simp only[Act.put,eA,eB,eC]
  refine HV 15 4 (.bool false) hSw3 ?_
  simp only[Act.put,eA,eB,eC]
  refine wpAnyH_done (by kernel_rfl) ?_ _
  clear HX HROW HSC
  go_wp2
  go_ret
  rw[HG.out]
  exact⟨rfl,HBF.out⟩
theorem specArgShape(sf nm dm:List UInt8)(w:World)(hd:dm.length≤281474976710656) :
  Calls Tryz.prog 108 #[.string ⟨sf.toArray⟩,.string ⟨nm.toArray⟩,.string ⟨dm.toArray⟩] w fun e w'=>e=.returned (.int .i64 (zP sf nm dm))∧Below w.heap.size w w':=by
 have zdm:=zM dm
 have f1:=Ld fun W=>specTermOk ⟨dm.toArray⟩ W (by rw[zdm];unfold maxLen;omega)
 have f2:=Ld fun W=>specHasName ⟨dm.toArray⟩ ⟨nm.toArray⟩ W (by rw[zdm];unfold maxLen;omega)
 have f3:=Ld fun W=>specDomains ⟨dm.toArray⟩ W (by rw[zdm];unfold maxLen;omega)
 have f4:=Ld fun W=>specTarget ⟨dm.toArray⟩ W (by rw[zdm];unfold maxLen;omega)
 simp only at f1 f2 f3 f4
 unfold LRes' at f3
 have hlen:=domainsOf_len dm
 have HSh:=Ld (domainsOf_short dm)
 have HNo:=Ld (argShape_no (self:=sf) (name:=nm) (dom:=dm))
 have HFr:=Ld (argShape_free (self:=sf) (name:=nm) (dom:=dm))
 have HDm:=Ld (argShape_dom (self:=sf) (name:=nm) (dom:=dm))
 have HSf:=Ld (argShape_self (self:=sf) (name:=nm) (dom:=dm))
 generalize zP sf nm dm=r at HNo HFr HDm HSf ⊢
 generalize zX dm=b1 at f1 HNo HFr HDm HSf
 generalize inL (usesIn dm) nm=b2 at f2 HFr HDm HSf
 generalize zH dm=l at f3 hlen HSh HDm HSf
 generalize yI dm=tg at f4 HSf
 go_enter Tryz.func108,Tryz.ntmps108
 go_wp2_with fail
 (with_reducible refine(f1.out _).mono ?_);rintro e w1 ⟨rfl,hb1⟩
 have HB1:=Ld hb1
 clear hb1 f1
 cases b1
 ·have HE:Hid (r=2):=HNo.out (by trivial)
  go_wp2
  go_ret
  rw[HE.out]
  exact⟨rfl,HB1.out⟩
 go_wp2_with fail
 (with_reducible refine(f2.out _).mono ?_);rintro e w2 ⟨rfl,hb2⟩
 have HB2:=Ld (HB1.out.trans (hb2.mono HB1.out.size))
 clear hb2 f2
 cases b2
 ·have HE:Hid (r=0):=HFr.out (by trivial) (by trivial)
  go_wp2
  go_ret
  rw[HE.out]
  exact⟨rfl,HB2.out⟩
 go_wp2_with fail
 (with_reducible refine(f3.out _).mono ?_);rintro e w3 ⟨u,rfl,hu,hb3⟩
 obtain⟨ua,uc,rfl⟩:=zR hu
 have HB3:=Ld (HB2.out.trans (hb3.mono HB2.out.size))
 have HU:=Ld hu
 have HS3:=Ld (Below.refl w3.heap.size w3)
 clear hb3 hu f3
 go_wp2
 go_loopw [8] (fun i wr=>∃ k:Nat,k≤l.length∧i=.int .i64 k∧Hid (Below w3.heap.size w3 wr)∧Hid (∀ (j:Nat) (hj:j<l.length),j<k→inL (usesIn l[j]) nm=false)) (fun i _=>l.length - (intOf i).toNat)
 case atStart=>exact⟨0,Nat.zero_le _,rfl,HS3.out,fun j _ h=>absurd h (Nat.not_lt_zero _)⟩
 case round =>
  obtain⟨k,hk,rfl,HW,HA⟩:=hrel
  clear HS3
  by_cases hlt:k<l.length
  ·have hrow:=zA HU.out HW.out
   obtain⟨g,cap',eg,_,hgl⟩:=hrow.form (by omega)
   cases eg
   have cc:=hrow.cellAt k (by omega)
   have ex:(l.map sv)[k]?=some (sv l[k]):=by simp[hlt]
   rw[ex] at cc
   unfold sv at cc
   have q1:(0:Int)≤(k:Int):=by omega
   have q2:(k:Int)<(l.length:Int):=by omega
   have HBad:Hid (inL (usesIn l[k]) nm=true→r=2):=fun h=>HDm.out (by trivial) (by trivial) (List.any_eq_true.2 ⟨l[k],List.getElem_mem hlt,h⟩)
   have HGood:Hid (inL (usesIn l[k]) nm=false→∀ (j:Nat) (hj:j<l.length),j<k+1→inL (usesIn l[j]) nm=false):=fun h j hj hjk=>by
    rcases Nat.lt_succ_iff_lt_or_eq.1 hjk with h3|rfl
    ·exact HA.out j hj h3
    ·exact h
   have hel:=HSh.out l[k] (List.getElem_mem hlt)
   clear ex hrow HA
   generalize l[k]=x at cc HBad HGood hel
   have f5:=Ld fun W=>specHasName ⟨x.toArray⟩ ⟨nm.toArray⟩ W (by rw[zM];unfold maxLen;omega)
   simp only at f5
   generalize inL (usesIn x) nm=b3 at f5 HBad HGood
   go_wp2_with fail
   (with_reducible refine(f5.out _).mono ?_);rintro e w5 ⟨rfl,hb5⟩
   have HW5:=Ld (HW.out.trans (hb5.mono HW.out.size))
   clear hb5 f5
   cases b3
   rotate_left
   ·have HE:Hid (r=2):=HBad.out rfl
    have HBF:=Ld (HB3.out.trans (HW5.out.mono HB3.out.size))
    go_wp2
    go_ret
    rw[HE.out]
    exact⟨rfl,HBF.out⟩
   have HA2:=Ld (HGood.out rfl)
   clear HBad HGood
   go_wp2
   go_roundw
   case rel=>exact⟨k+1,by omega,by go_num,HW5.out,HA2.out⟩
   case measure=>simp[intOf];omega
  ·obtain rfl:k=l.length:=by omega
   have HE:Hid (r=if tg=sf then 1 else 2):=HSf.out (by trivial) (by trivial) (by
    rw[Bool.eq_false_iff]
    intro h
    obtain⟨x,hx,h1⟩:=List.any_eq_true.1 h
    obtain⟨j,hj,rfl⟩:=List.mem_iff_getElem.1 hx
    rw[HA.out j hj hj] at h1
    cases h1)
   have HBF:=Ld (HB3.out.trans (HW.out.mono HB3.out.size))
   clear HA HU HSh HDm HSf HNo HFr
   go_wp2_with fail
   (with_reducible refine(f4.out _).mono ?_);rintro e w6 ⟨rfl,hb6⟩
   have HBE:=Ld (HBF.out.trans (hb6.mono HBF.out.size))
   clear hb6 f4
   by_cases ht:tg=sf
   ·have d1:(tg==sf)=true:=by rw[beq_iff_eq];exact ht
    have HE2:Hid (r=1):=by rw[Hid,HE.out,if_pos ht]
    clear ht HE
    go_wp2
    go_ret
    rw[HE2.out]
    exact⟨rfl,HBE.out⟩
   ·have d1:(tg==sf)=false:=by rw[beq_eq_false_iff_ne];exact ht
    have HE2:Hid (r=2):=by rw[Hid,HE.out,if_neg ht]
    clear ht HE
    go_wp2
    go_ret
    rw[HE2.out]
    exact⟨rfl,HBE.out⟩
theorem own_kept_row{w w':World}{b b' z z' n n' g cap i:Nat}{e e':TypeId}{v' u:Value}{xs xs':List Value}(hg:w.grownBy w' v'.ownBlock)(h:w.ownsRow b e z (.slice (some ⟨g,0,none⟩) n cap) n xs)(h':w.ownsRow b' e' z' v' n' xs')(hne:e≠e')(hi:i<n*z)(hc:w.cell? ⟨g,i,none⟩=some u):w'.cell? ⟨g,i,none⟩=some u:=by
 have h2:=own_other h h' hne hg
 have c1:=h.cellAt i hi
 have c2:=h2.cellAt i hi
 rw[c2,← c1,hc]
theorem specShapesOf{w:World}{d:Dc}{b:Nat}{u:Value}(h:w.ownsRow b 42 2 u d.ctors.length (xI d.ctors))(hs:d.Small)(k:Int) :
  Calls Tryz.prog 46 #[d.val u,.int .i64 k] w (IRes (yL d k) w):=by
 obtain⟨i0,hi,hz0,hz1,hz2⟩:=info_parts infoInt
 have HSC:=Ld fun (W:World) (hW:Below w.heap.size w W)=>specSelfConst (zA h hW) hs
 obtain⟨kd,nm,ps,fl,ty,vl,cs⟩:=d
 obtain⟨ua,uc,rfl⟩:=zR h
 have HB0:=Ld (zI w (.cells #[.int .i64 kd,.string ⟨nm.toArray⟩,.int .i64 ps,.int .i64 fl,.string ⟨ty.toArray⟩,.string ⟨vl.toArray⟩,.slice ua cs.length uc] 36))
 have HROW:=Ld (zA h HB0.out)
 have HCt:=Ld fun (W:World) (hW:Below w.heap.size w W)=>specCtor (d:=⟨kd,nm,ps,fl,ty,vl,cs⟩) (zA h hW) hs k
 have hval:Dc.val ⟨kd,nm,ps,fl,ty,vl,cs⟩ (.slice ua cs.length uc)=.agg #[.int .i64 kd,.string ⟨nm.toArray⟩,.int .i64 ps,.int .i64 fl,.string ⟨ty.toArray⟩,.string ⟨vl.toArray⟩,.slice ua cs.length uc]:=rfl
 simp only[hval] at HCt HSC
 rw[hval]
 have s1:=hs.name
 have s5:=Ld hs.each
 simp only at s1 s5
 have HE:Hid (yL ⟨kd,nm,ps,fl,ty,vl,cs⟩ k=if xH ⟨kd,nm,ps,fl,ty,vl,cs⟩ k=true then (zH (yN ⟨kd,nm,ps,fl,ty,vl,cs⟩ k)).map (fun x=>zP (zJ ⟨kd,nm,ps,fl,ty,vl,cs⟩) nm x) else []):=rfl
 have HK:=Ld (isCtor_lt (d:=⟨kd,nm,ps,fl,ty,vl,cs⟩) (k:=k))
 have HTy:=Ld fun (j:Nat) (hj:j<cs.length)=>ctorType_at (d:=⟨kd,nm,ps,fl,ty,vl,cs⟩) (k:=j) hj
 have HX:=Ld (xF (w:=w) (kd:=kd) (ps:=ps) (fl:=fl) (nm:=nm) (ty:=ty) (vl:=vl) (u:=.slice ua cs.length uc))
 simp only at HK HTy
 obtain⟨c0,c1,c2,c3,c4,c5,c6⟩:=HX.out _ (Below.refl _ _)
 clear h hval hs
 have hbs:(w.alloc (.cells #[.int .i64 kd,.string ⟨nm.toArray⟩,.int .i64 ps,.int .i64 fl,.string ⟨ty.toArray⟩,.string ⟨vl.toArray⟩,.slice ua cs.length uc] 36)).heap.size=w.heap.size+1:=by simp
 have hrow0:Hid (((w.alloc (.cells #[.int .i64 kd,.string ⟨nm.toArray⟩,.int .i64 ps,.int .i64 fl,.string ⟨ty.toArray⟩,.string ⟨vl.toArray⟩,.slice ua cs.length uc] 36)).alloc (.cells #[] 3)).ownsRow (w.alloc (.cells #[.int .i64 kd,.string ⟨nm.toArray⟩,.int .i64 ps,.int .i64 fl,.string ⟨ty.toArray⟩,.string ⟨vl.toArray⟩,.slice ua cs.length uc] 36)).heap.size 3 1 (.slice (some ⟨w.heap.size+1,0,none⟩) 0 0) 0 []):=by
  have h1:=World.ownsRow_lit (base:=(w.alloc (.cells #[.int .i64 kd,.string ⟨nm.toArray⟩,.int .i64 ps,.int .i64 fl,.string ⟨ty.toArray⟩,.string ⟨vl.toArray⟩,.slice ua cs.length uc] 36)).heap.size) (e:=3) (size:=1) (w.alloc (.cells #[.int .i64 kd,.string ⟨nm.toArray⟩,.int .i64 ps,.int .i64 fl,.string ⟨ty.toArray⟩,.string ⟨vl.toArray⟩,.slice ua cs.length uc] 36)) #[] 0 (Nat.le_refl _) (by decide) (by simp)
  rw[hbs] at h1
  rw[Hid,hbs]
  exact h1
 have hbl0:Hid (Below (w.alloc (.cells #[.int .i64 kd,.string ⟨nm.toArray⟩,.int .i64 ps,.int .i64 fl,.string ⟨ty.toArray⟩,.string ⟨vl.toArray⟩,.slice ua cs.length uc] 36)).heap.size (w.alloc (.cells #[.int .i64 kd,.string ⟨nm.toArray⟩,.int .i64 ps,.int .i64 fl,.string ⟨ty.toArray⟩,.string ⟨vl.toArray⟩,.slice ua cs.length uc] 36)) ((w.alloc (.cells #[.int .i64 kd,.string ⟨nm.toArray⟩,.int .i64 ps,.int .i64 fl,.string ⟨ty.toArray⟩,.string ⟨vl.toArray⟩,.slice ua cs.length uc] 36)).alloc (.cells #[] 3))):=zI _ _
 have f1:=Ld (HCt.out _ (HB0.out.trans (hbl0.out.mono HB0.out.size)))
 obtain⟨l0,l1,l2,l3,l4,l5,l6⟩:=HX.out _ hbl0.out
 generalize zJ ⟨kd,nm,ps,fl,ty,vl,cs⟩=sf at HSC HE
 generalize xH ⟨kd,nm,ps,fl,ty,vl,cs⟩ k=ic at f1 HE HK
 go_enter Tryz.func46,Tryz.ntmps46
 go_wp2_with fail
 (with_reducible refine f1.out.mono ?_);rintro e w1 ⟨rfl,hb⟩
 have HX1:=Ld (hbl0.out.trans (hb.mono hbl0.out.size))
 have HR1:=Ld (zA hrow0.out hb)
 have HB1:=Ld (HB0.out.trans (HX1.out.mono HB0.out.size))
 clear c0 c1 c2 c3 c4 c5 c6 l0 l1 l2 l3 l4 l5 l6
 obtain⟨c0,c1,c2,c3,c4,c5,c6⟩:=HX.out _ HX1.out
 clear hb f1 HCt
 cases ic
 ·have HF:Hid (yL ⟨kd,nm,ps,fl,ty,vl,cs⟩ k=[]):=by rw[Hid,HE.out];rfl
  have HR:Hid (w1.ownsRow w.heap.size 3 1 (.slice (some ⟨w.heap.size+1,0,none⟩) 0 0) 0 []):=own_lower HR1.out HB0.out.size
  clear HX HROW HSC
  go_wp2
  go_ret
  rw[HF.out]
  exact⟨_,rfl,by simpa using HR.out,HB1.out⟩
 obtain⟨k0,k1,_⟩:=HK.out rfl
 obtain⟨j,rfl⟩:∃ j:Nat,k=(j:Int):=⟨k.toNat,by omega⟩
 have hj:j<cs.length:=by omega
 have HF:Hid (yL ⟨kd,nm,ps,fl,ty,vl,cs⟩ (j:Int)=(zH cs[j].2).map fun x=>zP sf nm x):=by
  rw[Hid,HE.out,if_pos rfl,HTy.out j hj]
 obtain⟨W0,hW0⟩:∃ W0,(w.alloc (.cells #[.int .i64 kd,.string ⟨nm.toArray⟩,.int .i64 ps,.int .i64 fl,.string ⟨ty.toArray⟩,.string ⟨vl.toArray⟩,.slice ua cs.length uc] 36))=W0:=⟨_,rfl⟩
 have hbox:w.heap.size<W0.heap.size:=by rw[← hW0];simp
 rw[hW0] at HX HROW HB0 HX1 HR1
 clear hW0 HE HK HTy hrow0 hbl0 hbs
 have hrow:=zA HROW.out HX1.out
 obtain⟨g,cap',eg,_,hgl⟩:=hrow.form (by omega)
 cases eg
 obtain⟨fa,fb⟩:=flatC_at hj
 have y1:=(hrow.cellAt (j*2+1) (by omega)).trans fb
 unfold sv at y1
 have hel:=(s5.out _ (List.getElem_mem hj)).2
 have q1:(0:Int)≤(j:Int):=by omega
 have q2:(j:Int)<(cs.length:Int):=by omega
 clear fa fb hrow s5
 generalize cs[j].2=t at y1 hel HF
 have f2:=Ld fun W=>specDomains ⟨t.toArray⟩ W (by rw[zM];unfold maxLen;omega)
 simp only at f2
 unfold LRes' at f2
 have hln:=domainsOf_len t
 have HSh:=Ld (domainsOf_short t)
 generalize zH t=l at f2 hln HSh HF
 go_wp2_with fail
 (with_reducible refine(f2.out _).mono ?_);rintro e w2 ⟨v2,rfl,hv2,hb2⟩
 obtain⟨va,vc,rfl⟩:=zR hv2
 have HX2:=Ld (HX1.out.trans (hb2.mono HX1.out.size))
 have HR2:=Ld (zA HR1.out hb2)
 have HL2:=Ld hv2
 have HS2:=Ld (Below.refl w2.heap.size w2)
 clear hv2 hb2 f2 c0 c1 c2 c3 c4 c5 c6 y1
 go_wp2
 go_loopw [5,7] (fun o i wr=>∃ (m:Nat) (oo:Value),m≤l.length∧i=.int .i64 m∧oo=o∧Hid (wr.ownsRow W0.heap.size 3 1 oo m ((l.take m).map fun x=>iv (zP sf nm x)))∧Hid (wr.ownsRow w1.heap.size 9 1 (.slice va l.length vc) l.length (l.map sv))∧Hid (Below W0.heap.size W0 wr)) (fun _ i _=>l.length - (intOf i).toNat)
 case atStart=>exact⟨0,_,Nat.zero_le _,rfl,rfl,HR2.out,HL2.out,HX2.out⟩
 case round =>
  obtain⟨m,oo,hm,rfl,rfl,HO,HL,HW⟩:=hrel
  clear HR2 HL2 HX2 HS2 HX1 HR1 HB1
  have HBw:=Ld (HB0.out.trans (HW.out.mono HB0.out.size))
  by_cases hlt:m<l.length
  rotate_left
  ·obtain rfl:m=l.length:=by omega
   have HRf:Hid (wr.ownsRow w.heap.size 3 1 oo (yL ⟨kd,nm,ps,fl,ty,vl,cs⟩ (j:Int)).length ((yL ⟨kd,nm,ps,fl,ty,vl,cs⟩ (j:Int)).map iv)):=by
    have h1:=own_lower HO.out HB0.out.size
    rw[List.take_length] at h1
    rw[Hid,HF.out,List.length_map,List.map_map]
    exact h1
   clear HSC HROW HX HL HO HF
   go_wp2
   go_ret
   exact⟨_,rfl,HRf.out,HBw.out⟩
  obtain⟨c0,c1,c2,c3,c4,c5,c6⟩:=HX.out _ HW.out
  obtain⟨g2,cap2,eg2,_,hg2⟩:=HL.out.form (by omega)
  cases eg2
  have cc:=HL.out.cellAt m (by omega)
  have ex:(l.map sv)[m]?=some (sv l[m]):=by simp[hlt]
  rw[ex] at cc
  unfold sv at cc
  have p1:(0:Int)≤(m:Int):=by omega
  have p2:(m:Int)<(l.length:Int):=by omega
  have HT:Hid ((l.take (m+1)).map (fun x=>iv (zP sf nm x))=(l.take m).map (fun x=>iv (zP sf nm x))++[iv (zP sf nm l[m])]):=by
   rw[Hid,List.take_succ_eq_append_getElem hlt,List.map_append]
   rfl
  have hxl:=HSh.out _ (List.getElem_mem hlt)
  clear ex
  generalize l[m]=x at cc HT hxl
  have f5:=Ld (HSC.out _ HBw.out.drew)
  have f6:=Ld fun W=>specArgShape sf nm x W (by omega)
  generalize zP sf nm x=r at f6 HT
  go_wp2
  refine wp_region_held_drew (S:=(fun w'=>(w'.cell? ⟨w.heap.size,0,none⟩=some (.int .i64 kd)∧w'.cell? ⟨w.heap.size,1,none⟩=some (.string ⟨nm.toArray⟩)∧w'.cell? ⟨w.heap.size,2,none⟩=some (.int .i64 ps)∧w'.cell? ⟨w.heap.size,3,none⟩=some (.int .i64 fl)∧w'.cell? ⟨w.heap.size,4,none⟩=some (.string ⟨ty.toArray⟩)∧w'.cell? ⟨w.heap.size,5,none⟩=some (.string ⟨vl.toArray⟩)∧w'.cell? ⟨w.heap.size,6,none⟩=some (.slice (some ⟨g,0,none⟩) cs.length uc))∧w'.cell? ⟨g2,m,none⟩=some (.string ⟨x.toArray⟩))) (by kernel_rfl) ⟨⟨c0,c1,c2,c3,c4,c5,c6⟩,cc⟩ (fun hS0=>?_)
  refine yR 0 27 (oo) rfl rfl (by kernel_rfl) (by kernel_rfl) (by kernel_rfl) (fun _ _ _ h=>h) (by rfl) hS0 (fun W hSW=>?_) ?_
  ·(try dsimp only at hSW);(try obtain⟨hSA,hSB⟩:=hSW);go_simp
  simp only[Act.put,eA,eB,eC]
  refine yR 1 28 (.agg #[.int .i64 kd,.string ⟨nm.toArray⟩,.int .i64 ps,.int .i64 fl,.string ⟨ty.toArray⟩,.string ⟨vl.toArray⟩,.slice (some ⟨g,0,none⟩) cs.length uc]) rfl rfl (by kernel_rfl) (by kernel_rfl) (by kernel_rfl) (fun _ _ _ h=>h) (by rfl) hS0 (fun W hSW=>?_) ?_
  ·(try dsimp only at hSW);(try obtain⟨hSA,hSB⟩:=hSW);go_simp
  simp only[Act.put,eA,eB,eC]
  refine yR 3 30 (.pointer (some ⟨w.heap.size,1,none⟩)) rfl rfl (by kernel_rfl) (by kernel_rfl) (by kernel_rfl) (fun _ _ _ h=>h) (by rfl) hS0 (fun W hSW=>?_) ?_
  ·(try dsimp only at hSW);(try obtain⟨hSA,hSB⟩:=hSW);go_simp
  simp only[Act.put,eA,eB,eC]
  refine yR 4 31 (.string ⟨nm.toArray⟩) rfl rfl (by kernel_rfl) (by kernel_rfl) (by kernel_rfl) (fun _ _ _ h=>h) (by rfl) hS0 (fun W hSW=>?_) ?_
  ·(try dsimp only at hSW);(try obtain⟨hSA,hSB⟩:=hSW);go_simp
  simp only[Act.put,eA,eB,eC]
  refine yR 5 32 (.slice (some ⟨g2,0,none⟩) l.length vc) rfl rfl (by kernel_rfl) (by kernel_rfl) (by kernel_rfl) (fun _ _ _ h=>h) (by rfl) hS0 (fun W hSW=>?_) ?_
  ·(try dsimp only at hSW);(try obtain⟨hSA,hSB⟩:=hSW);go_simp
  simp only[Act.put,eA,eB,eC]
  refine yR 6 33 (.int .i64 m) rfl rfl (by kernel_rfl) (by kernel_rfl) (by kernel_rfl) (fun _ _ _ h=>h) (by rfl) hS0 (fun W hSW=>?_) ?_
  ·(try dsimp only at hSW);(try obtain⟨hSA,hSB⟩:=hSW);go_simp
  simp only[Act.put,eA,eB,eC]
  refine yR 7 34 (.pointer (some ⟨g2,m,none⟩)) rfl rfl (by kernel_rfl) (by kernel_rfl) (by kernel_rfl) (fun _ _ _ h=>h) (by rfl) hS0 (fun W hSW=>?_) ?_
  ·(try dsimp only at hSW);(try obtain⟨hSA,hSB⟩:=hSW);go_simp
  simp only[Act.put,eA,eB,eC]
  refine yR 8 35 (.string ⟨x.toArray⟩) rfl rfl (by kernel_rfl) (by kernel_rfl) (by kernel_rfl) (fun _ _ _ h=>h) (by rfl) hS0 (fun W hSW=>?_) ?_
  ·(try dsimp only at hSW);(try obtain⟨hSA,hSB⟩:=hSW);go_simp
  simp only[Act.put,eA,eB,eC]
  refine wpAnyH_ready (rs:=[2]) (by kernel_rfl) (by simp) (AllReadyH.cons rfl (fun K hK=>?_) AllReadyH.nil)
  rw[if_pos (by rfl)]
  go_simp
  (with_reducible refine f5.out.mono ?_);rintro e w5 ⟨rfl,hb5⟩
  have hr5:Below wr.heap.size wr w5:=((Below.refl wr.heap.size wr).drew).trans hb5
  have HW5:=Ld (HW.out.trans (hr5.mono HW.out.size))
  have HO5:=Ld (zA HO.out hr5)
  have HL5:=Ld (zA HL.out hr5)
  have cc5:=(hr5.cell (p:=⟨g2,m,none⟩) hg2).trans cc
  have hg5:g2<w5.heap.size:=Nat.lt_of_lt_of_le hg2 hr5.size
  refine hK.out _ _ ⟨HX.out _ HW5.out,cc5⟩ (fun hS1=>?_)
  clear hK K hS0 hb5 hr5 f5 c0 c1 c2 c3 c4 c5 c6 cc HO HL
  try simp only[Act.put,eA,eB,eC]
  refine wpAnyH_ready (rs:=[9]) (by kernel_rfl) (by simp) (AllReadyH.cons rfl (fun K hK=>?_) AllReadyH.nil)
  rw[if_pos (by rfl)]
  go_simp
  (with_reducible refine(f6.out _).mono ?_);rintro e w6 ⟨rfl,hb6⟩
  have HW6:=Ld (HW5.out.trans (hb6.mono HW5.out.size))
  have HO6:=Ld ((zA HO5.out hb6).alloc (.cells #[.int .i64 r] 3))
  have HL6:=Ld ((zA HL5.out hb6).alloc (.cells #[.int .i64 r] 3))
  have hz6:=HW6.out.size
  have HW6a:=Ld (HW6.out.alloc hz6 (.cells #[.int .i64 r] 3))
  have cc6:=(hb6.cell (p:=⟨g2,m,none⟩) hg5).trans cc5
  have hg6:g2<w6.heap.size:=Nat.lt_of_lt_of_le hg5 hb6.size
  have cc6a:=((zI w6 (.cells #[.int .i64 r] 3)).cell (p:=⟨g2,m,none⟩) hg6).trans cc6
  refine hK.out _ _ ⟨HX.out _ HW6.out,cc6⟩ (fun hS2=>?_)
  clear hK K hS1 hb6 f6 cc5 HO5 HL5
  try simp only[Act.put,eA,eB,eC]
  refine wpAnyH_ready (rs:=[10]) (by kernel_rfl) (by simp) (AllReadyH.cons rfl (fun K hK=>?_) AllReadyH.nil)
  rw[if_pos (by rfl)]
  go_simp
  refine hK.out _ _ ⟨HX.out _ HW6a.out,cc6a⟩ (fun hS3=>?_)
  clear hK K hS2
  try simp only[Act.put,eA,eB,eC]
  refine wpAnyH_ready (rs:=[11]) (by kernel_rfl) (by simp) (AllReadyH.cons rfl (fun K hK=>?_) AllReadyH.nil)
  rw[if_pos (by rfl)]
  refine wp_append_own _ _ _ 38 rfl W0.heap.size 3 i0 _ 1 8 Tryz.underlying38 hi hz0 hz1 hz2 rfl (by decide) _ _ _ rfl HO6.out ⟨w6.heap.size,0,none⟩ 1 1 [.int .i64 r] rfl rfl (yK _ _ _) (by simp[Value.oneCell']) (by simp only[maxLen];omega) (by omega) (by simp;omega) ?_
  intro v7 w7 hown7 hgrow7 _
  have HL7:=Ld (own_other HL6.out HO6.out (by decide) hgrow7)
  have HW7:Hid (Below W0.heap.size W0 w7):=HW6a.out.grown hgrow7 (by simp;omega) (fun q hq=>(HO6.out.lt q hq).1)
  have HO7:Hid (w7.ownsRow W0.heap.size 3 1 v7 (m+1) ((l.take (m+1)).map fun x=>iv (zP sf nm x))):=by
   rw[Hid,HT.out]
   exact hown7
  have cc7:w7.cell? ⟨g2,m,none⟩=some (.string ⟨x.toArray⟩):=own_kept_row hgrow7 HL6.out HO6.out (by decide) (by simp;omega) cc6a
  refine hK.out _ _ ⟨HX.out _ HW7.out,cc7⟩ (fun hS4=>?_)
  clear hK K hS3 hown7 hgrow7
  try simp only[Act.put,eA,eB,eC]
  refine yR 12 5 (v7) rfl rfl (by kernel_rfl) (by kernel_rfl) (by kernel_rfl) (fun _ _ _ h=>h) (by rfl) hS4 (fun W hSW=>?_) ?_
  ·(try dsimp only at hSW);(try obtain⟨hSA,hSB⟩:=hSW);go_simp
  simp only[Act.put,eA,eB,eC]
  refine wpAnyH_done (by kernel_rfl) ?_ _
  clear hS4 cc7 cc6a cc6 HO6 HL6 HW6 HW6a HW5
  go_wp2
  go_roundw
  case rel=>exact⟨m+1,_,by omega,by go_num,rfl,HO7.out,HL7.out,HW7.out⟩
  case measure=>simp[intOf];omega
theorem specLevelLe(a b:ByteArray)(w:World)(ha:a.size≤maxLen)(hb:b.size≤maxLen) :
  Calls Tryz.prog 206 #[.string a,.string b] w fun e w'=>e=.returned (.bool (levelLe a.data.toList b.data.toList))∧Below w.heap.size w w':=by
 have f0:=Ld fun W=>specLevelWitness a b W ha hb
 have f1:=Ld fun W=>specLevelOk a W ha
 have f2:=Ld fun W=>specLevelOk b W hb
 have HE:Hid (levelLe a.data.toList b.data.toList=(zE a.data.toList&&zE b.data.toList&&!(xA a.data.toList b.data.toList).isSome)):=by
  rw[Hid,levelLe];cases xA a.data.toList b.data.toList<;>rfl
 generalize levelLe a.data.toList b.data.toList=r at HE
 generalize zE a.data.toList=oa at HE f1
 generalize zE b.data.toList=ob at HE f2
 generalize xA a.data.toList b.data.toList=rr at HE f0
 go_enter Tryz.func206,Tryz.ntmps206
 go_wp2_with fail
 (with_reducible refine(f0.out _).mono ?_);rintro e w1 ⟨u,rfl,_,hb1⟩
 clear f0
 generalize rr.isSome=s at HE
 cases oa
 ·go_wp2_with fail
  (with_reducible refine(f1.out _).mono ?_);rintro e w2 ⟨rfl,rfl⟩
  go_wp2
  go_ret
  rw[HE.out]
  exact⟨rfl,hb1⟩
 cases ob
 ·go_wp2_with fail
  (with_reducible refine(f1.out _).mono ?_);rintro e w2 ⟨rfl,rfl⟩
  go_wp2_with fail
  (with_reducible refine(f2.out _).mono ?_);rintro e w2 ⟨rfl,rfl⟩
  go_wp2
  go_ret
  rw[HE.out]
  exact⟨rfl,hb1⟩
 cases s
 all_goals
  go_wp2_with fail
  (with_reducible refine(f1.out _).mono ?_);rintro e w2 ⟨rfl,rfl⟩
  go_wp2_with fail
  (with_reducible refine(f2.out _).mono ?_);rintro e w2 ⟨rfl,rfl⟩
  go_wp2
  go_ret
  rw[HE.out]
  exact⟨rfl,hb1⟩
theorem specLevelAbove(s:ByteArray)(w:World)(hs:s.size≤maxLen) :
  Calls Tryz.prog 166 #[.string s] w fun e w'=>e=.returned (.bool (levelLe [43,122] s.data.toList))∧Below w.heap.size w w':=by
 have f1:Hid (∀ W,Calls Tryz.prog 206 #[.string ⟨#[43,122]⟩,.string s] W fun e w'=>e=.returned (.bool (levelLe [43,122] s.data.toList))∧Below W.heap.size W w'):=fun W=>specLevelLe ⟨#[43,122]⟩ s W (by decide) hs
 generalize levelLe [43,122] s.data.toList=x at f1
 go_enter Tryz.func166,Tryz.ntmps166
 go_wp2_with fail
 (with_reducible refine(f1.out _).mono ?_);rintro e w1 ⟨rfl,hb1⟩
 go_wp2
 go_ret
 exact⟨rfl,hb1⟩
theorem data_kind{d:Dc}(h4:d.kind=4)(h:zZ d=true):yU d.type=[115]:=by
 simp only[zZ,declKindOk,Bool.and_eq_true] at h
 have h1:=h.2.2.2.2
 rw[h4,if_neg (by decide),if_neg (by decide),if_pos rfl] at h1
 simp only[dataOk,Bool.and_eq_true,decide_eq_true_eq] at h1
 exact h1.2.2.2.1
theorem specLargeOk{w:World}{d:Dc}{b:Nat}{u:Value}(h:w.ownsRow b 42 2 u d.ctors.length (xI d.ctors))(hs:d.Small) :
  Calls Tryz.prog 111 #[d.val u] w fun e w'=>e=.returned (.bool (largeOk d))∧Below w.heap.size w w':=by
 have HK:=Ld fun h4 h=>data_kind (d:=d) h4 h
 obtain⟨kd,nm,ps,fl,ty,vl,cs⟩:=d
 obtain⟨ua,uc,rfl⟩:=zR h
 have HB0:=Ld (zI w (.cells #[.int .i64 kd,.string ⟨nm.toArray⟩,.int .i64 ps,.int .i64 fl,.string ⟨ty.toArray⟩,.string ⟨vl.toArray⟩,.slice ua cs.length uc] 36))
 have f1:=Ld (specDeclOk (d:=⟨kd,nm,ps,fl,ty,vl,cs⟩) (zA h HB0.out) hs)
 have hval:Dc.val ⟨kd,nm,ps,fl,ty,vl,cs⟩ (.slice ua cs.length uc)=.agg #[.int .i64 kd,.string ⟨nm.toArray⟩,.int .i64 ps,.int .i64 fl,.string ⟨ty.toArray⟩,.string ⟨vl.toArray⟩,.slice ua cs.length uc]:=rfl
 rw[hval] at f1 ⊢
 have s2:=hs.type
 simp only at s2 HK
 have HE:Hid (largeOk ⟨kd,nm,ps,fl,ty,vl,cs⟩=((decide (kd=4)&&zZ ⟨kd,nm,ps,fl,ty,vl,cs⟩)&&levelLe [43,122] (levelIn ty))):=rfl
 have HX:=Ld (xF (w:=w) (kd:=kd) (ps:=ps) (fl:=fl) (nm:=nm) (ty:=ty) (vl:=vl) (u:=.slice ua cs.length uc))
 obtain⟨c0,c1,c2,c3,c4,c5,c6⟩:=HX.out _ (Below.refl _ _)
 have zty:=zM ty
 clear h hval hs
 generalize zZ ⟨kd,nm,ps,fl,ty,vl,cs⟩=ok at f1 HE HK
 by_cases k4:kd=4
 rotate_left
 ·have b4:(kd==4)=false:=by rw[beq_eq_false_iff_ne];exact k4
  have HF:Hid (largeOk ⟨kd,nm,ps,fl,ty,vl,cs⟩=false):=by rw[Hid,HE.out,decide_eq_false k4];rfl
  clear f1 HX HE k4
  go_enter Tryz.func111,Tryz.ntmps111
  go_wp2
  go_ret
  rw[HF.out]
  exact⟨rfl,HB0.out⟩
 subst k4
 go_enter Tryz.func111,Tryz.ntmps111
 go_wp2_with fail
 (with_reducible refine f1.out.mono ?_);rintro e w1 ⟨rfl,hb⟩
 have HB1:=Ld (HB0.out.trans (hb.mono HB0.out.size))
 clear c0 c1 c2 c3 c4 c5 c6
 obtain⟨c0,c1,c2,c3,c4,c5,c6⟩:=HX.out _ hb
 clear hb f1 HX
 cases ok
 ·have HF:Hid (largeOk ⟨4,nm,ps,fl,ty,vl,cs⟩=false):=by rw[Hid,HE.out];simp
  go_wp2
  go_ret
  rw[HF.out]
  exact⟨rfl,HB1.out⟩
 have hl2:=sort_len (HK.out (by trivial) (by trivial))
 have HF:Hid (largeOk ⟨4,nm,ps,fl,ty,vl,cs⟩=levelLe [43,122] (levelIn ty)):=by rw[Hid,HE.out];simp
 have hsl:(⟨ty.toArray⟩:ByteArray).extract 1 (ty.length - 1)=⟨(levelIn ty).toArray⟩:=by
  have h1:=extract_sv (⟨ty.toArray⟩:ByteArray) 1 (ty.length - 1)
  unfold sv at h1
  injection h1 with h1
 have hli:(levelIn ty).length≤ty.length:=by unfold levelIn;simp;omega
 have f2:=Ld fun W=>specLevelAbove ⟨(levelIn ty).toArray⟩ W (by rw[zM];unfold maxLen;omega)
 simp only at f2
 have q1:(1:Int)≤(ty.length:Int) - 1:=by omega
 have q2:(ty.length:Int) - 1≤(ty.length:Int):=by omega
 have q3:((ty.length:Int) - 1).toNat=ty.length - 1:=by omega
 clear HK HE
 generalize levelIn ty=li at hsl f2 HF hli
 generalize levelLe [43,122] li=r at f2 HF
 go_wp2_with fail
 (with_reducible refine(f2.out _).mono ?_);rintro e w2 ⟨rfl,hb2⟩
 have HB2:=Ld (HB1.out.trans (hb2.mono HB1.out.size))
 clear hb2 f2
 go_wp2
 go_ret
 rw[HF.out]
 exact⟨rfl,HB2.out⟩
end Go.Proofs.YtgonemalnljabaaGreatDoor
