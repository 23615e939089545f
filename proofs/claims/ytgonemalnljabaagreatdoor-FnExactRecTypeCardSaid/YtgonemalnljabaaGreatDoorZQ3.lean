/- JI4 JI5 -/
import Derived.Test.YtgonemalnljabaaGreatDoorZP6
import Derived.Test.YtgonemalnljabaaGreatDoorZE1
import Derived.Test.YtgonemalnljabaaGreatDoorZQ2
import Derived.Test.YtgonemalnljabaaGreatDoorZP8
import Derived.Test.YtgonemalnljabaaGreatDoorZQ1
import Derived.Test.YtgonemalnljabaaGreatDoorZG1
set_option maxRecDepth 100000
set_option maxHeartbeats 16000000
set_option linter.unusedSimpArgs false
set_option linter.unusedVariables false
namespace Go.Proofs.YtgonemalnljabaaGreatDoor
open Go.ChangeShapes Go.WideShapes Go.ChangeAt Go.RowKit
def CtorAnsN (d:Dc) (k:Int) (w:World) (e:Ending) (w':World):Prop :=
 ∃ n t:List UInt8,e=.returned (.tuple #[.agg #[.string ⟨n.toArray⟩,.string ⟨t.toArray⟩],.bool (xH d k)])∧(xH d k=true→t=yN d k∧d.ctors[k.toNat]?=some (n,t))∧Below w.heap.size w w'
def CtorAns (d:Dc) (k:Int) (w:World) (e:Ending) (w':World):Prop :=
 ∃ n t:List UInt8,e=.returned (.tuple #[.agg #[.string ⟨n.toArray⟩,.string ⟨t.toArray⟩],.bool (xH d k)])∧(xH d k=true→t=yN d k)∧Below w.heap.size w w'
theorem implCtorAtN{w:World}{d:Dc}{b:Nat}{u:Value}(h:w.ownsRow b 42 2 u d.ctors.length (xI d.ctors))(hs:d.Small)(hr:d.Rng)(hv:Vars w)(hm:MaxLenInt w)(k:Int) :
  Calls Tryz.prog 78 #[d.val u,.int .i64 k] w (CtorAnsN d k w):=by
 have FD:=Ld fun (W:World) (hW:Below w.heap.size w W)=>implIsData (zA h hW) hs hr (hv.below hW) (hm.below hW)
 have HTy:=Ld fun (j:Nat) (hj:j<d.ctors.length)=>ctorType_at (d:=d) (k:=j) hj
 have HR:=Ld h
 obtain⟨kd,nm,ps,fl,ty,vl,cs⟩:=d
 obtain⟨ua,uc,rfl⟩:=zR h
 have hval:Dc.val ⟨kd,nm,ps,fl,ty,vl,cs⟩ (.slice ua cs.length uc)=.agg #[.int .i64 kd,.string ⟨nm.toArray⟩,.int .i64 ps,.int .i64 fl,.string ⟨ty.toArray⟩,.string ⟨vl.toArray⟩,.slice ua cs.length uc]:=rfl
 rw[hval] at FD ⊢
 simp only at FD HTy HR
 have HE:Hid (xH ⟨kd,nm,ps,fl,ty,vl,cs⟩ k=((decide (kd=4)&&zZ ⟨kd,nm,ps,fl,ty,vl,cs⟩)&&(decide (0≤k)&&decide (k<(cs.length:Int))))):=rfl
 obtain⟨W0,hW0⟩:∃ W0,w.alloc (.cells #[.int .i64 kd,.string ⟨nm.toArray⟩,.int .i64 ps,.int .i64 fl,.string ⟨ty.toArray⟩,.string ⟨vl.toArray⟩,.slice ua cs.length uc] 36)=W0:=⟨_,rfl⟩
 have HX:Hid (∀ W,Below W0.heap.size W0 W→W.cell? ⟨w.heap.size,0,none⟩=some (.int .i64 kd)∧W.cell? ⟨w.heap.size,1,none⟩=some (.string ⟨nm.toArray⟩)∧W.cell? ⟨w.heap.size,2,none⟩=some (.int .i64 ps)∧W.cell? ⟨w.heap.size,3,none⟩=some (.int .i64 fl)∧W.cell? ⟨w.heap.size,4,none⟩=some (.string ⟨ty.toArray⟩)∧W.cell? ⟨w.heap.size,5,none⟩=some (.string ⟨vl.toArray⟩)∧W.cell? ⟨w.heap.size,6,none⟩=some (.slice ua cs.length uc)):=by
  rw[Hid,← hW0];exact xF
 have HB0:Hid (Below w.heap.size w W0):=by rw[Hid,← hW0];exact zI _ _
 have hz0:W0.heap.size=w.heap.size+1:=by rw[← hW0];simp
 obtain⟨W1,hW1⟩:∃ W1,W0.alloc (.cells #[.string ⟨#[]⟩,.string ⟨#[]⟩] 42)=W1:=⟨_,rfl⟩
 have HK1:Hid (Below W0.heap.size W0 W1):=by rw[Hid,← hW1];exact zI _ _
 have hz1:W1.heap.size=w.heap.size+2:=by rw[← hW1];simp;omega
 have HB1:=Ld (HB0.out.trans (HK1.out.mono HB0.out.size))
 have HRES:Hid (∀ W,Below W1.heap.size W1 W→(W.cell? ⟨w.heap.size+1,0,none⟩=some (.string ⟨#[]⟩)∧W.cell? ⟨w.heap.size+1,1,none⟩=some (.string ⟨#[]⟩))∧(W.frozen? ⟨w.heap.size+1,0,none⟩=false∧W.frozen? ⟨w.heap.size+1,1,none⟩=false)):=by
  intro W hW
  rw[← hW1] at hW
  rw[← hz0]
  have h1:=fun i=>hW.cell (p:=⟨W0.heap.size,i,none⟩) (by simp)
  have h2:=fun i=>hW.frozen (p:=⟨W0.heap.size,i,none⟩) (by simp)
  refine⟨⟨(h1 0).trans ?_,(h1 1).trans ?_⟩,(h2 0).trans ?_,(h2 1).trans ?_⟩<;>simp[go_sem]
 obtain⟨c0,c1,c2,c3,c4,c5,c6⟩:=HX.out _ HK1.out
 obtain⟨⟨r0,r1⟩,z0,z1⟩:=HRES.out _ (Below.refl _ _)
 have hzz:=HB1.out.size
 clear h hval hs hr hv hm
 unfold CtorAnsN
 generalize (decide (kd=4)&&zZ ⟨kd,nm,ps,fl,ty,vl,cs⟩)=ok at FD HE
 by_cases q1:0≤k
 rotate_left
 ·have d1:decide (k<(0:Int))=true:=decide_eq_true (by omega)
  have HF:Hid (xH ⟨kd,nm,ps,fl,ty,vl,cs⟩ k=false):=by rw[Hid,HE.out,decide_eq_false q1,Bool.false_and,Bool.and_false]
  clear HE HX HRES
  go_enter Tryz.func78,Tryz.ntmps78
  go_wp2
  refine bodyPost_ret (v:=.tuple #[.agg #[.string ⟨#[]⟩,.string ⟨#[]⟩],.bool false]) (by simp[results,go_sem,r0,r1,World.cell?_setCell_other]) rfl ?_
  exact⟨[],[],by rw[HF.out],fun h=>(by rw[HF.out] at h;cases h),(HB1.out.setCell (p:=⟨w.heap.size+1,0,none⟩) (by simp) _).setCell (p:=⟨w.heap.size+1,1,none⟩) (by simp) _⟩
 have d1:decide (k<(0:Int))=false:=decide_eq_false (by omega)
 obtain⟨j,rfl⟩:∃ j:Nat,k=(j:Int):=⟨k.toNat,by omega⟩
 by_cases q2:j<cs.length
 rotate_left
 ·have d2:decide ((cs.length:Int)≤(j:Int))=true:=decide_eq_true (by omega)
  have d2n:decide (cs.length≤j)=true:=decide_eq_true (by omega)
  have HF:Hid (xH ⟨kd,nm,ps,fl,ty,vl,cs⟩ (j:Int)=false):=by rw[Hid,HE.out,decide_eq_false (show ¬ (j:Int)<(cs.length:Int) by omega),Bool.and_false,Bool.and_false]
  clear HE HX HRES
  go_enter Tryz.func78,Tryz.ntmps78
  go_wp2
  refine bodyPost_ret (v:=.tuple #[.agg #[.string ⟨#[]⟩,.string ⟨#[]⟩],.bool false]) (by simp[results,go_sem,r0,r1,World.cell?_setCell_other]) rfl ?_
  exact⟨[],[],by rw[HF.out],fun h=>(by rw[HF.out] at h;cases h),(HB1.out.setCell (p:=⟨w.heap.size+1,0,none⟩) (by simp) _).setCell (p:=⟨w.heap.size+1,1,none⟩) (by simp) _⟩
 have d2:decide ((cs.length:Int)≤(j:Int))=false:=decide_eq_false (by omega)
 have d2n:decide (cs.length≤j)=false:=decide_eq_false (by omega)
 have HV:Hid (xH ⟨kd,nm,ps,fl,ty,vl,cs⟩ (j:Int)=ok):=by rw[Hid,HE.out,decide_eq_true q1,decide_eq_true (show (j:Int)<(cs.length:Int) by omega)];simp
 have f1:=Ld (FD.out _ HB1.out)
 have HTj:=Ld (HTy.out j q2)
 clear FD HTy HE
 go_enter Tryz.func78,Tryz.ntmps78
 go_wp2_with fail
 (with_reducible refine f1.out.mono ?_);rintro e w2 ⟨rfl,hb2⟩
 have HB2:=Ld (HB1.out.trans (hb2.mono HB1.out.size))
 have HK2:=Ld (HK1.out.trans (hb2.mono HK1.out.size))
 have hz2:=hb2.size
 clear c0 c1 c2 c3 c4 c5 c6 r0 r1 z0 z1
 obtain⟨c0,c1,c2,c3,c4,c5,c6⟩:=HX.out _ HK2.out
 obtain⟨⟨r0,r1⟩,z0,z1⟩:=HRES.out _ hb2
 clear hb2 f1 HX HRES
 cases ok
 ·have HF:=HV
  go_wp2
  refine bodyPost_ret (v:=.tuple #[.agg #[.string ⟨#[]⟩,.string ⟨#[]⟩],.bool false]) (by simp[results,go_sem,r0,r1,World.cell?_setCell_other]) rfl ?_
  exact⟨[],[],by rw[HF.out],fun h=>(by rw[HF.out] at h;cases h),(HB2.out.setCell (p:=⟨w.heap.size+1,0,none⟩) (by simp) _).setCell (p:=⟨w.heap.size+1,1,none⟩) (by simp) _⟩
 have hrow:=zA HR.out HB2.out
 obtain⟨g,cap',eg,_,hgl⟩:=hrow.form (by omega)
 cases eg
 obtain⟨fa,fb⟩:=flatC_at q2
 have x1:=(hrow.cellAt (j*2) (by omega)).trans fa
 have y1:=(hrow.cellAt (j*2+1) (by omega)).trans fb
 unfold sv at x1 y1
 have p1:(0:Int)≤(j:Int):=by omega
 have p2:(j:Int)<(cs.length:Int):=by omega
 clear fa fb hrow HR
 have HGJ:Hid (cs[j]?=some cs[j]):=List.getElem?_eq_getElem q2
 generalize cs[j]=ck at x1 y1 HTj HGJ
 obtain⟨n,t⟩:=ck
 simp only at x1 y1 HTj
 go_wp2
 refine bodyPost_ret (v:=.tuple #[.agg #[.string ⟨n.toArray⟩,.string ⟨t.toArray⟩],.bool true]) (by simp[results,go_sem,r0,r1,World.cell?_setCell_other]) rfl ?_
 exact⟨n,t,by rw[HV.out],fun _=>⟨HTj.out.symm,HGJ.out⟩,(HB2.out.setCell (p:=⟨w.heap.size+1,0,none⟩) (by simp) _).setCell (p:=⟨w.heap.size+1,1,none⟩) (by simp) _⟩
theorem implCtorAt{w:World}{d:Dc}{b:Nat}{u:Value}(h:w.ownsRow b 42 2 u d.ctors.length (xI d.ctors))(hs:d.Small)(hr:d.Rng)(hv:Vars w)(hm:MaxLenInt w)(k:Int) :
  Calls Tryz.prog 78 #[d.val u,.int .i64 k] w (CtorAns d k w):=by
 refine(implCtorAtN h hs hr hv hm k).mono ?_
 rintro e w' ⟨n,t,he,ht,hb⟩
 exact⟨n,t,he,fun h=>(ht h).1,hb⟩
theorem ctor_short{d:Dc}(h:∀ c∈d.ctors,c.1.length≤1048576∧c.2.length≤1048576)(k:Int):(yN d k).length≤1048576:=by
 unfold yN
 split
 ·rename_i c hc
  exact(h c (List.mem_of_getElem? hc)).2
 ·exact Nat.zero_le _
theorem implShapesOf{w:World}{d:Dc}{b:Nat}{u:Value}(h:w.ownsRow b 42 2 u d.ctors.length (xI d.ctors))(hs:d.Small)(hr:d.Rng)(hv:Vars w)(hm:MaxLenInt w)(k:Int) :
  Calls Tryz.prog 27 #[d.val u,.int .i64 k] w (IRes (yL d k) w):=by
 have FC:=Ld fun (W:World) (hW:Below w.heap.size w W)=>implCtorAt (zA h hW) hs hr (hv.below hW) (hm.below hW) k
 have FS:=Ld fun (W:World) (hW:Below w.heap.size w W)=>implSelfConst (zA h hW) hs hr (hv.below hW) (hm.below hW)
 have HV:=Ld hv
 have HK:=Ld fun h=>isCtor_lt (d:=d) (k:=k) h
 have HTy:=Ld fun (j:Nat) (hj:j<d.ctors.length)=>ctorType_at (d:=d) (k:=j) hj
 have HEach:=Ld hs.each
 have s1:=hs.name
 obtain⟨kd,nm,ps,fl,ty,vl,cs⟩:=d
 obtain⟨ua,uc,rfl⟩:=zR h
 have hval:Dc.val ⟨kd,nm,ps,fl,ty,vl,cs⟩ (.slice ua cs.length uc)=.agg #[.int .i64 kd,.string ⟨nm.toArray⟩,.int .i64 ps,.int .i64 fl,.string ⟨ty.toArray⟩,.string ⟨vl.toArray⟩,.slice ua cs.length uc]:=rfl
 rw[hval] at FC FS ⊢
 simp only at s1 HTy HEach HK
 obtain⟨W0,hW0⟩:∃ W0,w.alloc (.cells #[.int .i64 kd,.string ⟨nm.toArray⟩,.int .i64 ps,.int .i64 fl,.string ⟨ty.toArray⟩,.string ⟨vl.toArray⟩,.slice ua cs.length uc] 36)=W0:=⟨_,rfl⟩
 have HX:Hid (∀ W,Below W0.heap.size W0 W→W.cell? ⟨w.heap.size,0,none⟩=some (.int .i64 kd)∧W.cell? ⟨w.heap.size,1,none⟩=some (.string ⟨nm.toArray⟩)∧W.cell? ⟨w.heap.size,2,none⟩=some (.int .i64 ps)∧W.cell? ⟨w.heap.size,3,none⟩=some (.int .i64 fl)∧W.cell? ⟨w.heap.size,4,none⟩=some (.string ⟨ty.toArray⟩)∧W.cell? ⟨w.heap.size,5,none⟩=some (.string ⟨vl.toArray⟩)∧W.cell? ⟨w.heap.size,6,none⟩=some (.slice ua cs.length uc)):=by
  rw[Hid,← hW0];exact xF
 have HB0:Hid (Below w.heap.size w W0):=by rw[Hid,← hW0];exact zI _ _
 have hz0:W0.heap.size=w.heap.size+1:=by rw[← hW0];simp
 obtain⟨c0,c1,c2,c3,c4,c5,c6⟩:=HX.out _ (Below.refl _ _)
 have f1:=Ld (FC.out _ HB0.out)
 unfold CtorAns at f1
 clear h hval hs hr hv hm FC
 generalize hic:xH ⟨kd,nm,ps,fl,ty,vl,cs⟩ k=ic at f1 HK
 go_enter Tryz.func27,Tryz.ntmps27
 go_wp2_with fail
 (with_reducible refine f1.out.mono ?_);rintro e w1 ⟨n,t,rfl,hct,hb⟩
 have HB1:=Ld (HB0.out.trans (hb.mono HB0.out.size))
 have HIC:=Ld hic
 have ha:=zI w1 (.cells #[.string ⟨n.toArray⟩,.string ⟨t.toArray⟩] 42)
 have hz1:W0.heap.size≤w1.heap.size:=hb.size
 have HKA:Hid (Below W0.heap.size W0 (w1.alloc (.cells #[.string ⟨n.toArray⟩,.string ⟨t.toArray⟩] 42))):=hb.trans (ha.mono hz1)
 have HCT:=Ld hct
 obtain⟨d0,d1,d2,d3,d4,d5,d6⟩:=HX.out _ hb
 have hlt0:w.heap.size<w1.heap.size:=by omega
 have HXC:Hid (∀ W,Below (w1.alloc (.cells #[.string ⟨n.toArray⟩,.string ⟨t.toArray⟩] 42)).heap.size (w1.alloc (.cells #[.string ⟨n.toArray⟩,.string ⟨t.toArray⟩] 42)) W→W.cell? ⟨w1.heap.size,0,none⟩=some (.string ⟨n.toArray⟩)∧W.cell? ⟨w1.heap.size,1,none⟩=some (.string ⟨t.toArray⟩)):=by
  intro W hW
  have h:=fun i=>hW.cell (p:=⟨w1.heap.size,i,none⟩) (by simp)
  have k:=World.news_of_block (cs:=#[.string ⟨n.toArray⟩,.string ⟨t.toArray⟩]) (t:=42) (fr:=(0,0)) (heap_alloc_new w1 _)
  exact⟨(h 0).trans (k 0 _ rfl),(h 1).trans (k 1 _ rfl)⟩
 clear c0 c1 c2 c3 c4 c5 c6 hb ha hct hic f1 hW0
 cases ic
 ·have HF:Hid (yL ⟨kd,nm,ps,fl,ty,vl,cs⟩ k=[]):=by rw[Hid,yL,HIC.out];rfl
  clear HX HXC FS
  go_wp2
  go_ret
  rw[HF.out]
  exact⟨_,rfl,World.ownsRow_nil _ _ _ _,HB1.out.trans ((zI _ _).mono HB1.out.size)⟩
 obtain rfl:=HCT.out rfl
 have hts:=ctor_short (d:=⟨kd,nm,ps,fl,ty,vl,cs⟩) HEach.out k
 have HF:Hid (yL ⟨kd,nm,ps,fl,ty,vl,cs⟩ k=(zH (yN ⟨kd,nm,ps,fl,ty,vl,cs⟩ k)).map fun x=>zP (zJ ⟨kd,nm,ps,fl,ty,vl,cs⟩) nm x):=by rw[Hid,yL,HIC.out];rfl
 generalize yN ⟨kd,nm,ps,fl,ty,vl,cs⟩ k=t at HXC HKA hts HF ⊢
 generalize zJ ⟨kd,nm,ps,fl,ty,vl,cs⟩=sf at FS HF
 go_wp2
 obtain⟨WA,hWA⟩:∃ WA,(w1.alloc (.cells #[.string ⟨n.toArray⟩,.string ⟨t.toArray⟩] 42))=WA:=⟨_,rfl⟩
 have HAB:Hid (Below w.heap.size w WA):=by rw[Hid,← hWA];exact HB1.out.trans ((zI _ _).mono HB1.out.size)
 rw[hWA] at HXC HKA ⊢
 clear hWA
 refine wp_region_held_drew (S:=(fun w'=>(w'.cell? ⟨w.heap.size,0,none⟩=some (.int .i64 kd)∧w'.cell? ⟨w.heap.size,1,none⟩=some (.string ⟨nm.toArray⟩)∧w'.cell? ⟨w.heap.size,2,none⟩=some (.int .i64 ps)∧w'.cell? ⟨w.heap.size,3,none⟩=some (.int .i64 fl)∧w'.cell? ⟨w.heap.size,4,none⟩=some (.string ⟨ty.toArray⟩)∧w'.cell? ⟨w.heap.size,5,none⟩=some (.string ⟨vl.toArray⟩)∧w'.cell? ⟨w.heap.size,6,none⟩=some (.slice ua cs.length uc))∧(w'.cell? ⟨w1.heap.size,0,none⟩=some (.string ⟨n.toArray⟩)∧w'.cell? ⟨w1.heap.size,1,none⟩=some (.string ⟨t.toArray⟩)))) (by kernel_rfl) ⟨HX.out _ HKA.out.drew,HXC.out _ (Below.refl WA.heap.size WA).drew⟩ (fun hS0=>?_)
 refine HW 0 15 (.pointer (some ⟨w1.heap.size,1,none⟩)) hS0 (fun W hSW=>?_) ?_
 ·(try dsimp only at hSW);(try obtain⟨hSA,hSB⟩:=hSW);go_simp
 simp only[Act.put,eA,eB,eC]
 refine HW 1 16 (.string ⟨t.toArray⟩) hS0 (fun W hSW=>?_) ?_
 ·(try dsimp only at hSW);(try obtain⟨hSA,hSB⟩:=hSW);go_simp
 simp only[Act.put,eA,eB,eC]
 refine HW 2 17 (.agg #[.int .i64 kd,.string ⟨nm.toArray⟩,.int .i64 ps,.int .i64 fl,.string ⟨ty.toArray⟩,.string ⟨vl.toArray⟩,.slice ua cs.length uc]) hS0 (fun W hSW=>?_) ?_
 ·(try dsimp only at hSW);(try obtain⟨hSA,hSB⟩:=hSW);go_simp
 simp only[Act.put,eA,eB,eC]
 refine HW 4 19 (.pointer (some ⟨w.heap.size,1,none⟩)) hS0 (fun W hSW=>?_) ?_
 ·(try dsimp only at hSW);(try obtain⟨hSA,hSB⟩:=hSW);go_simp
 simp only[Act.put,eA,eB,eC]
 refine HW 5 20 (.string ⟨nm.toArray⟩) hS0 (fun W hSW=>?_) ?_
 ·(try dsimp only at hSW);(try obtain⟨hSA,hSB⟩:=hSW);go_simp
 simp only[Act.put,eA,eB,eC]
 refine wpAnyH_ready (rs:=[3]) (by kernel_rfl) (by simp) (AllReadyH.cons rfl (fun K hK=>?_) AllReadyH.nil)
 rw[if_pos (by rfl)]
 go_simp
 (with_reducible refine(FS.out _ HAB.out.drew).mono ?_);rintro e w3 ⟨rfl,hb3⟩
 have hk3:Below WA.heap.size WA w3:=((Below.refl WA.heap.size WA).drew).trans hb3
 have HB3:=Ld (HAB.out.trans (hk3.mono HAB.out.size))
 have f4:=Ld (implShapesIn t sf nm w3 (HV.out.below HB3.out) (by unfold maxLen;omega))
 unfold IRes at f4
 refine hK.out _ _ ⟨HX.out _ (HKA.out.trans (hk3.mono HKA.out.size)),HXC.out _ hk3⟩ (fun hS1=>?_)
 have HK3:=Ld hk3
 clear hK K hS0 hb3 hk3
 try simp only[Act.put,eA,eB,eC]
 refine wpAnyH_ready (rs:=[6]) (by kernel_rfl) (by simp) (AllReadyH.cons rfl (fun K hK=>?_) AllReadyH.nil)
 rw[if_pos (by rfl)]
 go_simp
 (with_reducible refine f4.out.mono ?_);rintro e w4 ⟨v4,rfl,hv4,hb4⟩
 have hk4:Below WA.heap.size WA w4:=HK3.out.trans (hb4.mono HK3.out.size)
 have HB4:=Ld (HB3.out.trans (hb4.mono HB3.out.size))
 have HV4:=Ld (own_lower hv4 HB3.out.size)
 refine hK.out _ _ ⟨HX.out _ (HKA.out.trans (hk4.mono HKA.out.size)),HXC.out _ hk4⟩ (fun hS2=>?_)
 clear hK K hS1 hb4 hk4 hv4 f4
 try simp only[Act.put,eA,eB,eC]
 refine HW 7 4 (v4) hS2 (fun W hSW=>?_) ?_
 ·(try dsimp only at hSW);(try obtain⟨hSA,hSB⟩:=hSW);go_simp
 simp only[Act.put,eA,eB,eC]
 refine wpAnyH_done (by kernel_rfl) ?_ _
 clear HX HXC FS
 go_wp2
 go_ret
 rw[HF.out]
 exact⟨_,rfl,HV4.out,HB4.out⟩
theorem implResultOk{w:World}{d:Dc}{b:Nat}{u:Value}(h:w.ownsRow b 42 2 u d.ctors.length (xI d.ctors))(hs:d.Small)(hr:d.Rng)(hv:Vars w)(hm:MaxLenInt w)(k:Int) :
  Calls Tryz.prog 28 #[d.val u,.int .i64 k] w fun e w'=>e=.returned (.bool (yM d k))∧Below w.heap.size w w':=by
 have FC:=Ld fun (W:World) (hW:Below w.heap.size w W)=>implCtorAt (zA h hW) hs hr (hv.below hW) (hm.below hW) k
 have FS:=Ld fun (W:World) (hW:Below w.heap.size w W)=>implSelfConst (zA h hW) hs hr (hv.below hW) (hm.below hW)
 have HV:=Ld hv
 have HK:=Ld fun h=>isCtor_lt (d:=d) (k:=k) h
 have HTy:=Ld fun (j:Nat) (hj:j<d.ctors.length)=>ctorType_at (d:=d) (k:=j) hj
 have HEach:=Ld hs.each
 have s1:=hs.name
 obtain⟨kd,nm,ps,fl,ty,vl,cs⟩:=d
 obtain⟨ua,uc,rfl⟩:=zR h
 have hval:Dc.val ⟨kd,nm,ps,fl,ty,vl,cs⟩ (.slice ua cs.length uc)=.agg #[.int .i64 kd,.string ⟨nm.toArray⟩,.int .i64 ps,.int .i64 fl,.string ⟨ty.toArray⟩,.string ⟨vl.toArray⟩,.slice ua cs.length uc]:=rfl
 rw[hval] at FC FS ⊢
 simp only at s1 HTy HEach HK
 obtain⟨W0,hW0⟩:∃ W0,w.alloc (.cells #[.int .i64 kd,.string ⟨nm.toArray⟩,.int .i64 ps,.int .i64 fl,.string ⟨ty.toArray⟩,.string ⟨vl.toArray⟩,.slice ua cs.length uc] 36)=W0:=⟨_,rfl⟩
 have HX:Hid (∀ W,Below W0.heap.size W0 W→W.cell? ⟨w.heap.size,0,none⟩=some (.int .i64 kd)∧W.cell? ⟨w.heap.size,1,none⟩=some (.string ⟨nm.toArray⟩)∧W.cell? ⟨w.heap.size,2,none⟩=some (.int .i64 ps)∧W.cell? ⟨w.heap.size,3,none⟩=some (.int .i64 fl)∧W.cell? ⟨w.heap.size,4,none⟩=some (.string ⟨ty.toArray⟩)∧W.cell? ⟨w.heap.size,5,none⟩=some (.string ⟨vl.toArray⟩)∧W.cell? ⟨w.heap.size,6,none⟩=some (.slice ua cs.length uc)):=by
  rw[Hid,← hW0];exact xF
 have HB0:Hid (Below w.heap.size w W0):=by rw[Hid,← hW0];exact zI _ _
 have hz0:W0.heap.size=w.heap.size+1:=by rw[← hW0];simp
 obtain⟨c0,c1,c2,c3,c4,c5,c6⟩:=HX.out _ (Below.refl _ _)
 have f1:=Ld (FC.out _ HB0.out)
 unfold CtorAns at f1
 clear h hval hs hr hv hm FC
 generalize hic:xH ⟨kd,nm,ps,fl,ty,vl,cs⟩ k=ic at f1 HK
 go_enter Tryz.func28,Tryz.ntmps28
 go_wp2_with fail
 (with_reducible refine f1.out.mono ?_);rintro e w1 ⟨n,t,rfl,hct,hb⟩
 have HB1:=Ld (HB0.out.trans (hb.mono HB0.out.size))
 have HIC:=Ld hic
 have ha:=zI w1 (.cells #[.string ⟨n.toArray⟩,.string ⟨t.toArray⟩] 42)
 have hz1:W0.heap.size≤w1.heap.size:=hb.size
 have HKA:Hid (Below W0.heap.size W0 (w1.alloc (.cells #[.string ⟨n.toArray⟩,.string ⟨t.toArray⟩] 42))):=hb.trans (ha.mono hz1)
 have HCT:=Ld hct
 obtain⟨d0,d1,d2,d3,d4,d5,d6⟩:=HX.out _ hb
 have hlt0:w.heap.size<w1.heap.size:=by omega
 have HXC:Hid (∀ W,Below (w1.alloc (.cells #[.string ⟨n.toArray⟩,.string ⟨t.toArray⟩] 42)).heap.size (w1.alloc (.cells #[.string ⟨n.toArray⟩,.string ⟨t.toArray⟩] 42)) W→W.cell? ⟨w1.heap.size,0,none⟩=some (.string ⟨n.toArray⟩)∧W.cell? ⟨w1.heap.size,1,none⟩=some (.string ⟨t.toArray⟩)):=by
  intro W hW
  have h:=fun i=>hW.cell (p:=⟨w1.heap.size,i,none⟩) (by simp)
  have k:=World.news_of_block (cs:=#[.string ⟨n.toArray⟩,.string ⟨t.toArray⟩]) (t:=42) (fr:=(0,0)) (heap_alloc_new w1 _)
  exact⟨(h 0).trans (k 0 _ rfl),(h 1).trans (k 1 _ rfl)⟩
 clear c0 c1 c2 c3 c4 c5 c6 hb ha hct hic f1 hW0
 cases ic
 ·have HF:Hid (yM ⟨kd,nm,ps,fl,ty,vl,cs⟩ k=false):=by rw[Hid,yM,HIC.out];rfl
  go_wp2
  obtain⟨WA,hWA⟩:∃ WA,(w1.alloc (.cells #[.string ⟨n.toArray⟩,.string ⟨t.toArray⟩] 42))=WA:=⟨_,rfl⟩
  have HAB:Hid (Below w.heap.size w WA):=by rw[Hid,← hWA];exact HB1.out.trans ((zI _ _).mono HB1.out.size)
  rw[hWA] at HXC HKA ⊢
  clear hWA
  refine wp_region_held_drew (S:=(fun w'=>(w'.cell? ⟨w.heap.size,0,none⟩=some (.int .i64 kd)∧w'.cell? ⟨w.heap.size,1,none⟩=some (.string ⟨nm.toArray⟩)∧w'.cell? ⟨w.heap.size,2,none⟩=some (.int .i64 ps)∧w'.cell? ⟨w.heap.size,3,none⟩=some (.int .i64 fl)∧w'.cell? ⟨w.heap.size,4,none⟩=some (.string ⟨ty.toArray⟩)∧w'.cell? ⟨w.heap.size,5,none⟩=some (.string ⟨vl.toArray⟩)∧w'.cell? ⟨w.heap.size,6,none⟩=some (.slice ua cs.length uc))∧(w'.cell? ⟨w1.heap.size,0,none⟩=some (.string ⟨n.toArray⟩)∧w'.cell? ⟨w1.heap.size,1,none⟩=some (.string ⟨t.toArray⟩)))) (by kernel_rfl) ⟨HX.out _ HKA.out.drew,HXC.out _ (Below.refl WA.heap.size WA).drew⟩ (fun hS0=>?_)
  refine HW 0 13 (.bool false) hS0 (fun W hSW=>?_) ?_
  ·(try dsimp only at hSW);(try obtain⟨hSA,hSB⟩:=hSW);go_simp
  simp only[Act.put,eA,eB,eC]
  refine HW 1 14 (.bool false) hS0 (fun W hSW=>?_) ?_
  ·(try dsimp only at hSW);(try obtain⟨hSA,hSB⟩:=hSW);go_simp
  simp only[Act.put,eA,eB,eC]
  refine HS 2 15 hS0 ?_
  simp only[Act.put,eA,eB,eC]
  refine HS 3 16 hS0 ?_
  simp only[Act.put,eA,eB,eC]
  refine HS 4 17 hS0 ?_
  simp only[Act.put,eA,eB,eC]
  refine HS 5 18 hS0 ?_
  simp only[Act.put,eA,eB,eC]
  refine HS 6 19 hS0 ?_
  simp only[Act.put,eA,eB,eC]
  refine HS 7 20 hS0 ?_
  simp only[Act.put,eA,eB,eC]
  refine HW 8 21 (.bool false) hS0 (fun W hSW=>?_) ?_
  ·(try dsimp only at hSW);(try obtain⟨hSA,hSB⟩:=hSW);go_simp
  simp only[Act.put,eA,eB,eC]
  refine HW 9 4 (.bool false) hS0 (fun W hSW=>?_) ?_
  ·(try dsimp only at hSW);(try obtain⟨hSA,hSB⟩:=hSW);go_simp
  simp only[Act.put,eA,eB,eC]
  refine wpAnyH_done (by kernel_rfl) ?_ _
  clear HX HXC FS
  go_wp2
  go_ret
  rw[HF.out]
  exact⟨rfl,HAB.out.drew⟩
 obtain rfl:=HCT.out rfl
 have hts:=ctor_short (d:=⟨kd,nm,ps,fl,ty,vl,cs⟩) HEach.out k
 have HF:Hid (yM ⟨kd,nm,ps,fl,ty,vl,cs⟩ k=decide (yI (yN ⟨kd,nm,ps,fl,ty,vl,cs⟩ k)=zJ ⟨kd,nm,ps,fl,ty,vl,cs⟩)):=by rw[Hid,yM,HIC.out,Bool.true_and]
 generalize yN ⟨kd,nm,ps,fl,ty,vl,cs⟩ k=t at HXC HKA hts HF ⊢
 generalize zJ ⟨kd,nm,ps,fl,ty,vl,cs⟩=sf at FS HF
 go_wp2
 obtain⟨WA,hWA⟩:∃ WA,(w1.alloc (.cells #[.string ⟨n.toArray⟩,.string ⟨t.toArray⟩] 42))=WA:=⟨_,rfl⟩
 have HAB:Hid (Below w.heap.size w WA):=by rw[Hid,← hWA];exact HB1.out.trans ((zI _ _).mono HB1.out.size)
 rw[hWA] at HXC HKA ⊢
 clear hWA
 refine wp_region_held_drew (S:=(fun w'=>(w'.cell? ⟨w.heap.size,0,none⟩=some (.int .i64 kd)∧w'.cell? ⟨w.heap.size,1,none⟩=some (.string ⟨nm.toArray⟩)∧w'.cell? ⟨w.heap.size,2,none⟩=some (.int .i64 ps)∧w'.cell? ⟨w.heap.size,3,none⟩=some (.int .i64 fl)∧w'.cell? ⟨w.heap.size,4,none⟩=some (.string ⟨ty.toArray⟩)∧w'.cell? ⟨w.heap.size,5,none⟩=some (.string ⟨vl.toArray⟩)∧w'.cell? ⟨w.heap.size,6,none⟩=some (.slice ua cs.length uc))∧(w'.cell? ⟨w1.heap.size,0,none⟩=some (.string ⟨n.toArray⟩)∧w'.cell? ⟨w1.heap.size,1,none⟩=some (.string ⟨t.toArray⟩)))) (by kernel_rfl) ⟨HX.out _ HKA.out.drew,HXC.out _ (Below.refl WA.heap.size WA).drew⟩ (fun hS0=>?_)
 refine HW 0 13 (.bool true) hS0 (fun W hSW=>?_) ?_
 ·(try dsimp only at hSW);(try obtain⟨hSA,hSB⟩:=hSW);go_simp
 simp only[Act.put,eA,eB,eC]
 refine HW 1 14 (.bool true) hS0 (fun W hSW=>?_) ?_
 ·(try dsimp only at hSW);(try obtain⟨hSA,hSB⟩:=hSW);go_simp
 simp only[Act.put,eA,eB,eC]
 refine HW 2 15 (.pointer (some ⟨w1.heap.size,1,none⟩)) hS0 (fun W hSW=>?_) ?_
 ·(try dsimp only at hSW);(try obtain⟨hSA,hSB⟩:=hSW);go_simp
 simp only[Act.put,eA,eB,eC]
 refine HW 3 16 (.string ⟨t.toArray⟩) hS0 (fun W hSW=>?_) ?_
 ·(try dsimp only at hSW);(try obtain⟨hSA,hSB⟩:=hSW);go_simp
 simp only[Act.put,eA,eB,eC]
 refine HW 5 18 (.agg #[.int .i64 kd,.string ⟨nm.toArray⟩,.int .i64 ps,.int .i64 fl,.string ⟨ty.toArray⟩,.string ⟨vl.toArray⟩,.slice ua cs.length uc]) hS0 (fun W hSW=>?_) ?_
 ·(try dsimp only at hSW);(try obtain⟨hSA,hSB⟩:=hSW);go_simp
 simp only[Act.put,eA,eB,eC]
 have f4:=Ld (implTarget ⟨t.toArray⟩ WA.drew (HV.out.below HAB.out.drew) (by rw[zM];unfold maxLen;omega))
 simp only at f4
 refine wpAnyH_ready (rs:=[4]) (by kernel_rfl) (by simp) (AllReadyH.cons rfl (fun K hK=>?_) AllReadyH.nil)
 rw[if_pos (by rfl)]
 go_simp
 (with_reducible refine f4.out.mono ?_);rintro e w3 ⟨rfl,hb3⟩
 have hk3:Below WA.heap.size WA w3:=((Below.refl WA.heap.size WA).drew).trans hb3
 have HB3:=Ld (HAB.out.trans (hk3.mono HAB.out.size))
 refine hK.out _ _ ⟨HX.out _ (HKA.out.trans (hk3.mono HKA.out.size)),HXC.out _ hk3⟩ (fun hS1=>?_)
 have HK3:=Ld hk3
 clear hK K hS0 hb3 hk3
 try simp only[Act.put,eA,eB,eC]
 refine wpAnyH_ready (rs:=[6]) (by kernel_rfl) (by simp) (AllReadyH.cons rfl (fun K hK=>?_) AllReadyH.nil)
 rw[if_pos (by rfl)]
 go_simp
 (with_reducible refine(FS.out _ HB3.out).mono ?_);rintro e w4 ⟨rfl,hb4⟩
 have hk4:Below WA.heap.size WA w4:=HK3.out.trans (hb4.mono HK3.out.size)
 have HB4:=Ld (HB3.out.trans (hb4.mono HB3.out.size))
 refine hK.out _ _ ⟨HX.out _ (HKA.out.trans (hk4.mono HKA.out.size)),HXC.out _ hk4⟩ (fun hS2=>?_)
 clear hK K hS1 hb4 hk4 f4
 try simp only[Act.put,eA,eB,eC]
 generalize yI t=tg at HF ⊢
 by_cases ht:tg=sf
 ·have e1:(tg==sf)=true:=by rw[beq_iff_eq];exact ht
  have HG:Hid (yM ⟨kd,nm,ps,fl,ty,vl,cs⟩ k=true):=by rw[Hid,HF.out];exact decide_eq_true ht
  refine HW 7 20 (.bool true) hS2 (fun W hSW=>?_) ?_
  ·(try dsimp only at hSW);(try obtain⟨hSA,hSB⟩:=hSW);go_simp
  simp only[Act.put,eA,eB,eC]
  refine HW 8 21 (.bool true) hS2 (fun W hSW=>?_) ?_
  ·(try dsimp only at hSW);(try obtain⟨hSA,hSB⟩:=hSW);go_simp
  simp only[Act.put,eA,eB,eC]
  refine HW 9 4 (.bool true) hS2 (fun W hSW=>?_) ?_
  ·(try dsimp only at hSW);(try obtain⟨hSA,hSB⟩:=hSW);go_simp
  simp only[Act.put,eA,eB,eC]
  refine wpAnyH_done (by kernel_rfl) ?_ _
  clear HX HXC FS
  go_wp2
  go_ret
  rw[HG.out]
  exact⟨rfl,HB4.out⟩
 ·have e1:(tg==sf)=false:=by rw[beq_eq_false_iff_ne];exact ht
  have HG:Hid (yM ⟨kd,nm,ps,fl,ty,vl,cs⟩ k=false):=by rw[Hid,HF.out];exact decide_eq_false ht
  refine HW 7 20 (.bool false) hS2 (fun W hSW=>?_) ?_
  ·(try dsimp only at hSW);(try obtain⟨hSA,hSB⟩:=hSW);go_simp
  simp only[Act.put,eA,eB,eC]
  refine HW 8 21 (.bool false) hS2 (fun W hSW=>?_) ?_
  ·(try dsimp only at hSW);(try obtain⟨hSA,hSB⟩:=hSW);go_simp
  simp only[Act.put,eA,eB,eC]
  refine HW 9 4 (.bool false) hS2 (fun W hSW=>?_) ?_
  ·(try dsimp only at hSW);(try obtain⟨hSA,hSB⟩:=hSW);go_simp
  simp only[Act.put,eA,eB,eC]
  refine wpAnyH_done (by kernel_rfl) ?_ _
  clear HX HXC FS
  go_wp2
  go_ret
  rw[HG.out]
  exact⟨rfl,HB4.out⟩
end Go.Proofs.YtgonemalnljabaaGreatDoor
