/- GI4 JI0 -/
import Derived.Test.YtfohdgplaimomaaGreatDoorYP5
set_option maxRecDepth 100000
set_option maxHeartbeats 16000000
set_option linter.unusedSimpArgs false
set_option linter.unusedVariables false
namespace Go.Proofs.YtfohdgplaimomaaGreatDoor
open Go.ChangeShapes Go.WideShapes Go.ChangeAt Go.RowKit
theorem implDeclOk {w:World} {d:Dc} {b:Nat} {u:Value} (h:w.ownsRow b 90 2 u d.ctors.length (flatC d.ctors)) (hs:d.Small) (hr:d.Rng) (hv:Vars w) (hm:MaxLenInt w) :
  Calls Tryz.prog 75 #[d.val u] w fun e w'=>e=.returned (.bool (declOk d))∧Below w.heap.size w w':=by
 rw [declOk_prog hr]
 have HD:=Ld fun (hn:nameOk d.name=true) (W:World) (hW:Below w.heap.size w W)=>implDataOk (own_below h hW) hs hn (hv.below hW) (hm.below hW)
 obtain ⟨kd,nm,ps,fl,ty,vl,cs⟩:=d
 obtain ⟨ua,uc,rfl⟩:=row_sliceD h
 have hval:Dc.val ⟨kd,nm,ps,fl,ty,vl,cs⟩ (.slice ua cs.length uc)=.agg #[.int .i64 kd,.string ⟨nm.toArray⟩,.int .i64 ps,.int .i64 fl,.string ⟨ty.toArray⟩,.string ⟨vl.toArray⟩,.slice ua cs.length uc]:=rfl
 have s1:=hs.name
 have s2:=hs.type
 have s3:=hs.value
 simp only at s1 s2 s3
 have HI:=Ld fun (W:World) (hW:Below w.heap.size w W)=>implIsClosed ⟨kd,nm,ps,fl,ty,vl,cs⟩ ua cs.length uc ty W (hv.below hW) (by unfold maxLen;omega)
 have HVO:=Ld fun (W:World) (hW:Below w.heap.size w W)=>implValueOk ⟨kd,nm,ps,fl,ty,vl,cs⟩ ua cs.length uc W (hv.below hW) (by unfold maxLen;simp only;omega)
 simp only [hval] at HI HVO HD ⊢
 have HE:Hid (declP ⟨kd,nm,ps,fl,ty,vl,cs⟩=(knownK kd && (nameOk nm && (decide (0≤ps) && (decide (ps≤mostK kd) && (decide (bits .andNot .i64 fl (flagsK kd)=0) && (closedOf ty ps && ((if valueK kd=true then closedOf vl ps else decide (vl=[])) && (if kd=4 then dataP ⟨kd,nm,ps,fl,ty,vl,cs⟩ else decide (cs.length=0)))))))))):=rfl
 have HB0:=Ld (alloc_any w (.cells #[.int .i64 kd,.string ⟨nm.toArray⟩,.int .i64 ps,.int .i64 fl,.string ⟨ty.toArray⟩,.string ⟨vl.toArray⟩,.slice ua cs.length uc] 52))
 have HX:=Ld (declBox (w:=w) (kd:=kd) (ps:=ps) (fl:=fl) (nm:=nm) (ty:=ty) (vl:=vl) (u:=.slice ua cs.length uc))
 have f0:=Ld fun W=>implKnown kd W
 have f1:=Ld fun W=>implNameOk ⟨nm.toArray⟩ W (by rw [size_sv];unfold maxLen;omega)
 simp only at f1
 have f2:=Ld fun W=>implMost kd W
 have f3:=Ld fun W=>implFlags kd W
 obtain ⟨c0,c1,c2,c3,c4,c5,c6⟩:=HX.out _ (Below.refl _ _)
 have HK0:=Ld (Below.refl (w.alloc (.cells #[.int .i64 kd,.string ⟨nm.toArray⟩,.int .i64 ps,.int .i64 fl,.string ⟨ty.toArray⟩,.string ⟨vl.toArray⟩,.slice ua cs.length uc] 52)).heap.size (w.alloc (.cells #[.int .i64 kd,.string ⟨nm.toArray⟩,.int .i64 ps,.int .i64 fl,.string ⟨ty.toArray⟩,.string ⟨vl.toArray⟩,.slice ua cs.length uc] 52)))
 clear h hs hr hv hm hval
 generalize knownK kd=a0 at f0 HE
 generalize mostK kd=mo at f2 HE
 generalize flagsK kd=fm at f3 HE
 generalize (if valueK kd=true then closedOf vl ps else decide (vl=[]))=a5 at HVO HE
 generalize closedOf ty ps=a4 at HI HE
 obtain ⟨a1,ha1⟩:∃ a1,nameOk nm=a1:=⟨_,rfl⟩
 rw [ha1] at f1 HE HD
 have HN:=Ld ha1
 clear ha1
 go_enter Tryz.func75,Tryz.ntmps75
 go_wp2
 generalize hWB:(w.alloc (.cells #[.int .i64 kd,.string ⟨nm.toArray⟩,.int .i64 ps,.int .i64 fl,.string ⟨ty.toArray⟩,.string ⟨vl.toArray⟩,.slice ua cs.length uc] 52))=W0 at c0 c1 c2 c3 c4 c5 c6 HK0 ⊢
 rw [hWB] at HX HB0
 clear hWB
 refine wp_region_held_drew (S:=(fun w'=>w'.cell? ⟨w.heap.size,1,none⟩=some (.string ⟨nm.toArray⟩)∧w'.cell? ⟨w.heap.size,2,none⟩=some (.int .i64 ps)∧w'.cell? ⟨w.heap.size,3,none⟩=some (.int .i64 fl))) (by kernel_rfl) ⟨c1,c2,c3⟩ (fun hS0=>?_)
 refine HV 0 6 (.int .i64 kd) hS0 ?_
 simp only [Act.put,eA,eB,eC]
 refine wpAnyH_ready (rs:=[1]) (by kernel_rfl) (by simp) (AllReadyH.cons rfl (fun K hK=>?_) AllReadyH.nil)
 rw [if_pos (by rfl)]
 go_simp
 (with_reducible refine (f0.out _).mono ?_);rintro e w1 ⟨rfl,rfl⟩
 refine hK.out _ _ hS0 (fun hS1=>?_)
 clear hK K hS0 f0
 try simp only [Act.put,eA,eB,eC]
 cases a0
 ·have HF:Hid (declP ⟨kd,nm,ps,fl,ty,vl,cs⟩=false):=by rw [Hid,HE.out];simp
  refine HV 2 8 (.bool true) hS1 ?_
  simp only [Act.put,eA,eB,eC]
  refine HV 3 9 (.bool true) hS1 ?_
  simp only [Act.put,eA,eB,eC]
  refine HS 4 10 hS1 ?_
  simp only [Act.put,eA,eB,eC]
  refine HS 5 11 hS1 ?_
  simp only [Act.put,eA,eB,eC]
  refine HS 6 12 hS1 ?_
  simp only [Act.put,eA,eB,eC]
  refine HS 7 13 hS1 ?_
  simp only [Act.put,eA,eB,eC]
  refine HV 8 14 (.bool true) hS1 ?_
  simp only [Act.put,eA,eB,eC]
  refine HV 9 15 (.bool true) hS1 ?_
  simp only [Act.put,eA,eB,eC]
  refine HS 10 16 hS1 ?_
  simp only [Act.put,eA,eB,eC]
  refine HS 11 17 hS1 ?_
  simp only [Act.put,eA,eB,eC]
  refine HS 12 18 hS1 ?_
  simp only [Act.put,eA,eB,eC]
  refine HV 13 19 (.bool true) hS1 ?_
  simp only [Act.put,eA,eB,eC]
  refine HV 14 20 (.bool true) hS1 ?_
  simp only [Act.put,eA,eB,eC]
  refine HS 15 21 hS1 ?_
  simp only [Act.put,eA,eB,eC]
  refine HS 16 22 hS1 ?_
  simp only [Act.put,eA,eB,eC]
  refine HS 17 23 hS1 ?_
  simp only [Act.put,eA,eB,eC]
  refine HS 18 24 hS1 ?_
  simp only [Act.put,eA,eB,eC]
  refine HS 19 25 hS1 ?_
  simp only [Act.put,eA,eB,eC]
  refine HV 20 26 (.bool true) hS1 ?_
  simp only [Act.put,eA,eB,eC]
  refine HV 21 27 (.bool true) hS1 ?_
  simp only [Act.put,eA,eB,eC]
  refine HS 22 28 hS1 ?_
  simp only [Act.put,eA,eB,eC]
  refine HS 23 29 hS1 ?_
  simp only [Act.put,eA,eB,eC]
  refine HS 24 30 hS1 ?_
  simp only [Act.put,eA,eB,eC]
  refine HS 25 31 hS1 ?_
  simp only [Act.put,eA,eB,eC]
  refine HS 26 32 hS1 ?_
  simp only [Act.put,eA,eB,eC]
  refine HS 27 33 hS1 ?_
  simp only [Act.put,eA,eB,eC]
  refine HV 28 34 (.bool true) hS1 ?_
  simp only [Act.put,eA,eB,eC]
  refine wpAnyH_done (by kernel_rfl) ?_ _
  clear HX HI HVO HD
  go_wp2
  go_ret
  rw [HF.out]
  exact ⟨rfl,(HB0.out.trans (HK0.out.drew.mono HB0.out.size))⟩
 refine HV 2 8 (.bool false) hS1 ?_
 simp only [Act.put,eA,eB,eC]
 refine HV 3 9 (.bool false) hS1 ?_
 simp only [Act.put,eA,eB,eC]
 refine HV 4 10 (.pointer (some ⟨w.heap.size,1,none⟩)) hS1 ?_
 simp only [Act.put,eA,eB,eC]
 refine HV 5 11 (.string ⟨nm.toArray⟩) hS1 ?_
 simp only [Act.put,eA,eB,eC]
 refine wpAnyH_ready (rs:=[6]) (by kernel_rfl) (by simp) (AllReadyH.cons rfl (fun K hK=>?_) AllReadyH.nil)
 rw [if_pos (by rfl)]
 go_simp
 (with_reducible refine (f1.out _).mono ?_);rintro e w2 ⟨rfl,hb2⟩
 have hb02:Below W0.heap.size W0 w2:=HK0.out.drew.trans hb2
 obtain ⟨e0,e1,e2,e3,e4,e5,e6⟩:=HX.out _ hb02
 have HK2:=Ld hb02
 have HB2:=Ld (HB0.out.trans (hb02.mono HB0.out.size))
 refine hK.out _ _ ⟨e1,e2,e3⟩ (fun hS2=>?_)
 clear hK K hS1 f1 hb2 hb02 c0 c1 c2 c3 c4 c5 c6 HK0
 try simp only [Act.put,eA,eB,eC]
 cases a1
 ·have HF:Hid (declP ⟨kd,nm,ps,fl,ty,vl,cs⟩=false):=by rw [Hid,HE.out];simp
  refine HV 7 13 (.bool true) hS2 ?_
  simp only [Act.put,eA,eB,eC]
  refine HV 8 14 (.bool true) hS2 ?_
  simp only [Act.put,eA,eB,eC]
  refine HV 9 15 (.bool true) hS2 ?_
  simp only [Act.put,eA,eB,eC]
  refine HS 10 16 hS2 ?_
  simp only [Act.put,eA,eB,eC]
  refine HS 11 17 hS2 ?_
  simp only [Act.put,eA,eB,eC]
  refine HS 12 18 hS2 ?_
  simp only [Act.put,eA,eB,eC]
  refine HV 13 19 (.bool true) hS2 ?_
  simp only [Act.put,eA,eB,eC]
  refine HV 14 20 (.bool true) hS2 ?_
  simp only [Act.put,eA,eB,eC]
  refine HS 15 21 hS2 ?_
  simp only [Act.put,eA,eB,eC]
  refine HS 16 22 hS2 ?_
  simp only [Act.put,eA,eB,eC]
  refine HS 17 23 hS2 ?_
  simp only [Act.put,eA,eB,eC]
  refine HS 18 24 hS2 ?_
  simp only [Act.put,eA,eB,eC]
  refine HS 19 25 hS2 ?_
  simp only [Act.put,eA,eB,eC]
  refine HV 20 26 (.bool true) hS2 ?_
  simp only [Act.put,eA,eB,eC]
  refine HV 21 27 (.bool true) hS2 ?_
  simp only [Act.put,eA,eB,eC]
  refine HS 22 28 hS2 ?_
  simp only [Act.put,eA,eB,eC]
  refine HS 23 29 hS2 ?_
  simp only [Act.put,eA,eB,eC]
  refine HS 24 30 hS2 ?_
  simp only [Act.put,eA,eB,eC]
  refine HS 25 31 hS2 ?_
  simp only [Act.put,eA,eB,eC]
  refine HS 26 32 hS2 ?_
  simp only [Act.put,eA,eB,eC]
  refine HS 27 33 hS2 ?_
  simp only [Act.put,eA,eB,eC]
  refine HV 28 34 (.bool true) hS2 ?_
  simp only [Act.put,eA,eB,eC]
  refine wpAnyH_done (by kernel_rfl) ?_ _
  clear HX HI HVO HD
  go_wp2
  go_ret
  rw [HF.out]
  exact ⟨rfl,HB2.out⟩
 refine HV 7 13 (.bool false) hS2 ?_
 simp only [Act.put,eA,eB,eC]
 refine HV 8 14 (.bool false) hS2 ?_
 simp only [Act.put,eA,eB,eC]
 refine HV 9 15 (.bool false) hS2 ?_
 simp only [Act.put,eA,eB,eC]
 refine HV 10 16 (.pointer (some ⟨w.heap.size,2,none⟩)) hS2 ?_
 simp only [Act.put,eA,eB,eC]
 refine HV 11 17 (.int .i64 ps) hS2 ?_
 simp only [Act.put,eA,eB,eC]
 by_cases z1:ps < 0
 ·have dz:decide (ps < 0)=true:=decide_eq_true z1
  have HF:Hid (declP ⟨kd,nm,ps,fl,ty,vl,cs⟩=false):=by
   rw [Hid,HE.out,decide_eq_false (show ¬ 0≤ps by omega)];simp
  clear z1
  refine HV 12 18 (.bool true) hS2 ?_
  simp only [Act.put,eA,eB,eC]
  refine HV 13 19 (.bool true) hS2 ?_
  simp only [Act.put,eA,eB,eC]
  refine HV 14 20 (.bool true) hS2 ?_
  simp only [Act.put,eA,eB,eC]
  refine HS 15 21 hS2 ?_
  simp only [Act.put,eA,eB,eC]
  refine HS 16 22 hS2 ?_
  simp only [Act.put,eA,eB,eC]
  refine HS 17 23 hS2 ?_
  simp only [Act.put,eA,eB,eC]
  refine HS 18 24 hS2 ?_
  simp only [Act.put,eA,eB,eC]
  refine HS 19 25 hS2 ?_
  simp only [Act.put,eA,eB,eC]
  refine HV 20 26 (.bool true) hS2 ?_
  simp only [Act.put,eA,eB,eC]
  refine HV 21 27 (.bool true) hS2 ?_
  simp only [Act.put,eA,eB,eC]
  refine HS 22 28 hS2 ?_
  simp only [Act.put,eA,eB,eC]
  refine HS 23 29 hS2 ?_
  simp only [Act.put,eA,eB,eC]
  refine HS 24 30 hS2 ?_
  simp only [Act.put,eA,eB,eC]
  refine HS 25 31 hS2 ?_
  simp only [Act.put,eA,eB,eC]
  refine HS 26 32 hS2 ?_
  simp only [Act.put,eA,eB,eC]
  refine HS 27 33 hS2 ?_
  simp only [Act.put,eA,eB,eC]
  refine HV 28 34 (.bool true) hS2 ?_
  simp only [Act.put,eA,eB,eC]
  refine wpAnyH_done (by kernel_rfl) ?_ _
  clear HX HI HVO HD
  go_wp2
  go_ret
  rw [HF.out]
  exact ⟨rfl,HB2.out⟩
 have dz:decide (ps < 0)=false:=decide_eq_false z1
 have E1:Hid (decide (0≤ps)=true):=decide_eq_true (by omega)
 clear z1
 refine HV 12 18 (.bool false) hS2 ?_
 simp only [Act.put,eA,eB,eC]
 refine HV 13 19 (.bool false) hS2 ?_
 simp only [Act.put,eA,eB,eC]
 refine HV 14 20 (.bool false) hS2 ?_
 simp only [Act.put,eA,eB,eC]
 refine HV 15 21 (.pointer (some ⟨w.heap.size,2,none⟩)) hS2 ?_
 simp only [Act.put,eA,eB,eC]
 refine HV 16 22 (.int .i64 ps) hS2 ?_
 simp only [Act.put,eA,eB,eC]
 refine HV 17 23 (.int .i64 kd) hS2 ?_
 simp only [Act.put,eA,eB,eC]
 refine wpAnyH_ready (rs:=[18]) (by kernel_rfl) (by simp) (AllReadyH.cons rfl (fun K hK=>?_) AllReadyH.nil)
 rw [if_pos (by rfl)]
 go_simp
 (with_reducible refine (f2.out _).mono ?_);rintro e w3 ⟨rfl,rfl⟩
 refine hK.out _ _ hS2 (fun hS3=>?_)
 clear hK K hS2 f2
 try simp only [Act.put,eA,eB,eC]
 by_cases z2:mo < ps
 ·have dz2:decide (mo < ps)=true:=decide_eq_true z2
  have HF:Hid (declP ⟨kd,nm,ps,fl,ty,vl,cs⟩=false):=by
   rw [Hid,HE.out,decide_eq_false (show ¬ ps≤mo by omega)];simp
  clear z2
  refine HV 19 25 (.bool true) hS3 ?_
  simp only [Act.put,eA,eB,eC]
  refine HV 20 26 (.bool true) hS3 ?_
  simp only [Act.put,eA,eB,eC]
  refine HV 21 27 (.bool true) hS3 ?_
  simp only [Act.put,eA,eB,eC]
  refine HS 22 28 hS3 ?_
  simp only [Act.put,eA,eB,eC]
  refine HS 23 29 hS3 ?_
  simp only [Act.put,eA,eB,eC]
  refine HS 24 30 hS3 ?_
  simp only [Act.put,eA,eB,eC]
  refine HS 25 31 hS3 ?_
  simp only [Act.put,eA,eB,eC]
  refine HS 26 32 hS3 ?_
  simp only [Act.put,eA,eB,eC]
  refine HS 27 33 hS3 ?_
  simp only [Act.put,eA,eB,eC]
  refine HV 28 34 (.bool true) hS3 ?_
  simp only [Act.put,eA,eB,eC]
  refine wpAnyH_done (by kernel_rfl) ?_ _
  clear HX HI HVO HD
  go_wp2
  go_ret
  rw [HF.out]
  exact ⟨rfl,HB2.out⟩
 have dz2:decide (mo < ps)=false:=decide_eq_false z2
 have E2:Hid (decide (ps≤mo)=true):=decide_eq_true (by omega)
 clear z2
 refine HV 19 25 (.bool false) hS3 ?_
 simp only [Act.put,eA,eB,eC]
 refine HV 20 26 (.bool false) hS3 ?_
 simp only [Act.put,eA,eB,eC]
 refine HV 21 27 (.bool false) hS3 ?_
 simp only [Act.put,eA,eB,eC]
 refine HV 22 28 (.pointer (some ⟨w.heap.size,3,none⟩)) hS3 ?_
 simp only [Act.put,eA,eB,eC]
 refine HV 23 29 (.int .i64 fl) hS3 ?_
 simp only [Act.put,eA,eB,eC]
 refine HV 24 30 (.int .i64 kd) hS3 ?_
 simp only [Act.put,eA,eB,eC]
 refine wpAnyH_ready (rs:=[25]) (by kernel_rfl) (by simp) (AllReadyH.cons rfl (fun K hK=>?_) AllReadyH.nil)
 rw [if_pos (by rfl)]
 go_simp
 (with_reducible refine (f3.out _).mono ?_);rintro e w4 ⟨rfl,rfl⟩
 refine hK.out _ _ hS3 (fun hS4=>?_)
 clear hK K hS3 f3
 try simp only [Act.put,eA,eB,eC]
 refine HV 26 32 (.int .i64 (bits .andNot .i64 fl fm)) hS4 ?_
 simp only [Act.put,eA,eB,eC]
 generalize bits .andNot .i64 fl fm=bt at HE ⊢
 by_cases z3:bt=0
 rotate_left
 ·have dz3:(bt == 0)=false:=by rw [beq_eq_false_iff_ne];exact z3
  have HF:Hid (declP ⟨kd,nm,ps,fl,ty,vl,cs⟩=false):=by
   rw [Hid,HE.out,decide_eq_false z3];simp
  refine HV 27 33 (.bool true) hS4 ?_
  simp only [Act.put,eA,eB,eC]
  refine HV 28 34 (.bool true) hS4 ?_
  simp only [Act.put,eA,eB,eC]
  refine wpAnyH_done (by kernel_rfl) ?_ _
  clear HX HI HVO HD
  go_wp2
  go_ret
  rw [HF.out]
  exact ⟨rfl,HB2.out⟩
 have dz3:(bt == 0)=true:=by rw [beq_iff_eq];exact z3
 have E3:Hid (decide (bt=0)=true):=decide_eq_true z3
 refine HV 27 33 (.bool false) hS4 ?_
 simp only [Act.put,eA,eB,eC]
 refine HV 28 34 (.bool false) hS4 ?_
 simp only [Act.put,eA,eB,eC]
 refine wpAnyH_done (by kernel_rfl) ?_ _
 have HE2:Hid (declP ⟨kd,nm,ps,fl,ty,vl,cs⟩=(a4 && (a5 && (if kd=4 then dataP ⟨kd,nm,ps,fl,ty,vl,cs⟩ else decide (cs.length=0))))):=by
  rw [Hid,HE.out,E1.out,E2.out,E3.out]
  rfl
 clear HE E1 E2 E3 dz dz2 dz3 hS4 z3
 have g1:=Ld (HI.out _ HB2.out)
 have g2:=HVO
 clear HI HVO
 go_wp2_with fail
 (with_reducible refine g1.out.mono ?_);rintro e w5 ⟨rfl,hb5⟩
 have HB5:=Ld (HB2.out.trans (hb5.mono HB2.out.size))
 have HK5:=Ld (HK2.out.trans (hb5.mono HK2.out.size))
 clear hb5 g1 e0 e1 e2 e3 e4 e5 e6 HB2 HK2
 obtain ⟨e0,e1,e2,e3,e4,e5,e6⟩:=HX.out _ HK5.out
 cases a4
 ·have HF:Hid (declP ⟨kd,nm,ps,fl,ty,vl,cs⟩=false):=by rw [Hid,HE2.out];rfl
  clear HX HD g2
  go_wp2
  go_ret
  rw [HF.out]
  exact ⟨rfl,HB5.out⟩
 have g3:=Ld (g2.out _ HB5.out)
 clear g2
 go_wp2_with fail
 (with_reducible refine g3.out.mono ?_);rintro e w6 ⟨rfl,hb6⟩
 have HB6:=Ld (HB5.out.trans (hb6.mono HB5.out.size))
 have HK6:=Ld (HK5.out.trans (hb6.mono HK5.out.size))
 clear hb6 g3 e0 e1 e2 e3 e4 e5 e6 HB5 HK5
 obtain ⟨e0,e1,e2,e3,e4,e5,e6⟩:=HX.out _ HK6.out
 cases a5
 ·have HF:Hid (declP ⟨kd,nm,ps,fl,ty,vl,cs⟩=false):=by rw [Hid,HE2.out];rfl
  clear HX HD
  go_wp2
  go_ret
  rw [HF.out]
  exact ⟨rfl,HB6.out⟩
 by_cases k4:kd=4
 ·have HF:Hid (declP ⟨kd,nm,ps,fl,ty,vl,cs⟩=dataP ⟨kd,nm,ps,fl,ty,vl,cs⟩):=by rw [Hid,HE2.out,if_pos k4];rfl
  subst k4
  have g4:=Ld (HD.out (by trivial) _ HB6.out)
  obtain ⟨r,hr⟩:∃ r,dataP ⟨4,nm,ps,fl,ty,vl,cs⟩=r:=⟨_,rfl⟩
  rw [hr] at g4 HF
  clear HD HX hr HE2
  go_wp2_with fail
  (with_reducible refine g4.out.mono ?_);rintro e w7 ⟨rfl,hb7⟩
  have HB7:=Ld (HB6.out.trans (hb7.mono HB6.out.size))
  clear hb7 g4
  go_wp2
  go_ret
  rw [HF.out]
  exact ⟨rfl,HB7.out⟩
 ·have d4:(kd == 4)=false:=by rw [beq_eq_false_iff_ne];exact k4
  have HF:Hid (declP ⟨kd,nm,ps,fl,ty,vl,cs⟩=decide (cs.length=0)):=by rw [Hid,HE2.out,if_neg k4];rfl
  clear k4 HD HX HE2
  by_cases z4:cs.length=0
  ·have HG:Hid (declP ⟨kd,nm,ps,fl,ty,vl,cs⟩=true):=by rw [Hid,HF.out];exact decide_eq_true z4
   clear HF
   generalize cs.length=n at z4 e6 ⊢
   subst z4
   go_wp2
   go_ret
   rw [HG.out]
   exact ⟨rfl,HB6.out⟩
  ·have d5:((cs.length:Int) == 0)=false:=by rw [beq_eq_false_iff_ne];omega
   have HG:Hid (declP ⟨kd,nm,ps,fl,ty,vl,cs⟩=false):=by rw [Hid,HF.out];exact decide_eq_false z4
   clear HF
   go_wp2
   go_ret
   rw [HG.out]
   exact ⟨rfl,HB6.out⟩
theorem implIsData {w:World} {d:Dc} {b:Nat} {u:Value} (h:w.ownsRow b 90 2 u d.ctors.length (flatC d.ctors)) (hs:d.Small) (hr:d.Rng) (hv:Vars w) (hm:MaxLenInt w) :
  Calls Tryz.prog 81 #[d.val u] w fun e w'=>e=.returned (.bool (decide (d.kind=4) && declOk d))∧Below w.heap.size w w':=by
 obtain ⟨kd,nm,ps,fl,ty,vl,cs⟩:=d
 obtain ⟨ua,uc,rfl⟩:=row_sliceD h
 have HB0:=Ld (alloc_any w (.cells #[.int .i64 kd,.string ⟨nm.toArray⟩,.int .i64 ps,.int .i64 fl,.string ⟨ty.toArray⟩,.string ⟨vl.toArray⟩,.slice ua cs.length uc] 52))
 have f1:=Ld (implDeclOk (d:=⟨kd,nm,ps,fl,ty,vl,cs⟩) (own_below h HB0.out) hs hr (hv.below HB0.out) (hm.below HB0.out))
 have hval:Dc.val ⟨kd,nm,ps,fl,ty,vl,cs⟩ (.slice ua cs.length uc)=.agg #[.int .i64 kd,.string ⟨nm.toArray⟩,.int .i64 ps,.int .i64 fl,.string ⟨ty.toArray⟩,.string ⟨vl.toArray⟩,.slice ua cs.length uc]:=rfl
 rw [hval] at f1 ⊢
 have HX:=Ld (declBox (w:=w) (kd:=kd) (ps:=ps) (fl:=fl) (nm:=nm) (ty:=ty) (vl:=vl) (u:=.slice ua cs.length uc))
 obtain ⟨c0,c1,c2,c3,c4,c5,c6⟩:=HX.out _ (Below.refl _ _)
 clear h hval hs hr hv hm HX
 generalize declOk ⟨kd,nm,ps,fl,ty,vl,cs⟩=ok at f1 ⊢
 show Calls _ _ _ _ fun e w'=>e=.returned (.bool (decide (kd=4) && ok))∧_
 by_cases k4:kd=4
 rotate_left
 ·have b4:(kd == 4)=false:=by rw [beq_eq_false_iff_ne];exact k4
  have HF:Hid ((decide (kd=4) && ok)=false):=by rw [Hid,decide_eq_false k4,Bool.false_and]
  generalize (decide (kd=4) && ok)=r at HF ⊢
  clear f1
  go_enter Tryz.func81,Tryz.ntmps81
  go_wp2
  go_ret
  rw [HF.out]
  exact ⟨rfl,HB0.out⟩
 subst k4
 have HF:Hid ((decide ((4:Int)=4) && ok)=ok):=by rw [Hid,decide_eq_true rfl,Bool.true_and]
 generalize (decide ((4:Int)=4) && ok)=r at HF ⊢
 go_enter Tryz.func81,Tryz.ntmps81
 go_wp2_with fail
 (with_reducible refine f1.out.mono ?_);rintro e w1 ⟨rfl,hb⟩
 have HB1:=Ld (HB0.out.trans (hb.mono HB0.out.size))
 clear hb
 go_wp2
 go_ret
 rw [HF.out]
 exact ⟨rfl,HB1.out⟩
end Go.Proofs.YtfohdgplaimomaaGreatDoor
