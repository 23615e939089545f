/- JI6 -/
import Derived.Test.YtgonemalnljabaaGreatDoorYQ2
import Derived.Test.YtgonemalnljabaaGreatDoorYP6
import Derived.Test.YtgonemalnljabaaGreatDoorYP8
set_option maxRecDepth 100000
set_option maxHeartbeats 16000000
set_option linter.unusedSimpArgs false
set_option linter.unusedVariables false
namespace Go.Proofs.YtgonemalnljabaaGreatDoor
open Go.ChangeShapes Go.WideShapes Go.ChangeAt Go.RowKit
theorem slicesIndexI {w:World} {b:Nat} {v:Value} {l:List Int} (h:w.ownsRow b 3 1 v l.length (l.map iv)) (x:Int) (hn:l.length≤10000000) :
  Calls Tryz.prog 142 #[v,.int .i64 x] w fun e w'=>(∃ r:Int,e=.returned (.int .i64 r)∧(0≤r↔x∈l))∧w'=w:=by
 obtain ⟨a0,cap,rfl⟩:=own_sliceI h
 have HL:=Ld h
 clear h
 go_enter Tryz.func142,Tryz.ntmps142
 go_wp2
 go_loopw [8] (fun i wr=>∃ k:Nat,k≤l.length∧i=.int .i64 k∧wr=w∧Hid (∀ j (hj:j < l.length),j < k→l[j]≠x)) (fun i _=>l.length - (intOf i).toNat)
 case atStart=>exact ⟨0,Nat.zero_le _,rfl,rfl,fun j _ hj=>by omega⟩
 case round =>
  obtain ⟨k,hk,rfl,rfl,HN⟩:=hrel
  by_cases hlt:k < l.length
  ·obtain ⟨g,cap',e0,_,hgl⟩:=HL.out.form (by omega)
   cases e0
   have ex:(l.map iv)[k]?=some (iv l[k]):=by simp [hlt]
   have cc:=(HL.out.cellAt k (by omega)).trans ex
   unfold iv at cc
   have q1:(0:Int)≤(k:Int):=by omega
   have q2:(k:Int) < (l.length:Int):=by omega
   have HM:=Ld (List.getElem_mem hlt)
   by_cases hx:l[k]=x
   ·have HE:Hid ((0:Int)≤(k:Int)↔x∈l):=⟨fun _=>by rw [← hx];exact HM.out,fun _=>q1⟩
    have d1:(x == l[k])=true:=by rw [beq_iff_eq];exact hx.symm
    clear ex HN hx HL
    generalize l[k]=y at cc d1 HM
    go_wp2
    go_ret
    exact ⟨⟨_,rfl,HE.out⟩,rfl⟩
   ·have HN2:Hid (∀ j (hj:j < l.length),j < k+1→l[j]≠x):=fun j hj hjk=>if e:j=k then by subst e;exact hx else HN.out j hj (by omega)
    have d1:(x == l[k])=false:=by rw [beq_eq_false_iff_ne];exact fun e=>hx e.symm
    clear ex HN hx HL
    generalize l[k]=y at cc d1 HM
    go_wp2
    go_roundw
    case rel=>exact ⟨k+1,by omega,by go_num,trivial,HN2.out⟩
    case measure=>simp [intOf];omega
  ·have HE:Hid ((0:Int)≤-1↔x∈l):=by
    refine ⟨fun h=>absurd h (by decide),fun h=>?_⟩
    obtain ⟨j,hj,e⟩:=List.getElem_of_mem h
    exact absurd e (HN.out j hj (by omega))
   clear HN HL
   go_wp2
   go_ret
   exact ⟨⟨_,rfl,HE.out⟩,rfl⟩
theorem slicesContainsI {w:World} {b:Nat} {v:Value} {l:List Int} (h:w.ownsRow b 3 1 v l.length (l.map iv)) (x:Int) (hn:l.length≤10000000) :
  Calls Tryz.prog 88 #[v,.int .i64 x] w fun e w'=>e=.returned (.bool (decide (x∈l)))∧w'=w:=by
 have f1:=Ld (slicesIndexI h x hn)
 obtain ⟨a0,cap,rfl⟩:=own_sliceI h
 clear h hn
 go_enter Tryz.func88,Tryz.ntmps88
 go_wp2_with fail
 (with_reducible refine f1.out.mono ?_);rintro e w1 ⟨⟨r,rfl,hr⟩,rfl⟩
 have HE:Hid (decide ((0:Int)≤r)=decide (x∈l)):=decide_eq_decide.2 hr
 obtain ⟨z,hz⟩:∃ z,decide ((0:Int)≤r)=z:=⟨_,rfl⟩
 rw [hz] at HE
 clear hr f1
 go_wp2
 go_ret
 rw [← HE.out]
 exact ⟨rfl,rfl⟩
noncomputable def badC (sf nm:List UInt8) (t:List UInt8):Bool:=decide ((2:Int)∈(domainsOf t).map fun x=>argShape sf nm x)
theorem implPosOne (sf nm n t:List UInt8) {sb db:Nat} (w:World) (hv:Vars w) (ht:t.length≤1048576) (h1:w.cell? ⟨sb,0,none⟩=some (.string ⟨sf.toArray⟩)) (h2:w.cell? ⟨db,1,none⟩=some (.string ⟨nm.toArray⟩)) (hl1:sb < w.heap.size) (hl2:db < w.heap.size) :
  Calls Tryz.prog 87 #[.agg #[.string ⟨n.toArray⟩,.string ⟨t.toArray⟩],.pointer (some ⟨sb,0,none⟩),.pointer (some ⟨db,0,none⟩)] w fun e w'=>e=.returned (.bool (badC sf nm t))∧Below w.heap.size w w':=by
 have ha:=alloc_any w (.cells #[.string ⟨n.toArray⟩,.string ⟨t.toArray⟩] 42)
 have k:=World.news_of_block (cs:=#[.string ⟨n.toArray⟩,.string ⟨t.toArray⟩]) (t:=42) (fr:=(0,0)) (heap_alloc_new w _)
 have m0:=k 0 _ rfl
 have m1:=k 1 _ rfl
 have g1:=(ha.cell (p:=⟨sb,0,none⟩) hl1).trans h1
 have g2:=(ha.cell (p:=⟨db,1,none⟩) hl2).trans h2
 have HA:=Ld ha
 have f1:=Ld (implShapesIn t sf nm _ (hv.below ha) (by unfold maxLen;omega))
 unfold IRes at f1
 have hln:((domainsOf t).map fun x=>argShape sf nm x).length≤10000000:=by rw [List.length_map];exact Nat.le_trans (domainsOf_len t) (by decide)
 unfold badC
 generalize ((domainsOf t).map fun x=>argShape sf nm x)=l at f1 hln ⊢
 clear ha k hv h1 h2
 go_enter Tryz.func87,Tryz.ntmps87
 go_wp2_with fail
 (with_reducible refine f1.out.mono ?_);rintro e w1 ⟨v1,rfl,hv1,hb1⟩
 have HB1:=Ld (HA.out.trans (hb1.mono HA.out.size))
 have f2:=Ld (slicesContainsI hv1 2 hln)
 obtain ⟨a1,c1,rfl⟩:=own_sliceI hv1
 clear hv1 hb1 f1 m0 m1 g1 g2
 go_wp2_with fail
 (with_reducible refine f2.out.mono ?_);rintro e w2 ⟨rfl,rfl⟩
 obtain ⟨z,hz⟩:∃ z,decide ((2:Int)∈l)=z:=⟨_,rfl⟩
 have HE:=Ld hz
 rw [hz]
 clear hz f2
 go_wp2
 go_ret
 rw [HE.out]
 exact ⟨rfl,HB1.out⟩
theorem ctorsIndex (sf nm:List UInt8) {sb db:Nat} {w:World} {b:Nat} {v:Value} {cs:List (List UInt8 × List UInt8)} (h:w.ownsRow b 42 2 v cs.length (flatC cs)) (hv:Vars w) (hn:cs.length≤1048576) (hes:∀ c∈cs,c.2.length≤1048576) (h1:w.cell? ⟨sb,0,none⟩=some (.string ⟨sf.toArray⟩)) (h2:w.cell? ⟨db,1,none⟩=some (.string ⟨nm.toArray⟩)) (hl1:sb < w.heap.size) (hl2:db < w.heap.size) :
  Calls Tryz.prog 141 #[v,.func (.func 87) #[] #[.pointer (some ⟨sb,0,none⟩),.pointer (some ⟨db,0,none⟩)]] w fun e w'=>(∃ r:Int,e=.returned (.int .i64 r)∧(0≤r↔∃ c∈cs,badC sf nm c.2=true))∧Below w.heap.size w w':=by
 obtain ⟨a0,cap,rfl⟩:=row_sliceD h
 have HL:=Ld h
 have HES:=Ld hes
 have FP:=Ld fun (n t:List UInt8) (W:World) (hW:Below w.heap.size w W) (ht:t.length≤1048576)=>implPosOne sf nm n t W (hv.below hW) ht ((hW.cell (p:=⟨sb,0,none⟩) hl1).trans h1) ((hW.cell (p:=⟨db,1,none⟩) hl2).trans h2) (Nat.lt_of_lt_of_le hl1 hW.size) (Nat.lt_of_lt_of_le hl2 hW.size)
 have e1:=enters_of Tryz.func87 (by kernel_rfl) rfl
 clear h hes hv h1 h2 hl1 hl2
 go_enter Tryz.func141,Tryz.ntmps141
 go_wp2
 go_loopw [8] (fun i wr=>∃ k:Nat,k≤cs.length∧i=.int .i64 k∧Hid (Below w.heap.size w wr)∧Hid (∀ j (hj:j < cs.length),j < k→badC sf nm cs[j].2=false)) (fun i _=>cs.length - (intOf i).toNat)
 case atStart=>exact ⟨0,Nat.zero_le _,rfl,Below.refl _ _,fun j _ hj=>by omega⟩
 case round =>
  obtain ⟨k,hk,rfl,HW,HN⟩:=hrel
  by_cases hlt:k < cs.length
  ·have hrow:=own_below HL.out HW.out
   obtain ⟨g,cap',e0,_,hgl⟩:=hrow.form (by omega)
   cases e0
   obtain ⟨fa,fb⟩:=flatC_at hlt
   have x1:=(hrow.cellAt (k*2) (by omega)).trans fa
   have y1:=(hrow.cellAt (k*2+1) (by omega)).trans fb
   unfold sv at x1 y1
   have q1:(0:Int)≤(k:Int):=by omega
   have q2:(k:Int) < (cs.length:Int):=by omega
   have HM:=Ld (List.getElem_mem hlt)
   have hel:=HES.out _ HM.out
   have HNx:Hid (badC sf nm cs[k].2=false→∀ j (hj:j < cs.length),j < k+1→badC sf nm cs[j].2=false):=fun hx j hj hjk=>if e:j=k then by subst e;exact hx else HN.out j hj (by omega)
   have HYx:Hid (badC sf nm cs[k].2=true→((0:Int)≤(k:Int)↔∃ c∈cs,badC sf nm c.2=true)):=fun hx=>⟨fun _=>⟨_,HM.out,hx⟩,fun _=>q1⟩
   clear fa fb hrow HN
   generalize cs[k]=ck at x1 y1 hel HNx HYx HM
   obtain ⟨n,t⟩:=ck
   simp only at x1 y1 hel HNx HYx
   have f1:=Ld (FP.out n t wr HW.out hel)
   obtain ⟨z,hz⟩:∃ z,badC sf nm t=z:=⟨_,rfl⟩
   rw [hz] at f1 HNx HYx
   clear hz hel HM
   go_wp2_with fail
   (with_reducible refine f1.out.mono ?_);rintro e w2 ⟨rfl,hb2⟩
   have HW2:=Ld (HW.out.trans (hb2.mono HW.out.size))
   clear hb2 f1 x1 y1
   cases z
   ·have HN2:=Ld (HNx.out rfl)
    clear HNx HYx
    go_wp2
    go_roundw
    case rel=>exact ⟨k+1,by omega,by go_num,HW2.out,HN2.out⟩
    case measure=>simp [intOf];omega
   ·have HE:=Ld (HYx.out rfl)
    clear HNx HYx FP HL HES
    go_wp2
    go_ret
    exact ⟨⟨_,rfl,HE.out⟩,HW2.out⟩
  ·have HE:Hid ((0:Int)≤-1↔∃ c∈cs,badC sf nm c.2=true):=by
    refine ⟨fun h=>absurd h (by decide),fun ⟨c,hc,hx⟩=>?_⟩
    obtain ⟨j,hj,rfl⟩:=List.getElem_of_mem hc
    rw [HN.out j hj (by omega)] at hx
    cases hx
   clear HN HL FP HES
   go_wp2
   go_ret
   exact ⟨⟨_,rfl,HE.out⟩,HW.out⟩
theorem positive_data {d:Dc} (h:isData d=true):positive d=!(decide (∃ c∈d.ctors,badC (selfConst d) d.name c.2=true)):=by
 unfold positive goodTo
 rw [h,Bool.true_and,← decide_not]
 apply decide_eq_decide.2
 have hsh:∀ (i:Nat) (hi:i < d.ctors.length),shapesOf d (i:Int)=(domainsOf d.ctors[i].2).map fun x=>argShape (selfConst d) d.name x:=by
  intro i hi
  have hc:isCtor d (i:Int)=true:=by
   rw [isCtor,h,decide_eq_true (show (0:Int)≤(i:Int) by omega),decide_eq_true (show (i:Int) < (d.ctors.length:Int) by omega)]
   rfl
  rw [shapesOf,if_pos hc,ctorType_at hi]
 constructor
 ·rintro hA ⟨c,hc,hb⟩
  obtain ⟨i,hi,rfl⟩:=List.getElem_of_mem hc
  rw [badC,decide_eq_true_eq,← hsh i hi] at hb
  exact hA i hi _ hb rfl
 ·intro hA i hi s hs e
  subst e
  refine hA ⟨_,List.getElem_mem hi,?_⟩
  rw [badC,decide_eq_true_eq,← hsh i hi]
  exact hs
theorem ctorsContains (sf nm:List UInt8) {sb db:Nat} {w:World} {b:Nat} {v:Value} {cs:List (List UInt8 × List UInt8)} (h:w.ownsRow b 42 2 v cs.length (flatC cs)) (hv:Vars w) (hn:cs.length≤1048576) (hes:∀ c∈cs,c.2.length≤1048576) (h1:w.cell? ⟨sb,0,none⟩=some (.string ⟨sf.toArray⟩)) (h2:w.cell? ⟨db,1,none⟩=some (.string ⟨nm.toArray⟩)) (hl1:sb < w.heap.size) (hl2:db < w.heap.size) :
  Calls Tryz.prog 86 #[v,.func (.func 87) #[] #[.pointer (some ⟨sb,0,none⟩),.pointer (some ⟨db,0,none⟩)]] w fun e w'=>e=.returned (.bool (decide (∃ c∈cs,badC sf nm c.2=true)))∧Below w.heap.size w w':=by
 have f1:=Ld (ctorsIndex sf nm h hv hn hes h1 h2 hl1 hl2)
 obtain ⟨a0,cap,rfl⟩:=row_sliceD h
 clear h hv hn hes h1 h2 hl1 hl2
 go_enter Tryz.func86,Tryz.ntmps86
 go_wp2_with fail
 (with_reducible refine f1.out.mono ?_);rintro e w1 ⟨⟨r,rfl,hr⟩,hb⟩
 have HB:=Ld hb
 have HE:Hid (decide ((0:Int)≤r)=decide (∃ c∈cs,badC sf nm c.2=true)):=decide_eq_decide.2 hr
 obtain ⟨z,hz⟩:∃ z,decide ((0:Int)≤r)=z:=⟨_,rfl⟩
 rw [hz] at HE
 clear hr f1 hb
 go_wp2
 go_ret
 rw [← HE.out]
 exact ⟨rfl,HB.out⟩
theorem implPositive {w:World} {d:Dc} {b:Nat} {u:Value} (h:w.ownsRow b 42 2 u d.ctors.length (flatC d.ctors)) (hs:d.Small) (hr:d.Rng) (hv:Vars w) (hm:MaxLenInt w) :
  Calls Tryz.prog 31 #[d.val u] w fun e w'=>e=.returned (.bool (positive d))∧Below w.heap.size w w':=by
 have FD:=Ld fun (W:World) (hW:Below w.heap.size w W)=>implIsData (own_below h hW) hs hr (hv.below hW) (hm.below hW)
 have FS:=Ld fun (W:World) (hW:Below w.heap.size w W)=>implSelfConst (own_below h hW) hs hr (hv.below hW) (hm.below hW)
 have FC:=Ld fun (sf:List UInt8) (sb db:Nat) (W:World) (hW:Below w.heap.size w W)=>ctorsContains sf d.name (sb:=sb) (db:=db) (own_below h hW) (hv.below hW) hs.ctors (fun c hc=>(hs.each c hc).2)
 have HNo:Hid (isData d=false→positive d=false):=fun h=>by unfold positive;rw [h];rfl
 have HYes:=Ld fun h=>positive_data (d:=d) h
 have hid:(decide (d.kind=4) && declOk d)=isData d:=rfl
 rw [hid] at FD
 clear hid
 obtain ⟨kd,nm,ps,fl,ty,vl,cs⟩:=d
 obtain ⟨ua,uc,rfl⟩:=row_sliceD h
 have hval:Dc.val ⟨kd,nm,ps,fl,ty,vl,cs⟩ (.slice ua cs.length uc)=.agg #[.int .i64 kd,.string ⟨nm.toArray⟩,.int .i64 ps,.int .i64 fl,.string ⟨ty.toArray⟩,.string ⟨vl.toArray⟩,.slice ua cs.length uc]:=rfl
 rw [hval] at FD FS ⊢
 simp only at FC HYes
 obtain ⟨W0,hW0⟩:∃ W0,w.alloc (.cells #[.int .i64 kd,.string ⟨nm.toArray⟩,.int .i64 ps,.int .i64 fl,.string ⟨ty.toArray⟩,.string ⟨vl.toArray⟩,.slice ua cs.length uc] 36)=W0:=⟨_,rfl⟩
 have HX:Hid (∀ W,Below W0.heap.size W0 W→W.cell? ⟨w.heap.size,0,none⟩=some (.int .i64 kd)∧W.cell? ⟨w.heap.size,1,none⟩=some (.string ⟨nm.toArray⟩)∧W.cell? ⟨w.heap.size,2,none⟩=some (.int .i64 ps)∧W.cell? ⟨w.heap.size,3,none⟩=some (.int .i64 fl)∧W.cell? ⟨w.heap.size,4,none⟩=some (.string ⟨ty.toArray⟩)∧W.cell? ⟨w.heap.size,5,none⟩=some (.string ⟨vl.toArray⟩)∧W.cell? ⟨w.heap.size,6,none⟩=some (.slice ua cs.length uc)):=by
  rw [Hid,← hW0];exact declBox
 have HB0:Hid (Below w.heap.size w W0):=by rw [Hid,← hW0];exact alloc_any _ _
 have hz0:w.heap.size < W0.heap.size:=by rw [← hW0];simp
 obtain ⟨c0,c1,c2,c3,c4,c5,c6⟩:=HX.out _ (Below.refl _ _)
 have f1:=Ld (FD.out _ HB0.out)
 clear h hval hs hr hv hm FD
 generalize isData ⟨kd,nm,ps,fl,ty,vl,cs⟩=b1 at f1 HNo HYes
 generalize positive ⟨kd,nm,ps,fl,ty,vl,cs⟩=r at HNo HYes ⊢
 generalize selfConst ⟨kd,nm,ps,fl,ty,vl,cs⟩=sf at FS HYes
 go_enter Tryz.func31,Tryz.ntmps31
 go_wp2_with fail
 (with_reducible refine f1.out.mono ?_);rintro e w1 ⟨rfl,hb⟩
 have HK1:=Ld hb
 have HB1:=Ld (HB0.out.trans (hb.mono HB0.out.size))
 clear c0 c1 c2 c3 c4 c5 c6
 obtain ⟨c0,c1,c2,c3,c4,c5,c6⟩:=HX.out _ hb
 clear hb f1 hW0
 cases b1
 ·have HF:=Ld (HNo.out rfl)
  clear FS FC HX
  go_wp2
  go_ret
  rw [HF.out]
  exact ⟨rfl,HB1.out⟩
 have HF:=Ld (HYes.out rfl)
 have f2:=Ld (FS.out _ HB1.out)
 go_wp2_with fail
 (with_reducible refine f2.out.mono ?_);rintro e w2 ⟨rfl,hb2⟩
 have hk2:=HK1.out.trans (hb2.mono HK1.out.size)
 have HB2:=Ld (HB0.out.trans (hk2.mono HB0.out.size))
 have ha:=alloc_any w2 (.cells #[.string ⟨sf.toArray⟩] 9)
 have HKA:=Ld (hk2.trans (ha.mono hk2.size))
 have HBA:=Ld (HB0.out.trans (HKA.out.mono HB0.out.size))
 have m0:(w2.alloc (.cells #[.string ⟨sf.toArray⟩] 9)).cell? ⟨w2.heap.size,0,none⟩=some (.string ⟨sf.toArray⟩):=World.news_of_block (cs:=#[.string ⟨sf.toArray⟩]) (t:=9) (fr:=(0,0)) (heap_alloc_new w2 _) 0 _ rfl
 have hzk:W0.heap.size≤w2.heap.size:=hk2.size
 clear c0 c1 c2 c3 c4 c5 c6
 obtain ⟨c0,c1,c2,c3,c4,c5,c6⟩:=HX.out _ HKA.out
 have f3:=Ld (FC.out sf w2.heap.size w.heap.size _ HBA.out m0 c1 (by simp) (by simp;omega))
 clear hb2 hk2 ha f2 FS FC HX
 go_wp2_with fail
 (with_reducible refine f3.out.mono ?_);rintro e w3 ⟨rfl,hb3⟩
 have HB3:=Ld (HBA.out.trans (hb3.mono HBA.out.size))
 obtain ⟨z,hz⟩:∃ z,decide (∃ c∈cs,badC sf nm c.2=true)=z:=⟨_,rfl⟩
 rw [hz] at HF ⊢
 clear hb3 hz f3
 go_wp2
 go_ret
 rw [HF.out]
 exact ⟨rfl,HB3.out⟩
end Go.Proofs.YtgonemalnljabaaGreatDoor
