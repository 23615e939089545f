/- JGen -/
import Derived.Test.YtgonemalnljabaaGreatDoorYJF2
import Derived.Test.YtgonemalnljabaaGreatDoorYE1
import Derived.Test.YtgonemalnljabaaGreatDoorYJ0
import Derived.Test.YtgonemalnljabaaGreatDoorYJF1
import Derived.Test.YtgonemalnljabaaGreatDoorYG1
set_option maxRecDepth 100000
set_option maxHeartbeats 16000000
set_option linter.unusedSimpArgs false
set_option linter.unusedVariables false
namespace Go.Proofs.YtgonemalnljabaaGreatDoor
open Go.ChangeShapes Go.WideShapes Go.ChangeAt Go.RowKit
theorem small_of {d:Dc} (h1:d.name.length≤1048576) (h2:d.type.length≤1048576) (h3:d.value.length≤1048576) (h4:d.ctors.length≤1048576) (h5:∀ c∈d.ctors,c.1.length≤1048576∧c.2.length≤1048576):d.Small:=⟨h1,h2,h3,h4,h5⟩
theorem dataPJ (l:List UInt8):(dataOf l).Small∧∃ lv,LibP (dataOf l) lv∧largeOk (dataOf l)=decide ((dataOf l).type≠[115,122,46]):=by
 unfold dataOf libAt
 split
 ·exact ⟨small_of (by decide) (by decide) (by decide) (by decide) (by decide),_,libNatP,by rw [libNatL];decide⟩
 ·split
  ·exact ⟨small_of (by decide) (by decide) (by decide) (by decide) (by decide),_,libBoolP,by rw [libBoolL];decide⟩
  ·split
   ·exact ⟨small_of (by decide) (by decide) (by decide) (by decide) (by decide),_,libTreeP,by rw [libTreeL];decide⟩
   ·split
    ·exact ⟨small_of (by decide) (by decide) (by decide) (by decide) (by decide),_,libFalseP,by rw [libFalseL];decide⟩
    ·split
     ·exact ⟨small_of (by decide) (by decide) (by decide) (by decide) (by decide),_,libBigP,by rw [libBigL];decide⟩
     ·exact ⟨small_of (by decide) (by decide) (by decide) (by decide) (by decide),_,libBoxP,by rw [libBoxL];decide⟩
theorem lawShapes {v:Value} {l:List UInt8} (w:World) (hl:CameB w v l) (hm:l.length≤maxLen)
  (hSh:∀ (d:Dc) (k:Int),d.Small→(-9223372036854775808≤d.flags∧d.flags≤9223372036854775807)→∀ (W:World) (b:Nat) (u:Value),Below w.heap.size w W→W.ownsRow b 42 2 u d.ctors.length (flatC d.ctors)→Calls Tryz.prog 27 #[d.val u,.int .i64 k] W (IRes (shapesOf d k) W))
  (hRo:∀ (d:Dc) (k:Int),d.Small→(-9223372036854775808≤d.flags∧d.flags≤9223372036854775807)→∀ (W:World) (b:Nat) (u:Value),Below w.heap.size w W→W.ownsRow b 42 2 u d.ctors.length (flatC d.ctors)→Calls Tryz.prog 28 #[d.val u,.int .i64 k] W fun e w'=>e=.returned (.bool (resultOk d k))∧Below W.heap.size W w')
  (hSc:∀ (d:Dc),d.Small→(-9223372036854775808≤d.flags∧d.flags≤9223372036854775807)→∀ (W:World) (b:Nat) (u:Value),Below w.heap.size w W→W.ownsRow b 42 2 u d.ctors.length (flatC d.ctors)→Calls Tryz.prog 30 #[d.val u] W fun e w'=>e=.returned (.string ⟨(selfConst d).toArray⟩)∧Below W.heap.size W w')
  (hPo:∀ (d:Dc),d.Small→(-9223372036854775808≤d.flags∧d.flags≤9223372036854775807)→∀ (W:World) (b:Nat) (u:Value),Below w.heap.size w W→W.ownsRow b 42 2 u d.ctors.length (flatC d.ctors)→Calls Tryz.prog 31 #[d.val u] W fun e w'=>e=.returned (.bool (positive d))∧Below W.heap.size W w')
  (hLg:∀ (d:Dc),d.Small→(-9223372036854775808≤d.flags∧d.flags≤9223372036854775807)→∀ (W:World) (b:Nat) (u:Value),Below w.heap.size w W→W.ownsRow b 42 2 u d.ctors.length (flatC d.ctors)→Calls Tryz.prog 32 #[d.val u] W fun e w'=>e=.returned (.bool (largeOk d))∧Below W.heap.size W w')
  (hAs:∀ (s n t:ByteArray),s.size≤1048576→n.size≤1048576→t.size≤1048576→∀ W,Below w.heap.size w W→Calls Tryz.prog 33 #[.string s,.string n,.string t] W fun e w'=>e=.returned (.int .i64 (argShape s.data.toList n.data.toList t.data.toList))∧Below W.heap.size W w') :
  Calls Tryz.prog 4 #[v] w fun e w'=>e=.returned (.bool true)∧Below w.heap.size w w':=by
 have f0:=Ld (bigB hl hm)
 by_cases hbig:1048576 < l.length
 ·rw [decide_eq_true hbig] at f0
  obtain ⟨a0,cap,_,_,rfl,_⟩:=hl
  clear hSh hRo hSc hPo hLg hAs
  go_enter Tryz.func4,Tryz.ntmps4
  go_wp2_with fail
  (with_reducible refine f0.out.mono ?_);rintro e w1 ⟨rfl,rfl⟩
  go_wp2
  go_ret
  exact ⟨rfl,Below.refl _ _⟩
 rw [decide_eq_false hbig] at f0
 obtain ⟨hsm,lv,HP,HLg⟩:=dataPJ l
 have f1:=Ld fun W (hb:Below w.heap.size w W)=>drawData (hl.below hb) (by omega)
 generalize dataOf l=d at hsm HP HLg f1
 have gSh:=Ld fun (k:Nat)=>hSh d (k:Int) hsm HP.rng
 have gRo:=Ld fun (k:Nat) (hk:k < d.ctors.length)=>hRo d (k:Int) hsm HP.rng
 have gRt:=Ld fun (k:Nat) (hk:k < d.ctors.length)=>HP.result hk
 have gOv:=Ld (hRo d (d.ctors.length:Int) hsm HP.rng)
 have gSc:=Ld (hSc d hsm HP.rng)
 have gPo:=Ld (hPo d hsm HP.rng)
 have gLg:=Ld (hLg d hsm HP.rng)
 have gSp:=Ld fun (k:Nat) (hk:k < d.ctors.length)=>HP.shapes hk
 rw [HP.over] at gOv
 rw [HP.pos] at gPo
 rw [HLg] at gLg
 have s1:=hsm.name
 have s4:=hsm.ctors
 have s5:=Ld hsm.each
 have hsl:(selfConst d).length≤100:=by rw [HP.self];exact HP.selfLen
 have e1:=Ld HP.shSelf
 have e2:=Ld HP.shBad
 have e0:=Ld HP.shNone
 have gAs:=Ld hAs
 clear hSh hRo hSc hPo hLg hAs HP HLg hsm
 unfold DRes at f1
 generalize selfConst d=sf at gSc hsl e0 e1 e2
 obtain ⟨kd,nm,ps,fl,ty,vl,cs⟩:=d
 have hval:∀ u,Dc.val ⟨kd,nm,ps,fl,ty,vl,cs⟩ u=.agg #[.int .i64 kd,.string ⟨nm.toArray⟩,.int .i64 ps,.int .i64 fl,.string ⟨ty.toArray⟩,.string ⟨vl.toArray⟩,u]:=fun u=>rfl
 simp only [hval] at f1 gSh gRo gOv gSc gPo gLg
 simp only at s1 s4 s5 e0 e1 e2 gLg gSh gRo gRt gOv gSc gPo gSp f1
 have znm:=size_sv nm
 have zsf:=size_sv sf
 have zp:((⟨#[112]⟩:ByteArray) ++ (⟨sf.toArray⟩:ByteArray)).size=1+sf.length:=by rw [ByteArray.size_append,zsf];rfl
 have gA1:=Ld (gAs.out ⟨sf.toArray⟩ ⟨nm.toArray⟩ ⟨sf.toArray⟩ (by omega) (by omega) (by omega))
 have gA2:=Ld (gAs.out ⟨sf.toArray⟩ ⟨nm.toArray⟩ ((⟨#[112]⟩:ByteArray) ++ (⟨sf.toArray⟩:ByteArray) ++ (⟨sf.toArray⟩:ByteArray)) (by omega) (by omega) (by rw [ByteArray.size_append,zp,zsf];omega))
 have gA0:=Ld (gAs.out ⟨sf.toArray⟩ ⟨nm.toArray⟩ ⟨#[115,122,46]⟩ (by omega) (by omega) (by decide))
 simp only [show ((⟨#[112]⟩:ByteArray) ++ (⟨sf.toArray⟩:ByteArray) ++ (⟨sf.toArray⟩:ByteArray)).data.toList=112 :: (sf ++ sf) by simp] at gA2
 simp only at gA0 gA1 gA2
 rw [e0.out] at gA0
 rw [e1.out] at gA1
 rw [e2.out] at gA2
 obtain ⟨bt,hbt⟩:∃ bt:Bool,decide (ty≠[115,122,46])=bt:=⟨_,rfl⟩
 have dty:(ty == [115,122,46])=!bt:=by
  rw [← hbt]
  by_cases h:ty=[115,122,46]
  ·simp [h]
  ·simp [h]
 rw [hbt] at gLg
 have HX:=Ld fun w u=>anyBox (w:=w) (kd:=kd) (ps:=ps) (fl:=fl) (nm:=nm) (ty:=ty) (vl:=vl) (u:=u) (T:=36)
 obtain ⟨a0,cap,_,_,rfl,_⟩:=id hl
 clear hl hbt e0 e1 e2 gAs hval
 go_enter Tryz.func4,Tryz.ntmps4
 go_wp2_with fail
 (with_reducible refine f0.out.mono ?_);rintro e w0 ⟨rfl,rfl⟩
 clear f0
 go_wp2_with fail
 (with_reducible refine (f1.out _ (Below.refl _ _)).mono ?_);rintro e w1 ⟨u1,rfl,hu1,hb1⟩
 obtain ⟨ua,uc,rfl⟩:=row_sliceD hu1
 have bx1:=alloc_any w1 (.cells #[.int .i64 kd,.string ⟨nm.toArray⟩,.int .i64 ps,.int .i64 fl,.string ⟨ty.toArray⟩,.string ⟨vl.toArray⟩,.slice ua cs.length uc] 36)
 have hu1a:=own_below hu1 bx1
 have hb1a:=hb1.trans (bx1.mono hb1.size)
 have HX1:=Ld (HX.out w1 (.slice ua cs.length uc))
 have hk1:=Below.refl (w1.alloc (.cells #[.int .i64 kd,.string ⟨nm.toArray⟩,.int .i64 ps,.int .i64 fl,.string ⟨ty.toArray⟩,.string ⟨vl.toArray⟩,.slice ua cs.length uc] 36)).heap.size (w1.alloc (.cells #[.int .i64 kd,.string ⟨nm.toArray⟩,.int .i64 ps,.int .i64 fl,.string ⟨ty.toArray⟩,.string ⟨vl.toArray⟩,.slice ua cs.length uc] 36))
 have HB1:=Ld hb1a
 have HU1:=Ld hu1a
 have HK1:=Ld hk1
 clear hu1 hb1 bx1 hu1a hb1a hk1
 go_wp2_with fail
 (with_reducible refine (f1.out _ HB1.out).mono ?_);rintro e w2 ⟨u2,rfl,hu2,hb2⟩
 obtain ⟨va,vc,rfl⟩:=row_sliceD hu2
 have bx2:=alloc_any w2 (.cells #[.int .i64 kd,.string ⟨nm.toArray⟩,.int .i64 ps,.int .i64 fl,.string ⟨ty.toArray⟩,.string ⟨vl.toArray⟩,.slice va cs.length vc] 36)
 have HB2:=Ld ((HB1.out.trans (hb2.mono HB1.out.size)).trans (bx2.mono (HB1.out.trans (hb2.mono HB1.out.size)).size))
 have HU12:=Ld (own_below (own_below HU1.out hb2) bx2)
 have HU2:=Ld (own_below hu2 bx2)
 have hk12:=hb2.trans (bx2.mono hb2.size)
 have HK12:=Ld (HK1.out.trans hk12)
 have HX2:=Ld (HX.out w2 (.slice va cs.length vc))
 have HK2:=Ld (Below.refl (w2.alloc (.cells #[.int .i64 kd,.string ⟨nm.toArray⟩,.int .i64 ps,.int .i64 fl,.string ⟨ty.toArray⟩,.string ⟨vl.toArray⟩,.slice va cs.length vc] 36)).heap.size (w2.alloc (.cells #[.int .i64 kd,.string ⟨nm.toArray⟩,.int .i64 ps,.int .i64 fl,.string ⟨ty.toArray⟩,.string ⟨vl.toArray⟩,.slice va cs.length vc] 36)))
 clear hu2 hb2 bx2 hk12 HU1 HK1 HB1 f1 HX
 obtain ⟨l0,l1,l2,l3,l4,l5,l6⟩:=HX2.out _ HK2.out
 go_wp2
 clear l0 l1 l2 l3 l4 l5 l6
 generalize hWB:(w2.alloc (.cells #[.int .i64 kd,.string ⟨nm.toArray⟩,.int .i64 ps,.int .i64 fl,.string ⟨ty.toArray⟩,.string ⟨vl.toArray⟩,.slice va cs.length vc] 36))=W0 at HK2 ⊢
 rw [hWB] at HB2 HU12 HU2 HK12 HX2
 clear hWB
 have HA1:Hid (∀ W,Below W0.heap.size W0 W→W.cell? ⟨w1.heap.size,0,none⟩=some (.int .i64 kd)∧W.cell? ⟨w1.heap.size,1,none⟩=some (.string ⟨nm.toArray⟩)∧W.cell? ⟨w1.heap.size,2,none⟩=some (.int .i64 ps)∧W.cell? ⟨w1.heap.size,3,none⟩=some (.int .i64 fl)∧W.cell? ⟨w1.heap.size,4,none⟩=some (.string ⟨ty.toArray⟩)∧W.cell? ⟨w1.heap.size,5,none⟩=some (.string ⟨vl.toArray⟩)∧W.cell? ⟨w1.heap.size,6,none⟩=some (.slice ua cs.length uc)):=fun W hb=>HX1.out W (HK12.out.trans (hb.mono HK12.out.size))
 have HA2:Hid (∀ W,Below W0.heap.size W0 W→W.cell? ⟨w2.heap.size,0,none⟩=some (.int .i64 kd)∧W.cell? ⟨w2.heap.size,1,none⟩=some (.string ⟨nm.toArray⟩)∧W.cell? ⟨w2.heap.size,2,none⟩=some (.int .i64 ps)∧W.cell? ⟨w2.heap.size,3,none⟩=some (.int .i64 fl)∧W.cell? ⟨w2.heap.size,4,none⟩=some (.string ⟨ty.toArray⟩)∧W.cell? ⟨w2.heap.size,5,none⟩=some (.string ⟨vl.toArray⟩)∧W.cell? ⟨w2.heap.size,6,none⟩=some (.slice va cs.length vc)):=fun W hb=>HX2.out W hb
 clear HX1 HX2 HK12
 go_loopw [5] (fun i wr=>∃ k:Nat,k≤cs.length∧i=.int .i64 k∧Hid (Below W0.heap.size W0 wr)) (fun i _=>cs.length - (intOf i).toNat)
 case atStart=>exact ⟨0,Nat.zero_le _,rfl,HK2.out⟩
 case round =>
  obtain ⟨k,hk,rfl,HW⟩:=hrel
  clear HK2
  obtain ⟨c0,c1,c2,c3,c4,c5,c6⟩:=HA1.out _ HW.out
  obtain ⟨d0,d1,d2,d3,d4,d5,d6⟩:=HA2.out _ HW.out
  have HBw:=Ld (HB2.out.trans (HW.out.mono HB2.out.size))
  by_cases hlt:k < cs.length
  ·have hres:=gRt.out k hlt
   have r1:=Ld (gSh.out k wr _ _ HBw.out (own_below HU12.out HW.out))
   have r2:=gRo.out k hlt
   rw [hres] at r2
   have R2:=Ld r2
   obtain ⟨hspl,hsp⟩:=gSp.out k hlt
   have hrow:=own_below HU2.out HW.out
   obtain ⟨g2,cap2,eg2,_,hg2⟩:=hrow.form (by omega)
   cases eg2
   obtain ⟨fa,fb⟩:=flatC_at hlt
   have y1:=(hrow.cellAt (k*2+1) (by omega)).trans fb
   unfold sv at y1
   have hel:=(s5.out _ (List.getElem_mem hlt)).2
   have q1:(0:Int)≤(k:Int):=by omega
   have q2:(k:Int) < (cs.length:Int):=by omega
   clear fa fb hrow r2 hres
   unfold IRes at r1
   generalize cs[k].2=t at y1 hel hspl
   have f5:=Ld fun W=>specDomains ⟨t.toArray⟩ W (by rw [size_sv];unfold maxLen;omega)
   simp only at f5
   unfold LRes' at f5
   have hdl:=domainsOf_len t
   generalize domainsOf t=dl at f5 hspl hdl
   generalize shapesOf ⟨kd,nm,ps,fl,ty,vl,cs⟩ (k:Int)=sl at r1 hspl hsp
   go_wp2_with fail
   (with_reducible refine r1.out.mono ?_);rintro e w5 ⟨u5,rfl,hu5,hb5⟩
   obtain ⟨sa,sc,rfl⟩:=own_sliceI hu5
   have HW5:=Ld (HW.out.trans (hb5.mono HW.out.size))
   have y5:=(hb5.cell (p:=⟨g2,k*2+1,none⟩) hg2).trans y1
   have hg5:g2 < w5.heap.size:=Nat.lt_of_lt_of_le hg2 hb5.size
   have HS5:=Ld hu5
   have HB5:=Ld (HB2.out.trans (HW5.out.mono HB2.out.size))
   have R3:=Ld (R2.out _ _ _ HB5.out (own_below HU12.out HW5.out))
   clear hu5 hb5 r1 y1 hg2 R2 c0 c1 c2 c3 c4 c5 c6 d0 d1 d2 d3 d4 d5 d6
   obtain ⟨c0,c1,c2,c3,c4,c5,c6⟩:=HA1.out _ HW5.out
   go_wp2_with fail
   (with_reducible refine R3.out.mono ?_);rintro e w6 ⟨rfl,hb6⟩
   have HW6:=Ld (HW5.out.trans (hb6.mono HW5.out.size))
   have HS6:=Ld (own_below HS5.out hb6)
   have y6:=(hb6.cell (p:=⟨g2,k*2+1,none⟩) hg5).trans y5
   clear hb6 R3 y5 HS5 c0 c1 c2 c3 c4 c5 c6
   obtain ⟨d0,d1,d2,d3,d4,d5,d6⟩:=HA2.out _ HW6.out
   go_wp2_with fail
   (with_reducible refine (f5.out _).mono ?_);rintro e w7 ⟨u7,rfl,hu7,hb7⟩
   obtain ⟨ta,tc,rfl⟩:=own_sliceV hu7
   have HW7:=Ld (HW6.out.trans (hb7.mono HW6.out.size))
   have HS7:=Ld (own_below HS6.out hb7)
   clear hu7 hb7 f5 HS6 y6 d0 d1 d2 d3 d4 d5 d6
   rw [← hspl]
   go_wp2
   go_loopw [7] (fun i wr=>∃ m:Nat,m≤sl.length∧i=.int .i64 m∧wr=w7) (fun i _=>sl.length - (intOf i).toNat)
   case atStart=>exact ⟨0,Nat.zero_le _,rfl,rfl⟩
   case round =>
    obtain ⟨m,hm',rfl,rfl⟩:=hrel
    by_cases hlm:m < sl.length
    ·obtain ⟨g3,cap3,eg3,_,_⟩:=HS7.out.form (by omega)
     cases eg3
     have cc:=HS7.out.cellAt m (by omega)
     have ex:(sl.map iv)[m]?=some (iv sl[m]):=by simp [hlm]
     rw [ex] at cc
     unfold iv at cc
     have hx:=hsp sl[m] (List.getElem_mem hlm)
     have p1:(0:Int)≤(m:Int):=by omega
     have p2:(m:Int) < (sl.length:Int):=by omega
     have hsl2:sl.length≤2000:=by omega
     clear ex hsp
     generalize sl[m]=x at cc hx
     rcases hx with rfl | rfl
     all_goals
      go_wp2
      go_roundw
      case rel=>exact ⟨m+1,by omega,by go_num,by trivial⟩
      case measure=>simp [intOf];omega
    ·obtain rfl:m=sl.length:=by omega
     clear HS7 hsp
     go_wp2
     go_roundw
     case rel=>exact ⟨k+1,by omega,by go_num,HW7.out⟩
     case measure=>simp [intOf];omega
  ·obtain rfl:k=cs.length:=by omega
   clear gSh gRo gRt gSp
   have r1:=Ld (gSc.out _ _ _ HBw.out (own_below HU12.out HW.out))
   clear gSc
   go_wp2_with fail
   (with_reducible refine r1.out.mono ?_);rintro e w5 ⟨rfl,hb5⟩
   have HW5:=Ld (HW.out.trans (hb5.mono HW.out.size))
   clear hb5 r1 c0 c1 c2 c3 c4 c5 c6 d0 d1 d2 d3 d4 d5 d6 HBw HW
   have hS5:=And.intro (HA1.out _ HW5.out) (HA2.out _ HW5.out)
   go_wp2
   refine wp_region_held_drew (S:=(fun w'=>(w'.cell? ⟨w1.heap.size,0,none⟩=some (.int .i64 kd)∧w'.cell? ⟨w1.heap.size,1,none⟩=some (.string ⟨nm.toArray⟩)∧w'.cell? ⟨w1.heap.size,2,none⟩=some (.int .i64 ps)∧w'.cell? ⟨w1.heap.size,3,none⟩=some (.int .i64 fl)∧w'.cell? ⟨w1.heap.size,4,none⟩=some (.string ⟨ty.toArray⟩)∧w'.cell? ⟨w1.heap.size,5,none⟩=some (.string ⟨vl.toArray⟩)∧w'.cell? ⟨w1.heap.size,6,none⟩=some (.slice ua cs.length uc))∧(w'.cell? ⟨w2.heap.size,0,none⟩=some (.int .i64 kd)∧w'.cell? ⟨w2.heap.size,1,none⟩=some (.string ⟨nm.toArray⟩)∧w'.cell? ⟨w2.heap.size,2,none⟩=some (.int .i64 ps)∧w'.cell? ⟨w2.heap.size,3,none⟩=some (.int .i64 fl)∧w'.cell? ⟨w2.heap.size,4,none⟩=some (.string ⟨ty.toArray⟩)∧w'.cell? ⟨w2.heap.size,5,none⟩=some (.string ⟨vl.toArray⟩)∧w'.cell? ⟨w2.heap.size,6,none⟩=some (.slice va cs.length vc)))) (by kernel_rfl) hS5 (fun hS0=>?_)
   have HWdw5:=Ld HW5.out.drew
   refine heldW 0 62 (.agg #[.int .i64 kd,.string ⟨nm.toArray⟩,.int .i64 ps,.int .i64 fl,.string ⟨ty.toArray⟩,.string ⟨vl.toArray⟩,.slice ua cs.length uc]) rfl rfl (by kernel_rfl) (by kernel_rfl) (by kernel_rfl) (fun _ _ _ h=>h) (by rfl) hS0 (fun W hSW=>?_) ?_
   ·(try dsimp only at hSW);(try obtain ⟨hSA,hSB⟩:=hSW);go_simp
   simp only [Act.put,eA,eB,eC]
   refine wpAnyH_ready (rs:=[1]) (by kernel_rfl) (by simp) (AllReadyH.cons rfl (fun K hK=>?_) AllReadyH.nil)
   rw [if_pos (by rfl)]
   go_simp
   (with_reducible refine (gPo.out _ _ _ (HB2.out.trans (HWdw5.out.mono HB2.out.size)) (own_below HU12.out HWdw5.out)).mono ?_);rintro e w6 ⟨rfl,hbw6⟩
   have HWw6:=Ld (HWdw5.out.trans (hbw6.mono HWdw5.out.size))
   have HWdw6:=HWw6
   refine hK.out _ _ ⟨HA1.out _ HWw6.out,HA2.out _ HWw6.out⟩ (fun hSw6=>?_)
   clear hK K hbw6 hS0
   try simp only [Act.put,eA,eB,eC]
   refine heldW 2 64 (.bool true) rfl rfl (by kernel_rfl) (by kernel_rfl) (by kernel_rfl) (fun _ _ _ h=>h) (by rfl) hSw6 (fun W hSW=>?_) ?_
   ·(try dsimp only at hSW);(try obtain ⟨hSA,hSB⟩:=hSW);go_simp
   simp only [Act.put,eA,eB,eC]
   refine heldW 3 65 (.agg #[.int .i64 kd,.string ⟨nm.toArray⟩,.int .i64 ps,.int .i64 fl,.string ⟨ty.toArray⟩,.string ⟨vl.toArray⟩,.slice ua cs.length uc]) rfl rfl (by kernel_rfl) (by kernel_rfl) (by kernel_rfl) (fun _ _ _ h=>h) (by rfl) hSw6 (fun W hSW=>?_) ?_
   ·(try dsimp only at hSW);(try obtain ⟨hSA,hSB⟩:=hSW);go_simp
   simp only [Act.put,eA,eB,eC]
   refine heldW 4 66 (.pointer (some ⟨w2.heap.size,6,none⟩)) rfl rfl (by kernel_rfl) (by kernel_rfl) (by kernel_rfl) (fun _ _ _ h=>h) (by rfl) hSw6 (fun W hSW=>?_) ?_
   ·(try dsimp only at hSW);(try obtain ⟨hSA,hSB⟩:=hSW);go_simp
   simp only [Act.put,eA,eB,eC]
   refine heldW 5 67 (.slice va cs.length vc) rfl rfl (by kernel_rfl) (by kernel_rfl) (by kernel_rfl) (fun _ _ _ h=>h) (by rfl) hSw6 (fun W hSW=>?_) ?_
   ·(try dsimp only at hSW);(try obtain ⟨hSA,hSB⟩:=hSW);go_simp
   simp only [Act.put,eA,eB,eC]
   refine heldW 6 68 (.int .i64 cs.length) rfl rfl (by kernel_rfl) (by kernel_rfl) (by kernel_rfl) (fun _ _ _ h=>h) (by rfl) hSw6 (fun W hSW=>?_) ?_
   ·(try dsimp only at hSW);(try obtain ⟨hSA,hSB⟩:=hSW);go_simp
   simp only [Act.put,eA,eB,eC]
   refine wpAnyH_ready (rs:=[7]) (by kernel_rfl) (by simp) (AllReadyH.cons rfl (fun K hK=>?_) AllReadyH.nil)
   rw [if_pos (by rfl)]
   go_simp
   (with_reducible refine (gOv.out _ _ _ (HB2.out.trans (HWdw6.out.mono HB2.out.size)) (own_below HU12.out HWdw6.out)).mono ?_);rintro e w7 ⟨rfl,hbw7⟩
   have HWw7:=Ld (HWdw6.out.trans (hbw7.mono HWdw6.out.size))
   have HWdw7:=HWw7
   refine hK.out _ _ ⟨HA1.out _ HWw7.out,HA2.out _ HWw7.out⟩ (fun hSw7=>?_)
   clear hK K hbw7 hSw6
   try simp only [Act.put,eA,eB,eC]
   refine heldW 8 70 (.bool true) rfl rfl (by kernel_rfl) (by kernel_rfl) (by kernel_rfl) (fun _ _ _ h=>h) (by rfl) hSw7 (fun W hSW=>?_) ?_
   ·(try dsimp only at hSW);(try obtain ⟨hSA,hSB⟩:=hSW);go_simp
   simp only [Act.put,eA,eB,eC]
   refine heldW 9 71 (.bool true) rfl rfl (by kernel_rfl) (by kernel_rfl) (by kernel_rfl) (fun _ _ _ h=>h) (by rfl) hSw7 (fun W hSW=>?_) ?_
   ·(try dsimp only at hSW);(try obtain ⟨hSA,hSB⟩:=hSW);go_simp
   simp only [Act.put,eA,eB,eC]
   refine heldW 10 72 (.bool true) rfl rfl (by kernel_rfl) (by kernel_rfl) (by kernel_rfl) (fun _ _ _ h=>h) (by rfl) hSw7 (fun W hSW=>?_) ?_
   ·(try dsimp only at hSW);(try obtain ⟨hSA,hSB⟩:=hSW);go_simp
   simp only [Act.put,eA,eB,eC]
   refine heldW 11 73 (.agg #[.int .i64 kd,.string ⟨nm.toArray⟩,.int .i64 ps,.int .i64 fl,.string ⟨ty.toArray⟩,.string ⟨vl.toArray⟩,.slice ua cs.length uc]) rfl rfl (by kernel_rfl) (by kernel_rfl) (by kernel_rfl) (fun _ _ _ h=>h) (by rfl) hSw7 (fun W hSW=>?_) ?_
   ·(try dsimp only at hSW);(try obtain ⟨hSA,hSB⟩:=hSW);go_simp
   simp only [Act.put,eA,eB,eC]
   refine heldW 13 75 (.pointer (some ⟨w2.heap.size,4,none⟩)) rfl rfl (by kernel_rfl) (by kernel_rfl) (by kernel_rfl) (fun _ _ _ h=>h) (by rfl) hSw7 (fun W hSW=>?_) ?_
   ·(try dsimp only at hSW);(try obtain ⟨hSA,hSB⟩:=hSW);go_simp
   simp only [Act.put,eA,eB,eC]
   refine heldW 14 76 (.string ⟨ty.toArray⟩) rfl rfl (by kernel_rfl) (by kernel_rfl) (by kernel_rfl) (fun _ _ _ h=>h) (by rfl) hSw7 (fun W hSW=>?_) ?_
   ·(try dsimp only at hSW);(try obtain ⟨hSA,hSB⟩:=hSW);go_simp
   simp only [Act.put,eA,eB,eC]
   refine heldW 15 77 (.bool bt) rfl rfl (by kernel_rfl) (by kernel_rfl) (by kernel_rfl) (fun _ _ _ h=>h) (by rfl) hSw7 (fun W hSW=>?_) ?_
   ·(try dsimp only at hSW);(try obtain ⟨hSA,hSB⟩:=hSW);go_simp
   simp only [Act.put,eA,eB,eC]
   refine wpAnyH_ready (rs:=[12]) (by kernel_rfl) (by simp) (AllReadyH.cons rfl (fun K hK=>?_) AllReadyH.nil)
   rw [if_pos (by rfl)]
   go_simp
   (with_reducible refine (gLg.out _ _ _ (HB2.out.trans (HWdw7.out.mono HB2.out.size)) (own_below HU12.out HWdw7.out)).mono ?_);rintro e w8 ⟨rfl,hbw8⟩
   have HWw8:=Ld (HWdw7.out.trans (hbw8.mono HWdw7.out.size))
   have HWdw8:=HWw8
   refine hK.out _ _ ⟨HA1.out _ HWw8.out,HA2.out _ HWw8.out⟩ (fun hSw8=>?_)
   clear hK K hbw8 hSw7
   try simp only [Act.put,eA,eB,eC]
   refine heldW 16 78 (.bool true) rfl rfl (by kernel_rfl) (by kernel_rfl) (by kernel_rfl) (fun _ _ _ h=>h) (by rfl) hSw8 (fun W hSW=>?_) ?_
   ·(try dsimp only at hSW);(try obtain ⟨hSA,hSB⟩:=hSW);go_simp
   simp only [Act.put,eA,eB,eC]
   refine heldW 17 79 (.bool true) rfl rfl (by kernel_rfl) (by kernel_rfl) (by kernel_rfl) (fun _ _ _ h=>h) (by rfl) hSw8 (fun W hSW=>?_) ?_
   ·(try dsimp only at hSW);(try obtain ⟨hSA,hSB⟩:=hSW);go_simp
   simp only [Act.put,eA,eB,eC]
   refine heldW 18 80 (.bool true) rfl rfl (by kernel_rfl) (by kernel_rfl) (by kernel_rfl) (fun _ _ _ h=>h) (by rfl) hSw8 (fun W hSW=>?_) ?_
   ·(try dsimp only at hSW);(try obtain ⟨hSA,hSB⟩:=hSW);go_simp
   simp only [Act.put,eA,eB,eC]
   refine heldW 19 81 (.string ⟨sf.toArray⟩) rfl rfl (by kernel_rfl) (by kernel_rfl) (by kernel_rfl) (fun _ _ _ h=>h) (by rfl) hSw8 (fun W hSW=>?_) ?_
   ·(try dsimp only at hSW);(try obtain ⟨hSA,hSB⟩:=hSW);go_simp
   simp only [Act.put,eA,eB,eC]
   refine heldW 20 82 (.pointer (some ⟨w2.heap.size,1,none⟩)) rfl rfl (by kernel_rfl) (by kernel_rfl) (by kernel_rfl) (fun _ _ _ h=>h) (by rfl) hSw8 (fun W hSW=>?_) ?_
   ·(try dsimp only at hSW);(try obtain ⟨hSA,hSB⟩:=hSW);go_simp
   simp only [Act.put,eA,eB,eC]
   refine heldW 21 83 (.string ⟨nm.toArray⟩) rfl rfl (by kernel_rfl) (by kernel_rfl) (by kernel_rfl) (fun _ _ _ h=>h) (by rfl) hSw8 (fun W hSW=>?_) ?_
   ·(try dsimp only at hSW);(try obtain ⟨hSA,hSB⟩:=hSW);go_simp
   simp only [Act.put,eA,eB,eC]
   refine heldW 22 84 (.string ⟨sf.toArray⟩) rfl rfl (by kernel_rfl) (by kernel_rfl) (by kernel_rfl) (fun _ _ _ h=>h) (by rfl) hSw8 (fun W hSW=>?_) ?_
   ·(try dsimp only at hSW);(try obtain ⟨hSA,hSB⟩:=hSW);go_simp
   simp only [Act.put,eA,eB,eC]
   refine heldW 23 85 (.string ((⟨#[112]⟩:ByteArray) ++ (⟨sf.toArray⟩:ByteArray))) rfl rfl (by kernel_rfl) (by kernel_rfl) (by kernel_rfl) (fun _ _ _ h=>h) (by rfl) hSw8 (fun W hSW=>?_) ?_
   ·(try dsimp only at hSW);(try obtain ⟨hSA,hSB⟩:=hSW);go_simp<;>omega
   simp only [Act.put,eA,eB,eC]
   refine heldW 24 86 (.string ⟨sf.toArray⟩) rfl rfl (by kernel_rfl) (by kernel_rfl) (by kernel_rfl) (fun _ _ _ h=>h) (by rfl) hSw8 (fun W hSW=>?_) ?_
   ·(try dsimp only at hSW);(try obtain ⟨hSA,hSB⟩:=hSW);go_simp
   simp only [Act.put,eA,eB,eC]
   refine heldW 25 87 (.string ((⟨#[112]⟩:ByteArray) ++ (⟨sf.toArray⟩:ByteArray) ++ (⟨sf.toArray⟩:ByteArray))) rfl rfl (by kernel_rfl) (by kernel_rfl) (by kernel_rfl) (fun _ _ _ h=>h) (by rfl) hSw8 (fun W hSW=>?_) ?_
   ·(try dsimp only at hSW);(try obtain ⟨hSA,hSB⟩:=hSW);go_simp<;>omega
   simp only [Act.put,eA,eB,eC]
   refine wpAnyH_ready (rs:=[26]) (by kernel_rfl) (by simp) (AllReadyH.cons rfl (fun K hK=>?_) AllReadyH.nil)
   rw [if_pos (by rfl)]
   go_simp
   (with_reducible refine (gA2.out _ (HB2.out.trans (HWdw8.out.mono HB2.out.size))).mono ?_);rintro e w9 ⟨rfl,hbw9⟩
   have HWw9:=Ld (HWdw8.out.trans (hbw9.mono HWdw8.out.size))
   have HWdw9:=HWw9
   refine hK.out _ _ ⟨HA1.out _ HWw9.out,HA2.out _ HWw9.out⟩ (fun hSw9=>?_)
   clear hK K hbw9 hSw8
   try simp only [Act.put,eA,eB,eC]
   refine heldW 27 89 (.bool true) rfl rfl (by kernel_rfl) (by kernel_rfl) (by kernel_rfl) (fun _ _ _ h=>h) (by rfl) hSw9 (fun W hSW=>?_) ?_
   ·(try dsimp only at hSW);(try obtain ⟨hSA,hSB⟩:=hSW);go_simp
   simp only [Act.put,eA,eB,eC]
   refine heldW 28 90 (.bool true) rfl rfl (by kernel_rfl) (by kernel_rfl) (by kernel_rfl) (fun _ _ _ h=>h) (by rfl) hSw9 (fun W hSW=>?_) ?_
   ·(try dsimp only at hSW);(try obtain ⟨hSA,hSB⟩:=hSW);go_simp
   simp only [Act.put,eA,eB,eC]
   refine heldW 29 91 (.bool true) rfl rfl (by kernel_rfl) (by kernel_rfl) (by kernel_rfl) (fun _ _ _ h=>h) (by rfl) hSw9 (fun W hSW=>?_) ?_
   ·(try dsimp only at hSW);(try obtain ⟨hSA,hSB⟩:=hSW);go_simp
   simp only [Act.put,eA,eB,eC]
   refine heldW 30 92 (.string ⟨sf.toArray⟩) rfl rfl (by kernel_rfl) (by kernel_rfl) (by kernel_rfl) (fun _ _ _ h=>h) (by rfl) hSw9 (fun W hSW=>?_) ?_
   ·(try dsimp only at hSW);(try obtain ⟨hSA,hSB⟩:=hSW);go_simp
   simp only [Act.put,eA,eB,eC]
   refine heldW 31 93 (.pointer (some ⟨w2.heap.size,1,none⟩)) rfl rfl (by kernel_rfl) (by kernel_rfl) (by kernel_rfl) (fun _ _ _ h=>h) (by rfl) hSw9 (fun W hSW=>?_) ?_
   ·(try dsimp only at hSW);(try obtain ⟨hSA,hSB⟩:=hSW);go_simp
   simp only [Act.put,eA,eB,eC]
   refine heldW 32 94 (.string ⟨nm.toArray⟩) rfl rfl (by kernel_rfl) (by kernel_rfl) (by kernel_rfl) (fun _ _ _ h=>h) (by rfl) hSw9 (fun W hSW=>?_) ?_
   ·(try dsimp only at hSW);(try obtain ⟨hSA,hSB⟩:=hSW);go_simp
   simp only [Act.put,eA,eB,eC]
   refine heldW 33 95 (.string ⟨sf.toArray⟩) rfl rfl (by kernel_rfl) (by kernel_rfl) (by kernel_rfl) (fun _ _ _ h=>h) (by rfl) hSw9 (fun W hSW=>?_) ?_
   ·(try dsimp only at hSW);(try obtain ⟨hSA,hSB⟩:=hSW);go_simp
   simp only [Act.put,eA,eB,eC]
   refine wpAnyH_ready (rs:=[34]) (by kernel_rfl) (by simp) (AllReadyH.cons rfl (fun K hK=>?_) AllReadyH.nil)
   rw [if_pos (by rfl)]
   go_simp
   (with_reducible refine (gA1.out _ (HB2.out.trans (HWdw9.out.mono HB2.out.size))).mono ?_);rintro e w10 ⟨rfl,hbw10⟩
   have HWw10:=Ld (HWdw9.out.trans (hbw10.mono HWdw9.out.size))
   have HWdw10:=HWw10
   refine hK.out _ _ ⟨HA1.out _ HWw10.out,HA2.out _ HWw10.out⟩ (fun hSw10=>?_)
   clear hK K hbw10 hSw9
   try simp only [Act.put,eA,eB,eC]
   refine heldW 35 97 (.bool true) rfl rfl (by kernel_rfl) (by kernel_rfl) (by kernel_rfl) (fun _ _ _ h=>h) (by rfl) hSw10 (fun W hSW=>?_) ?_
   ·(try dsimp only at hSW);(try obtain ⟨hSA,hSB⟩:=hSW);go_simp
   simp only [Act.put,eA,eB,eC]
   refine heldW 36 98 (.bool true) rfl rfl (by kernel_rfl) (by kernel_rfl) (by kernel_rfl) (fun _ _ _ h=>h) (by rfl) hSw10 (fun W hSW=>?_) ?_
   ·(try dsimp only at hSW);(try obtain ⟨hSA,hSB⟩:=hSW);go_simp
   simp only [Act.put,eA,eB,eC]
   refine heldW 37 99 (.bool true) rfl rfl (by kernel_rfl) (by kernel_rfl) (by kernel_rfl) (fun _ _ _ h=>h) (by rfl) hSw10 (fun W hSW=>?_) ?_
   ·(try dsimp only at hSW);(try obtain ⟨hSA,hSB⟩:=hSW);go_simp
   simp only [Act.put,eA,eB,eC]
   refine heldW 38 100 (.string ⟨sf.toArray⟩) rfl rfl (by kernel_rfl) (by kernel_rfl) (by kernel_rfl) (fun _ _ _ h=>h) (by rfl) hSw10 (fun W hSW=>?_) ?_
   ·(try dsimp only at hSW);(try obtain ⟨hSA,hSB⟩:=hSW);go_simp
   simp only [Act.put,eA,eB,eC]
   refine heldW 39 101 (.pointer (some ⟨w2.heap.size,1,none⟩)) rfl rfl (by kernel_rfl) (by kernel_rfl) (by kernel_rfl) (fun _ _ _ h=>h) (by rfl) hSw10 (fun W hSW=>?_) ?_
   ·(try dsimp only at hSW);(try obtain ⟨hSA,hSB⟩:=hSW);go_simp
   simp only [Act.put,eA,eB,eC]
   refine heldW 40 102 (.string ⟨nm.toArray⟩) rfl rfl (by kernel_rfl) (by kernel_rfl) (by kernel_rfl) (fun _ _ _ h=>h) (by rfl) hSw10 (fun W hSW=>?_) ?_
   ·(try dsimp only at hSW);(try obtain ⟨hSA,hSB⟩:=hSW);go_simp
   simp only [Act.put,eA,eB,eC]
   refine wpAnyH_ready (rs:=[41]) (by kernel_rfl) (by simp) (AllReadyH.cons rfl (fun K hK=>?_) AllReadyH.nil)
   rw [if_pos (by rfl)]
   go_simp
   (with_reducible refine (gA0.out _ (HB2.out.trans (HWdw10.out.mono HB2.out.size))).mono ?_);rintro e w11 ⟨rfl,hbw11⟩
   have HWw11:=Ld (HWdw10.out.trans (hbw11.mono HWdw10.out.size))
   have HWdw11:=HWw11
   refine hK.out _ _ ⟨HA1.out _ HWw11.out,HA2.out _ HWw11.out⟩ (fun hSw11=>?_)
   clear hK K hbw11 hSw10
   try simp only [Act.put,eA,eB,eC]
   refine heldW 42 104 (.bool true) rfl rfl (by kernel_rfl) (by kernel_rfl) (by kernel_rfl) (fun _ _ _ h=>h) (by rfl) hSw11 (fun W hSW=>?_) ?_
   ·(try dsimp only at hSW);(try obtain ⟨hSA,hSB⟩:=hSW);go_simp
   simp only [Act.put,eA,eB,eC]
   refine heldW 43 105 (.bool true) rfl rfl (by kernel_rfl) (by kernel_rfl) (by kernel_rfl) (fun _ _ _ h=>h) (by rfl) hSw11 (fun W hSW=>?_) ?_
   ·(try dsimp only at hSW);(try obtain ⟨hSA,hSB⟩:=hSW);go_simp
   simp only [Act.put,eA,eB,eC]
   refine heldW 44 2 (.bool true) rfl rfl (by kernel_rfl) (by kernel_rfl) (by kernel_rfl) (fun _ _ _ h=>h) (by rfl) hSw11 (fun W hSW=>?_) ?_
   ·(try dsimp only at hSW);(try obtain ⟨hSA,hSB⟩:=hSW);go_simp
   simp only [Act.put,eA,eB,eC]
   refine wpAnyH_done (by kernel_rfl) ?_ _
   have HBF:=Ld (HB2.out.trans (HWdw11.out.mono HB2.out.size))
   clear hSw11
   go_wp2
   go_ret
   exact ⟨rfl,HBF.out⟩
end Go.Proofs.YtgonemalnljabaaGreatDoor
