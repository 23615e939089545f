/- KGen -/
import Derived.Deep.DeepCutAuto
import Derived.Test.YtgonemalnljabaaGreatDoorXJF2
import Derived.Test.YtgonemalnljabaaGreatDoorXKD
import Derived.Test.YtgonemalnljabaaGreatDoorXJ0
import Derived.Test.YtgonemalnljabaaGreatDoorXJF1
import Derived.Test.YtgonemalnljabaaGreatDoorXG1
set_option maxRecDepth 100000
set_option maxHeartbeats 16000000
set_option linter.unusedSimpArgs false
set_option linter.unusedVariables false
namespace Go.Proofs.YtgonemalnljabaaGreatDoor
open Go.ChangeShapes Go.WideShapes Go.ChangeAt Go.RowKit
theorem small_ofK {d:Dc} (h1:d.name.length≤1048576) (h2:d.type.length≤1048576) (h3:d.value.length≤1048576) (h4:d.ctors.length≤1048576) (h5:∀ c∈d.ctors,c.1.length≤1048576∧c.2.length≤1048576):d.Small:=⟨h1,h2,h3,h4,h5⟩
theorem dataK (l:List UInt8):(dataOf l).Small∧RecP (dataOf l)∧∃ lv,LibP (dataOf l) lv:=by
 unfold dataOf libAt
 split
 ·exact ⟨small_ofK (by decide) (by decide) (by decide) (by decide) (by decide),libNatR,_,libNatP⟩
 ·split
  ·exact ⟨small_ofK (by decide) (by decide) (by decide) (by decide) (by decide),libBoolR,_,libBoolP⟩
  ·split
   ·exact ⟨small_ofK (by decide) (by decide) (by decide) (by decide) (by decide),libTreeR,_,libTreeP⟩
   ·split
    ·exact ⟨small_ofK (by decide) (by decide) (by decide) (by decide) (by decide),libFalseR,_,libFalseP⟩
    ·split
     ·exact ⟨small_ofK (by decide) (by decide) (by decide) (by decide) (by decide),libBigR,_,libBigP⟩
     ·exact ⟨small_ofK (by decide) (by decide) (by decide) (by decide) (by decide),libBoxR,_,libBoxP⟩
theorem recLevels_nat {d:Dc} (h:isData d=true) (h0:0≤d.params) (h2:d.params≤3):∃ r:Nat,recLevels d=(r:Int)∧d.params≤(r:Int)∧(r:Int)≤d.params+1∧r≤4:=by
 unfold recLevels
 rw [if_pos h]
 split
 ·exact ⟨(d.params+1).toNat,by omega,by omega,by omega,by omega⟩
 ·exact ⟨d.params.toNat,by omega,by omega,by omega,by omega⟩
theorem motiveKind {d:Dc} (h:isData d=true) (h0:0≤d.params) (h2:d.params≤2):termKind (motiveSort d)=[115]:=by
 obtain ⟨q,hq⟩:∃ q:Nat,d.params=(q:Int):=⟨d.params.toNat,by omega⟩
 unfold motiveSort
 rw [if_pos h,hq,Lib.itoa_nonneg]
 split
 ·have hk:(Tm.sort (117 :: Lib.decDigits q)).Ok:=by
   have e:q=0∨q=1∨q=2:=by omega
   rcases e with rfl | rfl | rfl<;>simp [Tm.Ok,Lib.decDigits_one,levelOk,lend]
  have hl:=digits_len (u:=q) (by omega)
  rw [show (115 :: 117 :: (Lib.decDigits q ++ [46]))=(Tm.sort (117 :: Lib.decDigits q)).bytes by simp [Tm.bytes],termKind,termOk,termOf_bytes hk (by simp [Tm.bytes];omega)]
  simp [Tm.bytes]
 ·have hk:(Tm.sort [122]).Ok:=by simp [Tm.Ok,levelOk,lend]
  rw [show ([115,122,46]:List UInt8)=(Tm.sort [122]).bytes from rfl,termKind,termOk,termOf_bytes hk (by decide)]
  rfl
def argsL (k:Nat):List (List UInt8):=[118,55,46] :: (List.range k).map fun i=>(Tm.var (i+9)).bytes
theorem argsL_len (k:Nat):(argsL k).length=k+1:=by simp [argsL]
theorem argsL_succ (k:Nat):argsL (k+1)=argsL k ++ [(Tm.var (k+9)).bytes]:=by simp [argsL,List.range_succ]
theorem argsL_ok {k:Nat} (hk:k≤6):∀ x∈argsL k,termOk x=true∧x.length≤2000:=by
 intro x hx
 have hv:∀ n,n≤99→termOk (Tm.var n).bytes=true∧(Tm.var n).bytes.length≤2000:=fun n hn=>by
  have hl:=var_len n (by omega)
  have ho:(Tm.var n).Ok:=by show n≤999;omega
  exact ⟨by rw [termOk,termOf_bytes ho (by omega)];rfl,by omega⟩
 rcases List.mem_cons.1 hx with rfl | hx
 ·have:=hv 7 (by decide)
  rwa [show (Tm.var 7).bytes=[118,55,46] by simp [Tm.bytes,Lib.decDigits_one]] at this
 ·obtain ⟨i,hi,rfl⟩:=List.mem_map.1 hx
  rw [List.mem_range] at hi
  exact hv _ (by omega)
noncomputable def recStep0 (d:Dc) (args:List (List UInt8)) (k:Nat):Option (List UInt8):=if (domainsOf (ctorType d (k:Int))).length=0 then args[k+1]? else none
theorem lawRecursors {v:Value} {l:List UInt8} (w:World) (hl:CameB w v l) (hm:l.length≤maxLen)
  (hRt:∀ (d:Dc) ,d.Small→(-9223372036854775808≤d.flags∧d.flags≤9223372036854775807)→∀ (W:World) (b:Nat) (u:Value),Below w.heap.size w W→W.ownsRow b 42 2 u d.ctors.length (flatC d.ctors)→Calls Tryz.prog 34 #[d.val u] W fun e w'=>e=.returned (putRes (recType d))∧Below W.heap.size W w')
  (hRl:∀ (d:Dc) ,d.Small→(-9223372036854775808≤d.flags∧d.flags≤9223372036854775807)→∀ (W:World) (b:Nat) (u:Value),Below w.heap.size w W→W.ownsRow b 42 2 u d.ctors.length (flatC d.ctors)→Calls Tryz.prog 36 #[d.val u] W fun e w'=>e=.returned (.int .i64 (recLevels d))∧Below W.heap.size W w')
  (hMs:∀ (d:Dc) ,d.Small→(-9223372036854775808≤d.flags∧d.flags≤9223372036854775807)→∀ (W:World) (b:Nat) (u:Value),Below w.heap.size w W→W.ownsRow b 42 2 u d.ctors.length (flatC d.ctors)→Calls Tryz.prog 38 #[d.val u] W fun e w'=>e=.returned (.string ⟨(motiveSort d).toArray⟩)∧Below W.heap.size W w')
  (hMi:∀ (d:Dc) (k:Int),d.Small→(-9223372036854775808≤d.flags∧d.flags≤9223372036854775807)→∀ (W:World) (b:Nat) (u:Value),Below w.heap.size w W→W.ownsRow b 42 2 u d.ctors.length (flatC d.ctors)→Calls Tryz.prog 40 #[d.val u,.int .i64 k] W fun e w'=>e=.returned (putRes (minorType d k))∧Below W.heap.size W w')
  (hR0:∀ (d:Dc) (k:Nat) (ls xs:List (List UInt8)),d.Small→(-9223372036854775808≤d.flags∧d.flags≤9223372036854775807)→positive d=true→isCtor d (k:Int)=true→(ls.length:Int)=recLevels d→xs.length=d.ctors.length+1→(∀ x∈ls,levelOk x=true∧x.length≤2000)→(∀ x∈xs,termOk x=true∧x.length≤2000)→∀ (W:World) (b b1 b2:Nat) (u v1 v2:Value),Below w.heap.size w W→W.ownsRow b 42 2 u d.ctors.length (flatC d.ctors)→W.ownsRow b1 9 1 v1 ls.length (ls.map sv)→W.ownsRow b2 9 1 v2 xs.length (xs.map sv)→Calls Tryz.prog 41 #[d.val u,v1,v2,.int .i64 (k:Int),.slice none 0 0] W fun e w'=>e=.returned (putRes (recStep0 d xs k))∧Below W.heap.size W w')
  (hR1:∀ (d:Dc) (k:Int) (ls xs gs:List (List UInt8)),d.Small→(-9223372036854775808≤d.flags∧d.flags≤9223372036854775807)→isCtor d k=false→ls.length≤4→xs.length≤7→gs.length≤3→(∀ x∈ls,x.length≤2000)→(∀ x∈xs,x.length≤2000)→(∀ x∈gs,x.length≤2000)→∀ (W:World) (b b1 b2 b3:Nat) (u v1 v2 v3:Value),Below w.heap.size w W→W.ownsRow b 42 2 u d.ctors.length (flatC d.ctors)→W.ownsRow b1 9 1 v1 ls.length (ls.map sv)→W.ownsRow b2 9 1 v2 xs.length (xs.map sv)→W.ownsRow b3 9 1 v3 gs.length (gs.map sv)→Calls Tryz.prog 41 #[d.val u,v1,v2,.int .i64 k,v3] W fun e w'=>e=.returned (putRes none)∧Below W.heap.size W w')
  (hTo:∀ s:ByteArray,s.size≤1048576→∀ W,Below w.heap.size w W→Calls Tryz.prog 35 #[.string s] W fun e w'=>e=.returned (.int .i64 (termOpen s.data.toList:Int))∧Below W.heap.size W w')
  (hTk:∀ s:ByteArray,s.size≤1048576→∀ W,Below w.heap.size w W→Calls Tryz.prog 37 #[.string s] W fun e w'=>e=.returned (.string ⟨(termKind s.data.toList).toArray⟩)∧Below W.heap.size W w')
  (hDo:∀ s:ByteArray,s.size≤1048576→∀ W,Below w.heap.size w W→Calls Tryz.prog 21 #[.string s] W (LRes' (domainsOf s.data.toList) W))
  (hVt:∀ n:Int,∀ W,Below w.heap.size w W→Calls Tryz.prog 39 #[.int .i64 n] W fun e w'=>e=.returned (.string ⟨(varText n).toArray⟩)∧Below W.heap.size W w') :
  Calls Tryz.prog 5 #[v] w fun e w'=>e=.returned (.bool true)∧Below w.heap.size w w':=by
 have f0:=Ld (bigB hl hm)
 by_cases hbig:1048576 < l.length
 ·rw [decide_eq_true hbig] at f0
  obtain ⟨a0,cap,_,_,rfl,_⟩:=hl
  clear hRt hRl hMs hMi hR0 hR1 hTo hTk hDo hVt
  go_enter Tryz.func5,Tryz.ntmps5
  go_wp2_with fail
  (with_reducible refine f0.out.mono ?_);rintro e w1 ⟨rfl,rfl⟩
  go_wp2
  go_ret
  exact ⟨rfl,Below.refl _ _⟩
 rw [decide_eq_false hbig] at f0
 obtain ⟨hsm,HR,lv,HP⟩:=dataK l
 have f1:=Ld fun W (hb:Below w.heap.size w W)=>drawData (hl.below hb) (by omega)
 have fD:=Ld fun W (hb:Below w.heap.size w W)=>drawList (hl.below hb) (by omega)
 generalize dataOf l=d at hsm HP HR f1
 have hrng:=HP.rng
 have p0:=HP.par0
 have p2:=HP.par2
 have h6:=HP.count
 obtain ⟨T,hT,hTok,hTl,hTop,hTd⟩:=HR.type
 obtain ⟨rn,hrn,hr0,hr1,hr4⟩:=recLevels_nat HP.data p0 (by omega)
 have hmk:=motiveKind HP.data p0 (by omega)
 have hml:=(isData_small HP.data).2.1
 have gRt:=Ld (hRt d hsm hrng)
 have gRl:=Ld (hRl d hsm hrng)
 have gMs:=Ld (hMs d hsm hrng)
 have gMi:=Ld fun (k:Int)=>hMi d k hsm hrng
 have gMe:=Ld fun (k:Nat) (hk:k < d.ctors.length)=>HR.minor k hk
 have gR0:=Ld fun (k:Nat) (hk:k < d.ctors.length) ls xs=>hR0 d k ls xs hsm hrng HP.pos (HP.isCtor hk)
 have gR1:=Ld fun ls xs gs=>hR1 d (d.ctors.length:Int) ls xs gs hsm hrng (by simp [isCtor])
 have gTo:=Ld (hTo ⟨T.bytes.toArray⟩ (by rw [size_sv];omega))
 have gDo:=Ld (hDo ⟨T.bytes.toArray⟩ (by rw [size_sv];omega))
 have gTk:=Ld (hTk ⟨(motiveSort d).toArray⟩ (by rw [size_sv];omega))
 have gVt:=Ld hVt
 have hdl:(domainsOf T.bytes).length=T.doms.length:=by rw [domainsOf_own hTok hTl,List.length_map]
 have hd2:=domainsOf_len T.bytes
 simp only at gTo gDo gTk
 rw [show termOpen T.bytes=0 by rw [termOpen,termOf_bytes hTok hTl];exact hTop] at gTo
 rw [hmk] at gTk
 rw [hT] at gRt
 rw [hrn] at gRl gR0
 have s4:=hsm.ctors
 have s5:=Ld hsm.each
 simp only [putRes] at gRt
 clear hRt hRl hMs hMi hR0 hR1 hTo hTk hDo hVt HP HR hsm hmk hT hrn hTok hTop
 unfold DRes at f1
 unfold TlRes at fD
 unfold LRes' at gDo
 generalize motiveSort d=mo at gMs gTk hml
 generalize domainsOf T.bytes=dl at gDo hdl hd2
 rw [← hdl] at hTd
 generalize T.bytes=tb at gRt gTo gDo hTl
 clear hdl
 obtain ⟨kd,nm,ps,fl,ty,vl,cs⟩:=d
 have hval:∀ u,Dc.val ⟨kd,nm,ps,fl,ty,vl,cs⟩ u=.agg #[.int .i64 kd,.string ⟨nm.toArray⟩,.int .i64 ps,.int .i64 fl,.string ⟨ty.toArray⟩,.string ⟨vl.toArray⟩,u]:=fun u=>rfl
 simp only [hval] at f1 gRt gRl gMs gMi gR0 gR1
 simp only at s4 s5 f1 gRt gRl gMs gMi gR0 gR1 gMe p0 p2 h6 hr0 hr1 hTd
 have HX:=Ld fun w u=>anyBox (w:=w) (kd:=kd) (ps:=ps) (fl:=fl) (nm:=nm) (ty:=ty) (vl:=vl) (u:=u) (T:=36)
 obtain ⟨i0,hi,hz0,hz1,hz2⟩:=info_parts infoStr'
 obtain ⟨a0,cap,_,_,rfl,_⟩:=id hl
 clear hl hval
 go_enter Tryz.func5,Tryz.ntmps5
 go_wp2_with fail
 (with_reducible refine f0.out.mono ?_);rintro e w0 ⟨rfl,rfl⟩
 clear f0
 go_wp2_with fail
 (with_reducible refine (f1.out _ (Below.refl _ _)).mono ?_);rintro e w1 ⟨u1,rfl,hu1,hb1⟩
 obtain ⟨ua,uc,rfl⟩:=row_sliceD hu1
 have bx1:=alloc_any w1 (.cells #[.int .i64 kd,.string ⟨nm.toArray⟩,.int .i64 ps,.int .i64 fl,.string ⟨ty.toArray⟩,.string ⟨vl.toArray⟩,.slice ua cs.length uc] 36)
 have hu1a:=own_below hu1 bx1
 have hb1a:=hb1.trans (bx1.mono hb1.size)
 have HX1:=Ld (HX.out w1 (.slice ua cs.length uc))
 have hk1:=Below.refl (w1.alloc (.cells #[.int .i64 kd,.string ⟨nm.toArray⟩,.int .i64 ps,.int .i64 fl,.string ⟨ty.toArray⟩,.string ⟨vl.toArray⟩,.slice ua cs.length uc] 36)).heap.size (w1.alloc (.cells #[.int .i64 kd,.string ⟨nm.toArray⟩,.int .i64 ps,.int .i64 fl,.string ⟨ty.toArray⟩,.string ⟨vl.toArray⟩,.slice ua cs.length uc] 36))
 have HB1:=Ld hb1a
 have HU1:=Ld hu1a
 have HK1:=Ld hk1
 clear hu1 hb1 bx1 hu1a hb1a hk1
 go_wp2_with fail
 (with_reducible refine (f1.out _ HB1.out).mono ?_);rintro e w2 ⟨u2,rfl,hu2,hb2⟩
 obtain ⟨va,vc,rfl⟩:=row_sliceD hu2
 have bx2:=alloc_any w2 (.cells #[.int .i64 kd,.string ⟨nm.toArray⟩,.int .i64 ps,.int .i64 fl,.string ⟨ty.toArray⟩,.string ⟨vl.toArray⟩,.slice va cs.length vc] 36)
 have HB2:=Ld ((HB1.out.trans (hb2.mono HB1.out.size)).trans (bx2.mono (HB1.out.trans (hb2.mono HB1.out.size)).size))
 have HU12:=Ld (own_below (own_below HU1.out hb2) bx2)
 have HU2:=Ld (own_below hu2 bx2)
 have hk12:=hb2.trans (bx2.mono hb2.size)
 have HK12:=Ld (HK1.out.trans hk12)
 have HX2:=Ld (HX.out w2 (.slice va cs.length vc))
 have HK2:=Ld (Below.refl (w2.alloc (.cells #[.int .i64 kd,.string ⟨nm.toArray⟩,.int .i64 ps,.int .i64 fl,.string ⟨ty.toArray⟩,.string ⟨vl.toArray⟩,.slice va cs.length vc] 36)).heap.size (w2.alloc (.cells #[.int .i64 kd,.string ⟨nm.toArray⟩,.int .i64 ps,.int .i64 fl,.string ⟨ty.toArray⟩,.string ⟨vl.toArray⟩,.slice va cs.length vc] 36)))
 clear hu2 hb2 bx2 hk12 HU1 HK1 HB1 f1 HX
 have HA1:Hid (∀ W,Below (w2.alloc (.cells #[.int .i64 kd,.string ⟨nm.toArray⟩,.int .i64 ps,.int .i64 fl,.string ⟨ty.toArray⟩,.string ⟨vl.toArray⟩,.slice va cs.length vc] 36)).heap.size (w2.alloc (.cells #[.int .i64 kd,.string ⟨nm.toArray⟩,.int .i64 ps,.int .i64 fl,.string ⟨ty.toArray⟩,.string ⟨vl.toArray⟩,.slice va cs.length vc] 36)) W→W.cell? ⟨w1.heap.size,0,none⟩=some (.int .i64 kd)∧W.cell? ⟨w1.heap.size,1,none⟩=some (.string ⟨nm.toArray⟩)∧W.cell? ⟨w1.heap.size,2,none⟩=some (.int .i64 ps)∧W.cell? ⟨w1.heap.size,3,none⟩=some (.int .i64 fl)∧W.cell? ⟨w1.heap.size,4,none⟩=some (.string ⟨ty.toArray⟩)∧W.cell? ⟨w1.heap.size,5,none⟩=some (.string ⟨vl.toArray⟩)∧W.cell? ⟨w1.heap.size,6,none⟩=some (.slice ua cs.length uc)):=fun W hb=>HX1.out W (HK12.out.trans (hb.mono HK12.out.size))
 have HA2:Hid (∀ W,Below (w2.alloc (.cells #[.int .i64 kd,.string ⟨nm.toArray⟩,.int .i64 ps,.int .i64 fl,.string ⟨ty.toArray⟩,.string ⟨vl.toArray⟩,.slice va cs.length vc] 36)).heap.size (w2.alloc (.cells #[.int .i64 kd,.string ⟨nm.toArray⟩,.int .i64 ps,.int .i64 fl,.string ⟨ty.toArray⟩,.string ⟨vl.toArray⟩,.slice va cs.length vc] 36)) W→W.cell? ⟨w2.heap.size,0,none⟩=some (.int .i64 kd)∧W.cell? ⟨w2.heap.size,1,none⟩=some (.string ⟨nm.toArray⟩)∧W.cell? ⟨w2.heap.size,2,none⟩=some (.int .i64 ps)∧W.cell? ⟨w2.heap.size,3,none⟩=some (.int .i64 fl)∧W.cell? ⟨w2.heap.size,4,none⟩=some (.string ⟨ty.toArray⟩)∧W.cell? ⟨w2.heap.size,5,none⟩=some (.string ⟨vl.toArray⟩)∧W.cell? ⟨w2.heap.size,6,none⟩=some (.slice va cs.length vc)):=fun W hb=>HX2.out W hb
 clear HX1 HX2 HK12
 obtain ⟨c0,c1,c2,c3,c4,c5,c6⟩:=HA1.out _ HK2.out
 go_wp2_with fail
 generalize hWB:(w2.alloc (.cells #[.int .i64 kd,.string ⟨nm.toArray⟩,.int .i64 ps,.int .i64 fl,.string ⟨ty.toArray⟩,.string ⟨vl.toArray⟩,.slice va cs.length vc] 36))=W0 at *
 (with_reducible refine (gRt.out _ _ _ HB2.out HU12.out).mono ?_);rintro e w3 ⟨rfl,hb3⟩
 have HW3:=Ld hb3
 have HB3:=Ld (HB2.out.trans (hb3.mono HB2.out.size))
 clear hb3 gRt c0 c1 c2 c3 c4 c5 c6 HK2 hWB
 go_wp2_with fail
 (with_reducible refine (fD.out _ HB3.out).mono ?_);rintro e w4 ⟨u4,ls4,hl4,hy4,rfl,hu4,hb4⟩
 obtain ⟨la,lc,rfl⟩:=own_sliceL hu4
 have HW4:=Ld (HW3.out.trans (hb4.mono HW3.out.size))
 have HL4:=Ld hu4
 have hy4:=Ld hy4
 clear hb4 hu4 fD HB3 HW3
 have hS4:=And.intro (HA1.out _ HW4.out) (HA2.out _ HW4.out)
 have zt:=size_sv tb
 go_wp2
 refine wp_region_held_drew (S:=(fun w'=>(w'.cell? ⟨w1.heap.size,0,none⟩=some (.int .i64 kd)∧w'.cell? ⟨w1.heap.size,1,none⟩=some (.string ⟨nm.toArray⟩)∧w'.cell? ⟨w1.heap.size,2,none⟩=some (.int .i64 ps)∧w'.cell? ⟨w1.heap.size,3,none⟩=some (.int .i64 fl)∧w'.cell? ⟨w1.heap.size,4,none⟩=some (.string ⟨ty.toArray⟩)∧w'.cell? ⟨w1.heap.size,5,none⟩=some (.string ⟨vl.toArray⟩)∧w'.cell? ⟨w1.heap.size,6,none⟩=some (.slice ua cs.length uc))∧(w'.cell? ⟨w2.heap.size,0,none⟩=some (.int .i64 kd)∧w'.cell? ⟨w2.heap.size,1,none⟩=some (.string ⟨nm.toArray⟩)∧w'.cell? ⟨w2.heap.size,2,none⟩=some (.int .i64 ps)∧w'.cell? ⟨w2.heap.size,3,none⟩=some (.int .i64 fl)∧w'.cell? ⟨w2.heap.size,4,none⟩=some (.string ⟨ty.toArray⟩)∧w'.cell? ⟨w2.heap.size,5,none⟩=some (.string ⟨vl.toArray⟩)∧w'.cell? ⟨w2.heap.size,6,none⟩=some (.slice va cs.length vc)))) (by kernel_rfl) hS4 (fun hS0=>?_)
 have HWdw4:=Ld HW4.out.drew
 have g15:decide ((dl.length:Int) < (cs.length:Int)+2)=false:=decide_eq_false (by omega)
 have g22:decide ((rn:Int) < ps)=false:=decide_eq_false (by omega)
 have w14:IntKind.i64.wrap ((cs.length:Int)+2)=(cs.length:Int)+2:=by rw [IntKind.wrap_i64];omega
 have w29:IntKind.i64.wrap (ps+1)=ps+1:=by rw [IntKind.wrap_i64];omega
 have HKw4:=Ld (Below.refl w4.heap.size w4).drew
 have g30:decide (ps+1 < (rn:Int))=false:=decide_eq_false (by omega)
 refine HW 0 33 (.bool true) hS0 (fun W hSW=>?_) ?_
 ·(try dsimp only at hSW);(try obtain ⟨hSA,hSB⟩:=hSW);go_simp
 simp only [Act.put,eA,eB,eC]
 refine HW 1 34 (.bool false) hS0 (fun W hSW=>?_) ?_
 ·(try dsimp only at hSW);(try obtain ⟨hSA,hSB⟩:=hSW);go_simp
 simp only [Act.put,eA,eB,eC]
 refine HW 2 35 (.bool false) hS0 (fun W hSW=>?_) ?_
 ·(try dsimp only at hSW);(try obtain ⟨hSA,hSB⟩:=hSW);go_simp
 simp only [Act.put,eA,eB,eC]
 refine HW 3 36 (.string ⟨tb.toArray⟩) hS0 (fun W hSW=>?_) ?_
 ·(try dsimp only at hSW);(try obtain ⟨hSA,hSB⟩:=hSW);go_simp
 simp only [Act.put,eA,eB,eC]
 refine wpAnyH_ready (rs:=[4]) (by kernel_rfl) (by simp) (AllReadyH.cons rfl (fun K hK=>?_) AllReadyH.nil)
 rw [if_pos (by rfl)]
 go_simp
 (with_reducible refine (gTo.out _ (HB2.out.trans (HWdw4.out.mono HB2.out.size))).mono ?_);rintro e w5 ⟨rfl,hbw5⟩
 have HWw5:=Ld (HWdw4.out.trans (hbw5.mono HWdw4.out.size))
 have HWdw5:=HWw5
 have HKw5:=Ld (HKw4.out.trans (hbw5.mono HKw4.out.size))
 clear HKw4
 refine hK.out _ _ ⟨HA1.out _ HWw5.out,HA2.out _ HWw5.out⟩ (fun hSw5=>?_)
 clear hK K hbw5 hS0
 try simp only [Act.put,eA,eB,eC]
 refine HW 5 38 (.bool false) hSw5 (fun W hSW=>?_) ?_
 ·(try dsimp only at hSW);(try obtain ⟨hSA,hSB⟩:=hSW);go_simp
 simp only [Act.put,eA,eB,eC]
 refine HW 6 39 (.bool false) hSw5 (fun W hSW=>?_) ?_
 ·(try dsimp only at hSW);(try obtain ⟨hSA,hSB⟩:=hSW);go_simp
 simp only [Act.put,eA,eB,eC]
 refine HW 7 40 (.bool false) hSw5 (fun W hSW=>?_) ?_
 ·(try dsimp only at hSW);(try obtain ⟨hSA,hSB⟩:=hSW);go_simp
 simp only [Act.put,eA,eB,eC]
 refine HW 8 41 (.string ⟨tb.toArray⟩) hSw5 (fun W hSW=>?_) ?_
 ·(try dsimp only at hSW);(try obtain ⟨hSA,hSB⟩:=hSW);go_simp
 simp only [Act.put,eA,eB,eC]
 refine HW 11 44 (.pointer (some ⟨w2.heap.size,6,none⟩)) hSw5 (fun W hSW=>?_) ?_
 ·(try dsimp only at hSW);(try obtain ⟨hSA,hSB⟩:=hSW);go_simp
 simp only [Act.put,eA,eB,eC]
 refine HW 12 45 (.slice va cs.length vc) hSw5 (fun W hSW=>?_) ?_
 ·(try dsimp only at hSW);(try obtain ⟨hSA,hSB⟩:=hSW);go_simp
 simp only [Act.put,eA,eB,eC]
 refine HW 13 46 (.int .i64 cs.length) hSw5 (fun W hSW=>?_) ?_
 ·(try dsimp only at hSW);(try obtain ⟨hSA,hSB⟩:=hSW);go_simp
 simp only [Act.put,eA,eB,eC]
 refine HW 14 47 (.int .i64 ((cs.length:Int)+2)) hSw5 (fun W hSW=>?_) ?_
 ·(try dsimp only at hSW);(try obtain ⟨hSA,hSB⟩:=hSW);go_simp<;>first | omega | simp [w14]
 simp only [Act.put,eA,eB,eC]
 refine wpAnyH_ready (rs:=[9]) (by kernel_rfl) (by simp) (AllReadyH.cons rfl (fun K hK=>?_) AllReadyH.nil)
 rw [if_pos (by rfl)]
 go_simp
 (with_reducible refine (gDo.out _ (HB2.out.trans (HWdw5.out.mono HB2.out.size))).mono ?_);rintro e w6 ⟨u6,rfl,hu6,hbw6⟩
 obtain ⟨sa,sc,rfl⟩:=row_sliceD hu6
 clear hu6
 have HWw6:=Ld (HWdw5.out.trans (hbw6.mono HWdw5.out.size))
 have HWdw6:=HWw6
 have HKw6:=Ld (HKw5.out.trans (hbw6.mono HKw5.out.size))
 clear HKw5
 refine hK.out _ _ ⟨HA1.out _ HWw6.out,HA2.out _ HWw6.out⟩ (fun hSw6=>?_)
 clear hK K hbw6 hSw5
 try simp only [Act.put,eA,eB,eC]
 refine HW 10 43 (.int .i64 dl.length) hSw6 (fun W hSW=>?_) ?_
 ·(try dsimp only at hSW);(try obtain ⟨hSA,hSB⟩:=hSW);go_simp
 simp only [Act.put,eA,eB,eC]
 refine HW 15 48 (.bool false) hSw6 (fun W hSW=>?_) ?_
 ·(try dsimp only at hSW);(try obtain ⟨hSA,hSB⟩:=hSW);go_simp
 simp only [Act.put,eA,eB,eC]
 refine HW 16 49 (.bool false) hSw6 (fun W hSW=>?_) ?_
 ·(try dsimp only at hSW);(try obtain ⟨hSA,hSB⟩:=hSW);go_simp
 simp only [Act.put,eA,eB,eC]
 refine HW 17 50 (.bool false) hSw6 (fun W hSW=>?_) ?_
 ·(try dsimp only at hSW);(try obtain ⟨hSA,hSB⟩:=hSW);go_simp
 simp only [Act.put,eA,eB,eC]
 refine HW 18 51 (.agg #[.int .i64 kd,.string ⟨nm.toArray⟩,.int .i64 ps,.int .i64 fl,.string ⟨ty.toArray⟩,.string ⟨vl.toArray⟩,.slice ua cs.length uc]) hSw6 (fun W hSW=>?_) ?_
 ·(try dsimp only at hSW);(try obtain ⟨hSA,hSB⟩:=hSW);go_simp
 simp only [Act.put,eA,eB,eC]
 refine HW 20 53 (.pointer (some ⟨w2.heap.size,2,none⟩)) hSw6 (fun W hSW=>?_) ?_
 ·(try dsimp only at hSW);(try obtain ⟨hSA,hSB⟩:=hSW);go_simp
 simp only [Act.put,eA,eB,eC]
 refine HW 21 54 (.int .i64 ps) hSw6 (fun W hSW=>?_) ?_
 ·(try dsimp only at hSW);(try obtain ⟨hSA,hSB⟩:=hSW);go_simp
 simp only [Act.put,eA,eB,eC]
 refine wpAnyH_ready (rs:=[19]) (by kernel_rfl) (by simp) (AllReadyH.cons rfl (fun K hK=>?_) AllReadyH.nil)
 rw [if_pos (by rfl)]
 go_simp
 (with_reducible refine (gRl.out _ _ _ (HB2.out.trans (HWdw6.out.mono HB2.out.size)) (own_below HU12.out HWdw6.out)).mono ?_);rintro e w7 ⟨rfl,hbw7⟩
 have HWw7:=Ld (HWdw6.out.trans (hbw7.mono HWdw6.out.size))
 have HWdw7:=HWw7
 have HKw7:=Ld (HKw6.out.trans (hbw7.mono HKw6.out.size))
 clear HKw6
 refine hK.out _ _ ⟨HA1.out _ HWw7.out,HA2.out _ HWw7.out⟩ (fun hSw7=>?_)
 clear hK K hbw7 hSw6
 try simp only [Act.put,eA,eB,eC]
 refine HW 22 55 (.bool false) hSw7 (fun W hSW=>?_) ?_
 ·(try dsimp only at hSW);(try obtain ⟨hSA,hSB⟩:=hSW);go_simp
 simp only [Act.put,eA,eB,eC]
 refine HW 23 56 (.bool false) hSw7 (fun W hSW=>?_) ?_
 ·(try dsimp only at hSW);(try obtain ⟨hSA,hSB⟩:=hSW);go_simp
 simp only [Act.put,eA,eB,eC]
 refine HW 24 57 (.bool false) hSw7 (fun W hSW=>?_) ?_
 ·(try dsimp only at hSW);(try obtain ⟨hSA,hSB⟩:=hSW);go_simp
 simp only [Act.put,eA,eB,eC]
 refine HW 25 58 (.agg #[.int .i64 kd,.string ⟨nm.toArray⟩,.int .i64 ps,.int .i64 fl,.string ⟨ty.toArray⟩,.string ⟨vl.toArray⟩,.slice ua cs.length uc]) hSw7 (fun W hSW=>?_) ?_
 ·(try dsimp only at hSW);(try obtain ⟨hSA,hSB⟩:=hSW);go_simp
 simp only [Act.put,eA,eB,eC]
 refine HW 27 60 (.pointer (some ⟨w2.heap.size,2,none⟩)) hSw7 (fun W hSW=>?_) ?_
 ·(try dsimp only at hSW);(try obtain ⟨hSA,hSB⟩:=hSW);go_simp
 simp only [Act.put,eA,eB,eC]
 refine HW 28 61 (.int .i64 ps) hSw7 (fun W hSW=>?_) ?_
 ·(try dsimp only at hSW);(try obtain ⟨hSA,hSB⟩:=hSW);go_simp
 simp only [Act.put,eA,eB,eC]
 refine HW 29 62 (.int .i64 (ps+1)) hSw7 (fun W hSW=>?_) ?_
 ·(try dsimp only at hSW);(try obtain ⟨hSA,hSB⟩:=hSW);go_simp<;>first | omega | simp [w29]
 simp only [Act.put,eA,eB,eC]
 refine wpAnyH_ready (rs:=[26]) (by kernel_rfl) (by simp) (AllReadyH.cons rfl (fun K hK=>?_) AllReadyH.nil)
 rw [if_pos (by rfl)]
 go_simp
 (with_reducible refine (gRl.out _ _ _ (HB2.out.trans (HWdw7.out.mono HB2.out.size)) (own_below HU12.out HWdw7.out)).mono ?_);rintro e w8 ⟨rfl,hbw8⟩
 have HWw8:=Ld (HWdw7.out.trans (hbw8.mono HWdw7.out.size))
 have HWdw8:=HWw8
 have HKw8:=Ld (HKw7.out.trans (hbw8.mono HKw7.out.size))
 clear HKw7
 refine hK.out _ _ ⟨HA1.out _ HWw8.out,HA2.out _ HWw8.out⟩ (fun hSw8=>?_)
 clear hK K hbw8 hSw7
 try simp only [Act.put,eA,eB,eC]
 refine HW 30 63 (.bool false) hSw8 (fun W hSW=>?_) ?_
 ·(try dsimp only at hSW);(try obtain ⟨hSA,hSB⟩:=hSW);go_simp
 simp only [Act.put,eA,eB,eC]
 refine HW 31 64 (.bool false) hSw8 (fun W hSW=>?_) ?_
 ·(try dsimp only at hSW);(try obtain ⟨hSA,hSB⟩:=hSW);go_simp
 simp only [Act.put,eA,eB,eC]
 refine HW 32 65 (.bool false) hSw8 (fun W hSW=>?_) ?_
 ·(try dsimp only at hSW);(try obtain ⟨hSA,hSB⟩:=hSW);go_simp
 simp only [Act.put,eA,eB,eC]
 refine HW 33 66 (.agg #[.int .i64 kd,.string ⟨nm.toArray⟩,.int .i64 ps,.int .i64 fl,.string ⟨ty.toArray⟩,.string ⟨vl.toArray⟩,.slice ua cs.length uc]) hSw8 (fun W hSW=>?_) ?_
 ·(try dsimp only at hSW);(try obtain ⟨hSA,hSB⟩:=hSW);go_simp
 simp only [Act.put,eA,eB,eC]
 refine wpAnyH_ready (rs:=[34]) (by kernel_rfl) (by simp) (AllReadyH.cons rfl (fun K hK=>?_) AllReadyH.nil)
 rw [if_pos (by rfl)]
 go_simp
 (with_reducible refine (gMs.out _ _ _ (HB2.out.trans (HWdw8.out.mono HB2.out.size)) (own_below HU12.out HWdw8.out)).mono ?_);rintro e w9 ⟨rfl,hbw9⟩
 have HWw9:=Ld (HWdw8.out.trans (hbw9.mono HWdw8.out.size))
 have HWdw9:=HWw9
 have HKw9:=Ld (HKw8.out.trans (hbw9.mono HKw8.out.size))
 clear HKw8
 refine hK.out _ _ ⟨HA1.out _ HWw9.out,HA2.out _ HWw9.out⟩ (fun hSw9=>?_)
 clear hK K hbw9 hSw8
 try simp only [Act.put,eA,eB,eC]
 refine wpAnyH_ready (rs:=[35]) (by kernel_rfl) (by simp) (AllReadyH.cons rfl (fun K hK=>?_) AllReadyH.nil)
 rw [if_pos (by rfl)]
 go_simp
 (with_reducible refine (gTk.out _ (HB2.out.trans (HWdw9.out.mono HB2.out.size))).mono ?_);rintro e w10 ⟨rfl,hbw10⟩
 have HWw10:=Ld (HWdw9.out.trans (hbw10.mono HWdw9.out.size))
 have HWdw10:=HWw10
 have HKw10:=Ld (HKw9.out.trans (hbw10.mono HKw9.out.size))
 clear HKw9
 refine hK.out _ _ ⟨HA1.out _ HWw10.out,HA2.out _ HWw10.out⟩ (fun hSw10=>?_)
 clear hK K hbw10 hSw9
 try simp only [Act.put,eA,eB,eC]
 refine HW 36 69 (.bool false) hSw10 (fun W hSW=>?_) ?_
 ·(try dsimp only at hSW);(try obtain ⟨hSA,hSB⟩:=hSW);go_simp
 simp only [Act.put,eA,eB,eC]
 refine HW 37 70 (.bool false) hSw10 (fun W hSW=>?_) ?_
 ·(try dsimp only at hSW);(try obtain ⟨hSA,hSB⟩:=hSW);go_simp
 simp only [Act.put,eA,eB,eC]
 refine wpAnyH_done (by kernel_rfl) ?_ _
 have HL10:=Ld (own_below HL4.out HKw10.out)
 have HB10:=HWdw10
 have hrowA:=Ld (World.ownsRow_lit (base:=w10.heap.size) (e:=9) (size:=1) w10 #[] 0 (Nat.le_refl _) (by decide) (by simp))
 have hblA:=Ld ((Below.refl w10.heap.size w10).alloc (Nat.le_refl _) (.cells #[] 9))
 clear hSw10 HKw10 HL4 HWdw4 HWdw5 HWdw6 HWdw7 HWdw8 HWdw9 HWdw10 HWw5 HWw6 HWw7 HWw8 HWw9 HWw10 HW4 gTo gDo gTk gMs
 go_wp2
 go_loopw [8,9] (fun lv i wr=>∃ m:Nat,m≤rn∧i=.int .i64 m∧Hid (wr.ownsRow w10.heap.size 9 1 lv m ((List.replicate m ([43,122]:List UInt8)).map sv))∧Hid (Below w10.heap.size w10 wr)) (fun _ i _=>rn - (intOf i).toNat)
 case atStart=>exact ⟨0,Nat.zero_le _,rfl,hrowA.out,hblA.out⟩
 case round =>
  obtain ⟨m,hm',rfl,HO,HWr⟩:=hrel
  rename World=>wq
  clear hrowA hblA
  have hz:=HWr.out.size
  have HWw:=Ld (HB10.out.trans (HWr.out.mono HB10.out.size))
  obtain ⟨c0,c1,c2,c3,c4,c5,c6⟩:=HA1.out _ HWw.out
  have r1:=Ld (gRl.out _ _ _ (HB2.out.trans (HWw.out.mono HB2.out.size)) (own_below HU12.out HWw.out))
  by_cases hlt:m < rn
  ·have e1:decide ((m:Int) < (rn:Int))=true:=decide_eq_true (by omega)
   clear HL10 gMi gMe gR0 gR1 gVt HA1 HA2 HU2 gRl HU12
   go_wp2_with fail
   (with_reducible refine r1.out.mono ?_);rintro e w11 ⟨rfl,hb11⟩
   have HO11:=Ld (own_below HO.out hb11)
   have HW11:=Ld (HWr.out.trans (hb11.mono hz))
   have hz11:=HW11.out.size
   clear hb11 r1 c0 c1 c2 c3 c4 c5 c6 HO HWr
   go_wp2_with (at_builtin;refine wpList_append_own _ rfl _ _ 25 rfl w10.heap.size 9 i0 _ 1 16 Tryz.underlying25 hi hz0 hz1 hz2 rfl (by decide) _ _ _ rfl (HO11.out.alloc _) ⟨w11.heap.size,0,none⟩ 1 1 [.string ⟨#[43,122]⟩] rfl rfl (oneNew _ _ _) (by simp [Value.oneCell']) (by simp only [maxLen];omega) (by omega) (by simp;omega) ?_;intro v12 w12 hown hgrow hnil)
   have HO12:Hid (w12.ownsRow w10.heap.size 9 1 v12 (m+1) ((List.replicate (m+1) ([43,122]:List UInt8)).map sv)):=by
    rw [Hid,List.replicate_succ',List.map_append]
    exact hown
   have HW12:Hid (Below w10.heap.size w10 w12):=(HW11.out.alloc hz11 _).grown hgrow (by simp;omega) (fun q hq=>(HO11.out.lt q hq).1)
   clear hown hgrow
   go_wp2
   go_roundw
   case rel=>exact ⟨m+1,by omega,by go_num,HO12.out,HW12.out⟩
   case measure=>simp [intOf];omega
  have e1:decide ((m:Int) < (rn:Int))=false:=decide_eq_false (by omega)
  clear gRl
  go_wp2_with fail
  (with_reducible refine r1.out.mono ?_);rintro e w11 ⟨rfl,hb11⟩
  have HLv:Hid (w11.ownsRow w10.heap.size 9 1 u8 (List.replicate rn ([43,122]:List UInt8)).length ((List.replicate rn ([43,122]:List UInt8)).map sv)):=by
   have h:=own_below HO.out hb11
   rw [show m=rn by omega] at h
   rw [Hid,List.length_replicate]
   exact h
  have HB11:=Ld (HWw.out.trans (hb11.mono HWw.out.size))
  have HL11:=Ld (own_below HL10.out ((HWr.out.trans (hb11.mono hz))))
  clear hb11 r1 c0 c1 c2 c3 c4 c5 c6 HO HWr HWw HB10 HL10
  have hrowB:=Ld (World.ownsRow_lit (base:=w11.heap.size) (e:=9) (size:=1) w11 #[.string ⟨#[118,55,46]⟩] 1 (Nat.le_refl _) (by decide) (by simp))
  have hblB:=Ld ((Below.refl w11.heap.size w11).alloc (Nat.le_refl _) (.cells #[.string ⟨#[118,55,46]⟩] 9))
  go_wp2
  go_loopw [10,11] (fun ao i wr=>∃ k:Nat,k≤cs.length∧i=.int .i64 k∧Hid (wr.ownsRow w11.heap.size 9 1 ao (k+1) ((argsL k).map sv))∧Hid (Below w11.heap.size w11 wr)) (fun _ i _=>cs.length - (intOf i).toNat)
  case atStart=>exact ⟨0,Nat.zero_le _,rfl,hrowB.out,hblB.out⟩
  case round =>
   obtain ⟨k,hk,rfl,HO,HWr⟩:=hrel
   rename World=>wp
   clear hrowB hblB
   have hz:=HWr.out.size
   have HWw:=Ld (HB11.out.trans (HWr.out.mono HB11.out.size))
   have HBw:=Ld (HB2.out.trans (HWw.out.mono HB2.out.size))
   obtain ⟨d0,d1,d2,d3,d4,d5,d6⟩:=HA2.out _ HWw.out
   by_cases hlt:k < cs.length
   ·have r1:=Ld (gVt.out ((k:Int)+9) _ HBw.out)
    rw [show ((k:Int)+9)=((k+9:Nat):Int) by omega,varText_eq (by omega)] at r1
    rw [show ((k+9:Nat):Int)=(k:Int)+9 by omega] at r1
    have HS:=Ld (argsL_succ k)
    have hvl:=var_len (k+9) (by omega)
    generalize (Tm.var (k+9)).bytes=x at r1 HS hvl
    obtain ⟨mt,hmt⟩:=gMe.out k hlt
    have r2:=Ld (gMi.out (k:Int))
    rw [hmt] at r2
    simp only [putRes] at r2
    clear HL11 HLv gMi gMe gR0 gR1 gVt
    go_wp2_with fail
    (with_reducible refine r1.out.mono ?_);rintro e w12 ⟨rfl,hb12⟩
    have HO12:=Ld (own_below HO.out hb12)
    have HW12:=Ld (HWr.out.trans (hb12.mono hz))
    have hz12:=HW12.out.size
    clear hb12 r1 d0 d1 d2 d3 d4 d5 d6 HO HWr HWw HBw
    go_wp2_with (at_builtin;refine wpList_append_own _ rfl _ _ 25 rfl w11.heap.size 9 i0 _ 1 16 Tryz.underlying25 hi hz0 hz1 hz2 rfl (by decide) _ _ _ rfl (HO12.out.alloc _) ⟨w12.heap.size,0,none⟩ 1 1 [.string ⟨x.toArray⟩] rfl rfl (oneNew _ _ _) (by simp [Value.oneCell']) (by simp only [maxLen];omega) (by omega) (by simp;omega) ?_;intro v13 w13 hown hgrow hnil;have HW13:Hid (Below w11.heap.size w11 w13):=(HW12.out.alloc hz12 _).grown hgrow (by simp;omega) (fun q hq=>(HO12.out.lt q hq).1);have HWW13:=Ld (HB11.out.trans (HW13.out.mono HB11.out.size));obtain ⟨c0,c1,c2,c3,c4,c5,c6⟩:=HA1.out _ HWW13.out)
    have HO13:Hid (w13.ownsRow w11.heap.size 9 1 v13 (k+1+1) ((argsL (k+1)).map sv)):=by
     rw [Hid,HS.out,List.map_append]
     exact hown
    have HB13:=Ld (HB2.out.trans (HWW13.out.mono HB2.out.size))
    have hz13:=HW13.out.size
    clear hown hgrow HS HO12 HW12
    (with_reducible refine (r2.out _ _ _ HB13.out (own_below HU12.out HWW13.out)).mono ?_);rintro e w14 ⟨rfl,hb14⟩
    have HO14:=Ld (own_below HO13.out hb14)
    have HW14:=Ld (HW13.out.trans (hb14.mono hz13))
    clear hb14 r2 c0 c1 c2 c3 c4 c5 c6 HO13 HW13 HWW13 HB13
    go_wp2
    go_roundw
    case rel=>exact ⟨k+1,by omega,by go_num,HO14.out,HW14.out⟩
    case measure=>simp [intOf];omega
   have e2:decide ((k:Int) < (cs.length:Int))=false:=decide_eq_false (by omega)
   have HAr:Hid (wp.ownsRow w11.heap.size 9 1 u10 (argsL cs.length).length ((argsL cs.length).map sv)):=by
    have h:=HO.out
    rw [show k=cs.length by omega] at h
    rw [Hid,argsL_len]
    exact h
   have HLvp:=Ld (own_below HLv.out HWr.out)
   have HLp:=Ld (own_below HL11.out HWr.out)
   have HBp:=HWw
   have hKp:=Ld (Below.refl wp.heap.size wp)
   clear HO HWr HWw HBw HLv HL11 HB11 gVt gMi gMe
   go_wp2
   go_loopw [14] (fun i wr=>∃ k:Nat,k≤cs.length∧i=.int .i64 k∧Hid (Below wp.heap.size wp wr)) (fun i _=>cs.length - (intOf i).toNat)
   case atStart=>exact ⟨0,Nat.zero_le _,rfl,hKp.out⟩
   case round =>
    obtain ⟨j,hj,rfl,HWr⟩:=hrel
    rename World=>wo
    clear hKp d0 d1 d2 d3 d4 d5 d6
    have HWw:=Ld (HBp.out.trans (HWr.out.mono HBp.out.size))
    have HBw:=Ld (HB2.out.trans (HWw.out.mono HB2.out.size))
    obtain ⟨d0,d1,d2,d3,d4,d5,d6⟩:=HA2.out _ HWw.out
    by_cases hlj:j < cs.length
    rotate_left
    ·have e3:decide ((j:Int) < (cs.length:Int))=false:=decide_eq_false (by omega)
     obtain ⟨c0,c1,c2,c3,c4,c5,c6⟩:=HA1.out _ HWw.out
     have r1:=Ld (gR1.out (List.replicate rn [43,122]) (argsL cs.length) (ls4.map Tm.bytes) (by rw [List.length_replicate];omega) (by rw [argsL_len];omega) (by rw [List.length_map];exact hl4) (fun x hx=>by rw [List.eq_of_mem_replicate hx];decide) (fun x hx=>(argsL_ok h6 x hx).2) (fun x hx=>by
      obtain ⟨y,hy,rfl⟩:=List.mem_map.1 hx
      have:=(hy4.out y hy).2.2
      omega) _ _ _ _ _ _ _ _ _ HBw.out (own_below HU12.out HWw.out) (own_below HLvp.out HWr.out) (own_below HAr.out HWr.out) (by
       have h:=own_below HLp.out HWr.out
       rw [List.length_map,List.map_map]
       exact h))
     simp only [putRes] at r1
     clear gR0 gR1 HLvp HAr HLp
     go_wp2_with fail
     (with_reducible refine r1.out.mono ?_);rintro e w12 ⟨rfl,hb12⟩
     have HBF:=Ld (HBw.out.trans (hb12.mono HBw.out.size))
     clear hb12 r1
     go_wp2
     go_ret
     exact ⟨rfl,HBF.out⟩
    have hrow:=own_below HU2.out HWw.out
    obtain ⟨g2,cap2,eg2,_,hg2⟩:=hrow.form (by omega)
    cases eg2
    obtain ⟨fa,fb⟩:=flatC_at hlj
    have y1:=(hrow.cellAt (j*2+1) (by omega)).trans fb
    unfold sv at y1
    have hel:=(s5.out _ (List.getElem_mem hlj)).2
    have q1:(0:Int)≤(j:Int):=by omega
    have q2:(j:Int) < (cs.length:Int):=by omega
    have R0:=Ld (gR0.out j hlj (List.replicate rn [43,122]) (argsL cs.length) (by rw [List.length_replicate]) (argsL_len _) (fun x hx=>by rw [List.eq_of_mem_replicate hx];exact ⟨by simp [levelOk,lend],by decide⟩) (argsL_ok h6))
    have HRS:Hid (recStep0 ⟨kd,nm,ps,fl,ty,vl,cs⟩ (argsL cs.length) j=if (domainsOf cs[j].2).length=0 then (argsL cs.length)[j+1]? else none):=by
     rw [Hid,recStep0,ctorType_at (d:=⟨kd,nm,ps,fl,ty,vl,cs⟩) hlj]
    rw [HRS.out] at R0
    clear fa fb hrow HRS gR0 gR1
    generalize cs[j].2=t at y1 hel R0
    have f5:=Ld fun W=>specDomains ⟨t.toArray⟩ W (by rw [size_sv];unfold maxLen;omega)
    simp only at f5
    unfold LRes' at f5
    have hdl:=domainsOf_len t
    generalize domainsOf t=da at f5 hdl R0
    go_wp2_with fail
    (with_reducible refine (f5.out _).mono ?_);rintro e w12 ⟨u12,rfl,hu12,hb12⟩
    obtain ⟨ta,tc,rfl⟩:=row_sliceD hu12
    have HW12:=Ld (HWr.out.trans (hb12.mono HWr.out.size))
    have HWW12:=Ld (HWw.out.trans (hb12.mono HWw.out.size))
    clear hb12 hu12 f5 y1 hg2 d0 d1 d2 d3 d4 d5 d6 HWr HWw HBw
    obtain ⟨c0,c1,c2,c3,c4,c5,c6⟩:=HA1.out _ HWW12.out
    have HLq:=Ld (own_below HLvp.out HW12.out)
    have HAq:=Ld (own_below HAr.out HW12.out)
    obtain ⟨g4,cap4,eg4,_,hg4⟩:=HAq.out.form (by rw [argsL_len];omega)
    cases eg4
    have hj1:j+1 < (argsL cs.length).length:=by rw [argsL_len];omega
    have y4:=HAq.out.cellAt (j+1) (by rw [argsL_len];omega)
    have ex4:((argsL cs.length).map sv)[j+1]?=some (sv (argsL cs.length)[j+1]):=by simp [hj1]
    rw [ex4] at y4
    unfold sv at y4
    have HY9:Hid (∀ W,Below w12.heap.size w12 W→W.cell? ⟨g4,j+1,none⟩=some (.string ⟨((argsL cs.length)[j+1]).toArray⟩)):=fun W hW=>(hW.cell (p:=⟨g4,j+1,none⟩) hg4).trans y4
    rw [List.getElem?_eq_getElem hj1] at R0
    have q3:(0:Int)≤(j:Int)+1:=by omega
    have q4:(j:Int)+1 < ((argsL cs.length).length:Int):=by omega
    clear ex4 y4 hg4
    generalize (argsL cs.length)[j+1]=x9 at R0 HY9
    obtain ⟨t9,b9,hres,hb9,ht9⟩:∃ t b,putRes (if da.length=0 then some x9 else none)=.tuple #[.string t,.bool b]∧b=((da.length:Int) == 0)∧(b=true→t=⟨x9.toArray⟩):=by
     by_cases h:da.length=0
     ·rw [if_pos h,h]
      exact ⟨_,_,rfl,rfl,fun _=>rfl⟩
     ·rw [if_neg h]
      exact ⟨_,_,rfl,by rw [eq_comm,beq_eq_false_iff_ne];omega,fun h=>by cases h⟩
    rw [hres] at R0
    clear hres
    go_upto_region 26 with fail
    go_cut [16,17] (fun s16 s17 wx=>s16=.string t9∧s17=.bool b9∧Hid (Below w12.heap.size w12 wx))
    case first =>
     refine wp_region_held_drew (S:=(fun w'=>w'.cell? ⟨w1.heap.size,0,none⟩=some (.int .i64 kd)∧w'.cell? ⟨w1.heap.size,1,none⟩=some (.string ⟨nm.toArray⟩)∧w'.cell? ⟨w1.heap.size,2,none⟩=some (.int .i64 ps)∧w'.cell? ⟨w1.heap.size,3,none⟩=some (.int .i64 fl)∧w'.cell? ⟨w1.heap.size,4,none⟩=some (.string ⟨ty.toArray⟩)∧w'.cell? ⟨w1.heap.size,5,none⟩=some (.string ⟨vl.toArray⟩)∧w'.cell? ⟨w1.heap.size,6,none⟩=some (.slice ua cs.length uc))) (by kernel_rfl) ⟨c0,c1,c2,c3,c4,c5,c6⟩ (fun hS0=>?_)
     have HKz0:=Ld ((Below.refl w12.heap.size w12).drew)
     clear c0 c1 c2 c3 c4 c5 c6
     refine HW 0 119 (.agg #[.int .i64 kd,.string ⟨nm.toArray⟩,.int .i64 ps,.int .i64 fl,.string ⟨ty.toArray⟩,.string ⟨vl.toArray⟩,.slice ua cs.length uc]) hS0 (fun W hSW=>?_) ?_
     ·(try dsimp only at hSW);(try obtain ⟨hSA,hSB⟩:=hSW);go_simp
     simp only [Act.put,eA,eB,eC]
     refine HW 2 121 (u8) hS0 (fun W hSW=>?_) ?_
     ·(try dsimp only at hSW);(try obtain ⟨hSA,hSB⟩:=hSW);go_simp
     simp only [Act.put,eA,eB,eC]
     refine HW 5 124 (.slice (some ⟨g4,0,none⟩) (argsL cs.length).length cap4) hS0 (fun W hSW=>?_) ?_
     ·(try dsimp only at hSW);(try obtain ⟨hSA,hSB⟩:=hSW);go_simp
     simp only [Act.put,eA,eB,eC]
     refine HW 7 126 (.int .i64 j) hS0 (fun W hSW=>?_) ?_
     ·(try dsimp only at hSW);(try obtain ⟨hSA,hSB⟩:=hSW);go_simp
     simp only [Act.put,eA,eB,eC]
     generalize hz0':w12.drew=z0 at HKz0 ⊢
     clear hz0' hS0
     refine wpAnyH_ready (rs:=[1,4]) (by kernel_rfl) (by simp) (AllReadyH.cons rfl (fun K hK=>?_) (AllReadyH.cons rfl (fun K hK=>?_) (AllReadyH.nil)))
     ·rw [if_pos (by rfl)]
      go_simp
      have hl1:=World.ownsRow_lit (base:=z0.heap.size) (e:=9) (size:=1) z0 #[] 0 (Nat.le_refl _) (by decide) (by simp)
      have hbz1:=(Below.refl z0.heap.size z0).alloc (Nat.le_refl _) (.cells #[] 9)
      generalize hgz1:(z0.alloc (.cells #[] 9))=z1 at hl1 hbz1 ⊢
      clear hgz1
      have HKz1:=Ld (HKz0.out.trans (hbz1.mono HKz0.out.size))
      refine hK.out _ _ (HA1.out _ (HWW12.out.trans (HKz1.out.mono HWW12.out.size))) (fun hSz1=>?_)
      clear hK K
      try simp only [Act.put,eA,eB,eC]
      refine wpAnyH_ready (rs:=[3,4]) (by kernel_rfl) (by simp) (AllReadyH.cons rfl (fun K hK=>?_) (AllReadyH.cons rfl (fun K hK=>?_) (AllReadyH.nil)))
      ·refine step_append_fresh (by rfl) _ _ (by rfl) (by rfl) (by rfl) hl1 (own_below HLq.out HKz1.out) (by rw [List.length_replicate];omega) ?_;intro b1 v1 z2 hr1 hbz2
       have HKz2:=Ld (HKz1.out.trans (hbz2.mono HKz1.out.size))
       refine hK.out _ _ (HA1.out _ (HWW12.out.trans (HKz2.out.mono HWW12.out.size))) (fun hSz2=>?_)
       clear hK K
       try simp only [Act.put,eA,eB,eC]
       refine wpAnyH_ready (rs:=[4]) (by kernel_rfl) (by simp) (AllReadyH.cons rfl (fun K hK=>?_) (AllReadyH.nil))
       rw [if_pos (by rfl)]
       go_simp
       have hl2:=World.ownsRow_lit (base:=z2.heap.size) (e:=9) (size:=1) z2 #[] 0 (Nat.le_refl _) (by decide) (by simp)
       have hbz3:=(Below.refl z2.heap.size z2).alloc (Nat.le_refl _) (.cells #[] 9)
       generalize hgz3:(z2.alloc (.cells #[] 9))=z3 at hl2 hbz3 ⊢
       clear hgz3
       have hr1:=own_below hr1 hbz3
       have HKz3:=Ld (HKz2.out.trans (hbz3.mono HKz2.out.size))
       refine hK.out _ _ (HA1.out _ (HWW12.out.trans (HKz3.out.mono HWW12.out.size))) (fun hSz3=>?_)
       clear hK K
       try simp only [Act.put,eA,eB,eC]
       refine wpAnyH_ready (rs:=[6]) (by kernel_rfl) (by simp) (AllReadyH.cons rfl (fun K hK=>?_) (AllReadyH.nil))
       refine step_append_fresh (by rfl) _ _ (by rfl) (by rfl) (by rfl) hl2 (own_below HAq.out HKz3.out) (by rw [argsL_len];omega) ?_;intro b2 v2 z4 hr2 hbz4
       have hr1:=own_below hr1 hbz4
       have HKz4:=Ld (HKz3.out.trans (hbz4.mono HKz3.out.size))
       refine hK.out _ _ (HA1.out _ (HWW12.out.trans (HKz4.out.mono HWW12.out.size))) (fun hSz4=>?_)
       clear hK K
       try simp only [Act.put,eA,eB,eC]
       refine wpAnyH_ready (rs:=[8]) (by kernel_rfl) (by simp) (AllReadyH.cons rfl (fun K hK=>?_) AllReadyH.nil)
       rw [if_pos (by rfl)]
       go_simp
       (with_reducible refine (R0.out _ _ _ _ _ _ _ (HB2.out.trans ((HWW12.out.trans (HKz4.out.mono HWW12.out.size)).mono HB2.out.size)) (own_below HU12.out (HWW12.out.trans (HKz4.out.mono HWW12.out.size))) hr1 hr2).mono ?_);rintro e zE ⟨rfl,hbE⟩
       have HKE:=Ld (HKz4.out.trans (hbE.mono HKz4.out.size))
       refine hK.out _ _ (HA1.out _ (HWW12.out.trans (HKE.out.mono HWW12.out.size))) (fun hSE=>?_)
       clear hK K
       try simp only [Act.put,eA,eB,eC]
       refine HW 9 118 (.tuple #[.string t9,.bool b9]) hSE (fun W hSW=>?_) ?_
       ·(try dsimp only at hSW);(try obtain ⟨hSA,hSB⟩:=hSW);go_simp
       simp only [Act.put,eA,eB,eC]
       refine HW 10 128 (.string t9) hSE (fun W hSW=>?_) ?_
       ·(try dsimp only at hSW);(try obtain ⟨hSA,hSB⟩:=hSW);go_simp
       simp only [Act.put,eA,eB,eC]
       refine HW 11 129 (.bool b9) hSE (fun W hSW=>?_) ?_
       ·(try dsimp only at hSW);(try obtain ⟨hSA,hSB⟩:=hSW);go_simp
       simp only [Act.put,eA,eB,eC]
       refine HW 12 16 (.string t9) hSE (fun W hSW=>?_) ?_
       ·(try dsimp only at hSW);(try obtain ⟨hSA,hSB⟩:=hSW);go_simp
       simp only [Act.put,eA,eB,eC]
       refine HW 13 17 (.bool b9) hSE (fun W hSW=>?_) ?_
       ·(try dsimp only at hSW);(try obtain ⟨hSA,hSB⟩:=hSW);go_simp
       simp only [Act.put,eA,eB,eC]
       refine wpAnyH_done (by kernel_rfl) ?_ _
       go_wp2_with fail
       go_meet
       exact ⟨rfl,by rw [hb9],HKE.out⟩
      ·rw [if_pos (by rfl)]
       go_simp
       have hl2:=World.ownsRow_lit (base:=z1.heap.size) (e:=9) (size:=1) z1 #[] 0 (Nat.le_refl _) (by decide) (by simp)
       have hbz2:=(Below.refl z1.heap.size z1).alloc (Nat.le_refl _) (.cells #[] 9)
       generalize hgz2:(z1.alloc (.cells #[] 9))=z2 at hl2 hbz2 ⊢
       clear hgz2
       have hl1:=own_below hl1 hbz2
       have HKz2:=Ld (HKz1.out.trans (hbz2.mono HKz1.out.size))
       refine hK.out _ _ (HA1.out _ (HWW12.out.trans (HKz2.out.mono HWW12.out.size))) (fun hSz2=>?_)
       clear hK K
       try simp only [Act.put,eA,eB,eC]
       refine wpAnyH_ready (rs:=[3]) (by kernel_rfl) (by simp) (AllReadyH.cons rfl (fun K hK=>?_) (AllReadyH.nil))
       refine step_append_fresh (by rfl) _ _ (by rfl) (by rfl) (by rfl) hl1 (own_below HLq.out HKz2.out) (by rw [List.length_replicate];omega) ?_;intro b1 v1 z3 hr1 hbz3
       have hl2:=own_below hl2 hbz3
       have HKz3:=Ld (HKz2.out.trans (hbz3.mono HKz2.out.size))
       refine hK.out _ _ (HA1.out _ (HWW12.out.trans (HKz3.out.mono HWW12.out.size))) (fun hSz3=>?_)
       clear hK K
       try simp only [Act.put,eA,eB,eC]
       refine wpAnyH_ready (rs:=[6]) (by kernel_rfl) (by simp) (AllReadyH.cons rfl (fun K hK=>?_) (AllReadyH.nil))
       refine step_append_fresh (by rfl) _ _ (by rfl) (by rfl) (by rfl) hl2 (own_below HAq.out HKz3.out) (by rw [argsL_len];omega) ?_;intro b2 v2 z4 hr2 hbz4
       have hr1:=own_below hr1 hbz4
       have HKz4:=Ld (HKz3.out.trans (hbz4.mono HKz3.out.size))
       refine hK.out _ _ (HA1.out _ (HWW12.out.trans (HKz4.out.mono HWW12.out.size))) (fun hSz4=>?_)
       clear hK K
       try simp only [Act.put,eA,eB,eC]
       refine wpAnyH_ready (rs:=[8]) (by kernel_rfl) (by simp) (AllReadyH.cons rfl (fun K hK=>?_) AllReadyH.nil)
       rw [if_pos (by rfl)]
       go_simp
       (with_reducible refine (R0.out _ _ _ _ _ _ _ (HB2.out.trans ((HWW12.out.trans (HKz4.out.mono HWW12.out.size)).mono HB2.out.size)) (own_below HU12.out (HWW12.out.trans (HKz4.out.mono HWW12.out.size))) hr1 hr2).mono ?_);rintro e zE ⟨rfl,hbE⟩
       have HKE:=Ld (HKz4.out.trans (hbE.mono HKz4.out.size))
       refine hK.out _ _ (HA1.out _ (HWW12.out.trans (HKE.out.mono HWW12.out.size))) (fun hSE=>?_)
       clear hK K
       try simp only [Act.put,eA,eB,eC]
       refine HW 9 118 (.tuple #[.string t9,.bool b9]) hSE (fun W hSW=>?_) ?_
       ·(try dsimp only at hSW);(try obtain ⟨hSA,hSB⟩:=hSW);go_simp
       simp only [Act.put,eA,eB,eC]
       refine HW 10 128 (.string t9) hSE (fun W hSW=>?_) ?_
       ·(try dsimp only at hSW);(try obtain ⟨hSA,hSB⟩:=hSW);go_simp
       simp only [Act.put,eA,eB,eC]
       refine HW 11 129 (.bool b9) hSE (fun W hSW=>?_) ?_
       ·(try dsimp only at hSW);(try obtain ⟨hSA,hSB⟩:=hSW);go_simp
       simp only [Act.put,eA,eB,eC]
       refine HW 12 16 (.string t9) hSE (fun W hSW=>?_) ?_
       ·(try dsimp only at hSW);(try obtain ⟨hSA,hSB⟩:=hSW);go_simp
       simp only [Act.put,eA,eB,eC]
       refine HW 13 17 (.bool b9) hSE (fun W hSW=>?_) ?_
       ·(try dsimp only at hSW);(try obtain ⟨hSA,hSB⟩:=hSW);go_simp
       simp only [Act.put,eA,eB,eC]
       refine wpAnyH_done (by kernel_rfl) ?_ _
       go_wp2_with fail
       go_meet
       exact ⟨rfl,by rw [hb9],HKE.out⟩
     ·rw [if_pos (by rfl)]
      go_simp
      have hl2:=World.ownsRow_lit (base:=z0.heap.size) (e:=9) (size:=1) z0 #[] 0 (Nat.le_refl _) (by decide) (by simp)
      have hbz1:=(Below.refl z0.heap.size z0).alloc (Nat.le_refl _) (.cells #[] 9)
      generalize hgz1:(z0.alloc (.cells #[] 9))=z1 at hl2 hbz1 ⊢
      clear hgz1
      have HKz1:=Ld (HKz0.out.trans (hbz1.mono HKz0.out.size))
      refine hK.out _ _ (HA1.out _ (HWW12.out.trans (HKz1.out.mono HWW12.out.size))) (fun hSz1=>?_)
      clear hK K
      try simp only [Act.put,eA,eB,eC]
      refine wpAnyH_ready (rs:=[1]) (by kernel_rfl) (by simp) (AllReadyH.cons rfl (fun K hK=>?_) (AllReadyH.nil))
      rw [if_pos (by rfl)]
      go_simp
      have hl1:=World.ownsRow_lit (base:=z1.heap.size) (e:=9) (size:=1) z1 #[] 0 (Nat.le_refl _) (by decide) (by simp)
      have hbz2:=(Below.refl z1.heap.size z1).alloc (Nat.le_refl _) (.cells #[] 9)
      generalize hgz2:(z1.alloc (.cells #[] 9))=z2 at hl1 hbz2 ⊢
      clear hgz2
      have hl2:=own_below hl2 hbz2
      have HKz2:=Ld (HKz1.out.trans (hbz2.mono HKz1.out.size))
      refine hK.out _ _ (HA1.out _ (HWW12.out.trans (HKz2.out.mono HWW12.out.size))) (fun hSz2=>?_)
      clear hK K
      try simp only [Act.put,eA,eB,eC]
      refine wpAnyH_ready (rs:=[3]) (by kernel_rfl) (by simp) (AllReadyH.cons rfl (fun K hK=>?_) (AllReadyH.nil))
      refine step_append_fresh (by rfl) _ _ (by rfl) (by rfl) (by rfl) hl1 (own_below HLq.out HKz2.out) (by rw [List.length_replicate];omega) ?_;intro b1 v1 z3 hr1 hbz3
      have hl2:=own_below hl2 hbz3
      have HKz3:=Ld (HKz2.out.trans (hbz3.mono HKz2.out.size))
      refine hK.out _ _ (HA1.out _ (HWW12.out.trans (HKz3.out.mono HWW12.out.size))) (fun hSz3=>?_)
      clear hK K
      try simp only [Act.put,eA,eB,eC]
      refine wpAnyH_ready (rs:=[6]) (by kernel_rfl) (by simp) (AllReadyH.cons rfl (fun K hK=>?_) (AllReadyH.nil))
      refine step_append_fresh (by rfl) _ _ (by rfl) (by rfl) (by rfl) hl2 (own_below HAq.out HKz3.out) (by rw [argsL_len];omega) ?_;intro b2 v2 z4 hr2 hbz4
      have hr1:=own_below hr1 hbz4
      have HKz4:=Ld (HKz3.out.trans (hbz4.mono HKz3.out.size))
      refine hK.out _ _ (HA1.out _ (HWW12.out.trans (HKz4.out.mono HWW12.out.size))) (fun hSz4=>?_)
      clear hK K
      try simp only [Act.put,eA,eB,eC]
      refine wpAnyH_ready (rs:=[8]) (by kernel_rfl) (by simp) (AllReadyH.cons rfl (fun K hK=>?_) AllReadyH.nil)
      rw [if_pos (by rfl)]
      go_simp
      (with_reducible refine (R0.out _ _ _ _ _ _ _ (HB2.out.trans ((HWW12.out.trans (HKz4.out.mono HWW12.out.size)).mono HB2.out.size)) (own_below HU12.out (HWW12.out.trans (HKz4.out.mono HWW12.out.size))) hr1 hr2).mono ?_);rintro e zE ⟨rfl,hbE⟩
      have HKE:=Ld (HKz4.out.trans (hbE.mono HKz4.out.size))
      refine hK.out _ _ (HA1.out _ (HWW12.out.trans (HKE.out.mono HWW12.out.size))) (fun hSE=>?_)
      clear hK K
      try simp only [Act.put,eA,eB,eC]
      refine HW 9 118 (.tuple #[.string t9,.bool b9]) hSE (fun W hSW=>?_) ?_
      ·(try dsimp only at hSW);(try obtain ⟨hSA,hSB⟩:=hSW);go_simp
      simp only [Act.put,eA,eB,eC]
      refine HW 10 128 (.string t9) hSE (fun W hSW=>?_) ?_
      ·(try dsimp only at hSW);(try obtain ⟨hSA,hSB⟩:=hSW);go_simp
      simp only [Act.put,eA,eB,eC]
      refine HW 11 129 (.bool b9) hSE (fun W hSW=>?_) ?_
      ·(try dsimp only at hSW);(try obtain ⟨hSA,hSB⟩:=hSW);go_simp
      simp only [Act.put,eA,eB,eC]
      refine HW 12 16 (.string t9) hSE (fun W hSW=>?_) ?_
      ·(try dsimp only at hSW);(try obtain ⟨hSA,hSB⟩:=hSW);go_simp
      simp only [Act.put,eA,eB,eC]
      refine HW 13 17 (.bool b9) hSE (fun W hSW=>?_) ?_
      ·(try dsimp only at hSW);(try obtain ⟨hSA,hSB⟩:=hSW);go_simp
      simp only [Act.put,eA,eB,eC]
      refine wpAnyH_done (by kernel_rfl) ?_ _
      go_wp2_with fail
      go_meet
      exact ⟨rfl,by rw [hb9],HKE.out⟩
    case rest =>
     obtain ⟨rfl,rfl,HKE⟩:=hcut
     have HWE:=Ld (HW12.out.trans (HKE.out.mono HW12.out.size))
     have y9:=HY9.out _ HKE.out
     clear R0 HLq HAq HY9 HA1 HA2 HU12 HU2
     cases b9
     ·have e4:((da.length:Int) == 0)=false:=hb9.symm
      clear hb9 ht9
      go_wp2
      go_roundw
      case rel=>exact ⟨j+1,by omega,by go_num,HWE.out⟩
      case measure=>simp [intOf];omega
     ·have e4:((da.length:Int) == 0)=true:=hb9.symm
      have e5:t9=⟨x9.toArray⟩:=ht9 rfl
      clear hb9 ht9
      subst e5
      go_wp2
      go_roundw
      case rel=>exact ⟨j+1,by omega,by go_num,HWE.out⟩
      case measure=>simp [intOf];omega
end Go.Proofs.YtgonemalnljabaaGreatDoor
