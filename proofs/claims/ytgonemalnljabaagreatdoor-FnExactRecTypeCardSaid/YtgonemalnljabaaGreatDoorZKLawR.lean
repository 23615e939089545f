/- KLawR -/
import Derived.Deep.RegionHeld3
import Derived.Test.YtgonemalnljabaaGreatDoorZKB
import Derived.Test.YtgonemalnljabaaGreatDoorZJ0
set_option maxRecDepth 100000
set_option maxHeartbeats 16000000
set_option linter.unusedSimpArgs false
set_option linter.unusedVariables false
namespace Go.Proofs.YtgonemalnljabaaGreatDoor
open Go.ChangeShapes Go.WideShapes Go.ChangeAt Go.RowKit
theorem putRes_formK(o:Option (List UInt8)):∃ t b,yW o=.tuple #[.string t,.bool b]:=by
 cases o with
|none=>exact⟨_,_,rfl⟩
|some t=>exact⟨_,_,rfl⟩
theorem lawRecType{d:Dc}{u:Value}(w:World)(hu:CameC w u d.ctors)(hf:d.Fits)
  (hI:d.Small→∀ (W:World) (b:Nat) (v:Value),Below w.heap.size w W→W.ownsRow b 42 2 v d.ctors.length (xI d.ctors)→Calls Tryz.prog 34 #[d.val v] W fun e w'=>e=.returned (yW (recType d))∧Below W.heap.size W w') :
  Calls Tryz.prog 13 #[d.val u] w fun e w'=>e=.returned (.bool true)∧Below w.heap.size w w':=by
 obtain⟨a0,cap,_,_,hsl,_⟩:=id hu
 have HSZ:Hid (∀ W:World,Below w.heap.size w W→Calls Tryz.prog 42 #[d.val u,.int .i64 1048576] W fun e w'=>Below W.heap.size W w'∧(e=.returned (.int .i64 (-1))∨∃ r:Nat,e=.returned (.int .i64 (r:Int))∧r+d.size=1048576)):=fun W hb=>szDecl (hu.below hb) hf 1048576 (Nat.le_refl _)
 have HSm:Hid (d.size≤1048576→d.Small):=fun h=>Dc.small h
 have HTo:=Ld fun (hn:d.ctors.length≤1048576) (W:World) (hb:Below w.heap.size w W)=>toDecl (hu.below hb) hn
 have HSp:=Ld fun (hs:d.Small) (W:World) (b:Nat) (v:Value) (h:W.ownsRow b 42 2 v d.ctors.length (xI d.ctors))=>specRecType h hs
 have HEq:=Ld fun (hn:d.ctors.length≤1048576) (W:World) (b1 b2:Nat) (v1 v2:Value) (h1:W.ownsRow b1 42 2 v1 d.ctors.length (xI d.ctors)) (h2:W.ownsRow b2 42 2 v2 d.ctors.length (xI d.ctors))=>eqDecl h1 h2 hn
 have HI:=Ld hI
 unfold DRes at HTo
 obtain⟨r,hr⟩:∃ r,recType d=r:=⟨_,rfl⟩
 obtain⟨tt,oo,hres⟩:=putRes_formK r
 rw[hr,hres] at HSp HI
 clear hu hf hI hr hres
 obtain⟨kd,nm,ps,fl,ty,vl,cs⟩:=d
 have hval:∀ u,Dc.val ⟨kd,nm,ps,fl,ty,vl,cs⟩ u=.agg #[.int .i64 kd,.string ⟨nm.toArray⟩,.int .i64 ps,.int .i64 fl,.string ⟨ty.toArray⟩,.string ⟨vl.toArray⟩,u]:=fun u=>rfl
 simp only[hval] at HSZ HTo HSp HEq HI ⊢
 simp only at hsl HSZ HTo HSp HEq HI
 subst hsl
 have HB0:=Ld (zI w (.cells #[.int .i64 kd,.string ⟨nm.toArray⟩,.int .i64 ps,.int .i64 fl,.string ⟨ty.toArray⟩,.string ⟨vl.toArray⟩,.slice a0 cs.length cap] 54))
 have HA:=Ld (anyBox (w:=w) (kd:=kd) (ps:=ps) (fl:=fl) (nm:=nm) (ty:=ty) (vl:=vl) (u:=.slice a0 cs.length cap) (T:=54))
 have HX:=Ld fun w u=>anyBox (w:=w) (kd:=kd) (ps:=ps) (fl:=fl) (nm:=nm) (ty:=ty) (vl:=vl) (u:=u) (T:=36)
 clear hval
 go_enter Tryz.func13,Tryz.ntmps13
 go_wp2_with fail
 (with_reducible refine(HSZ.out _ HB0.out).mono ?_);rintro e w1 ⟨hb1,(rfl|⟨z,rfl,hz⟩)⟩
 ·have HB1:=Ld (HB0.out.trans (hb1.mono HB0.out.size))
  clear hb1
  go_wp2
  go_ret
  exact⟨rfl,HB1.out⟩
 have hsm:=HSm.out (by omega)
 have hn:=hsm.ctors
 simp only at hn
 have HI2:=Ld (HI.out hsm)
 have HSp2:=Ld (HSp.out hsm)
 have HTo2:=Ld (HTo.out hn)
 have HEq2:=Ld (HEq.out hn)
 have dz:decide ((z:Int)<0)=false:=decide_eq_false (by omega)
 have HB1:=Ld (HB0.out.trans (hb1.mono HB0.out.size))
 have HA1:=Ld hb1
 obtain⟨c0,c1,c2,c3,c4,c5,c6⟩:=HA.out _ hb1
 clear hb1 hz hsm HI HSp HTo HEq HSZ HSm
 go_wp2_with fail
 (with_reducible refine(HTo2.out _ HB1.out).mono ?_);rintro e w2 ⟨u1,rfl,hu1,hb2⟩
 have HB2:=Ld (HB1.out.trans (hb2.mono HB1.out.size))
 have HA2:=Ld (HA1.out.trans (hb2.mono HA1.out.size))
 obtain⟨ua,uc,rfl⟩:=zR hu1
 clear hb2 c0 c1 c2 c3 c4 c5 c6
 go_wp2_with fail
 (with_reducible refine(HSp2.out _ _ _ hu1).mono ?_);rintro e w3 ⟨rfl,hb3⟩
 have HB3:=Ld (HB2.out.trans (hb3.mono HB2.out.size))
 have HA3:=Ld (HA2.out.trans (hb3.mono HA2.out.size))
 obtain⟨c0,c1,c2,c3,c4,c5,c6⟩:=HA.out _ HA3.out
 clear hb3 hu1
 go_wp2_with fail
 (with_reducible refine(HTo2.out _ HB3.out).mono ?_);rintro e w4 ⟨u2,rfl,hu2,hb4⟩
 have HB4:=Ld (HB3.out.trans (hb4.mono HB3.out.size))
 have HA4:=Ld (HA3.out.trans (hb4.mono HA3.out.size))
 obtain⟨va,vc,rfl⟩:=zR hu2
 have bx:=zI w4 (.cells #[.int .i64 kd,.string ⟨nm.toArray⟩,.int .i64 ps,.int .i64 fl,.string ⟨ty.toArray⟩,.string ⟨vl.toArray⟩,.slice va cs.length vc] 36)
 have hrow5:=zA hu2 bx
 have HB5:=Ld (HB4.out.trans (bx.mono HB4.out.size))
 have HA5:=Ld (HA4.out.trans (bx.mono HA4.out.size))
 have HX5:=Ld (HX.out w4 (.slice va cs.length vc))
 clear hb4 hu2 c0 c1 c2 c3 c4 c5 c6 bx HX
 go_wp2_with fail
 (with_reducible refine(HI2.out _ _ _ HB5.out hrow5).mono ?_);rintro e w6 ⟨rfl,hb6⟩
 have hrow6:=zA hrow5 hb6
 have HB6:=Ld (HB5.out.trans (hb6.mono HB5.out.size))
 have HA6:=Ld (HA5.out.trans (hb6.mono HA5.out.size))
 obtain⟨p0,p1,p2,p3,p4,p5,p6⟩:=HA.out _ HA6.out
 obtain⟨q0,q1,q2,q3,q4,q5,q6⟩:=HX5.out _ hb6
 have hb66:=Ld hb6
 clear hb6 hrow5 HI2 HSp2
 skip
 go_wp2
 skip
 go_region_held3 (fun w'=>(w'.cell? ⟨w.heap.size,0,none⟩=some (.int .i64 kd)∧w'.cell? ⟨w.heap.size,1,none⟩=some (.string ⟨nm.toArray⟩)∧w'.cell? ⟨w.heap.size,2,none⟩=some (.int .i64 ps)∧w'.cell? ⟨w.heap.size,3,none⟩=some (.int .i64 fl)∧w'.cell? ⟨w.heap.size,4,none⟩=some (.string ⟨ty.toArray⟩)∧w'.cell? ⟨w.heap.size,5,none⟩=some (.string ⟨vl.toArray⟩)∧w'.cell? ⟨w.heap.size,6,none⟩=some (.slice a0 cs.length cap))∧(w'.cell? ⟨w4.heap.size,0,none⟩=some (.int .i64 kd)∧w'.cell? ⟨w4.heap.size,1,none⟩=some (.string ⟨nm.toArray⟩)∧w'.cell? ⟨w4.heap.size,2,none⟩=some (.int .i64 ps)∧w'.cell? ⟨w4.heap.size,3,none⟩=some (.int .i64 fl)∧w'.cell? ⟨w4.heap.size,4,none⟩=some (.string ⟨ty.toArray⟩)∧w'.cell? ⟨w4.heap.size,5,none⟩=some (.string ⟨vl.toArray⟩)∧w'.cell? ⟨w4.heap.size,6,none⟩=some (.slice va cs.length vc))) (first|exact X8|exact X7|exact⟨⟨p0,p1,p2,p3,p4,p5,p6⟩,q0,q1,q2,q3,q4,q5,q6⟩)
  (first|(go_at_call 44;(with_reducible refine(HTo2.out _ HB6.out.drew).mono ?_);rintro e w7 ⟨u3,rfl,hu3,hb7⟩;have hd7:=hb66.out.drew.trans (hb7.mono hb66.out.drew.size);have X7:=And.intro (HA.out _ (HA6.out.drew.trans (hb7.mono HA6.out.drew.size))) (HX5.out _ hd7);obtain⟨wa,wc,rfl⟩:=zR hu3;have hrow7:=zA (w:=w6.drew) hrow6 hb7;have HB7:=Ld (HB6.out.drew.trans (hb7.mono HB6.out.drew.size)))|(go_at_call 45;(with_reducible refine(HEq2.out _ _ _ _ _ hrow7 hu3).mono ?_);rintro e w8 ⟨rfl,hb8⟩;have X8:=And.intro (HA.out _ ((HA6.out.drew.trans (hb7.mono HA6.out.drew.size)).trans (hb8.mono (HA6.out.drew.trans (hb7.mono HA6.out.drew.size)).size))) (HX5.out _ (hd7.trans (hb8.mono hd7.size)));have HB8:=Ld (HB7.out.trans (hb8.mono HB7.out.size))))
 go_wp2
 go_ret
 exact⟨rfl,HB8.out⟩
end Go.Proofs.YtgonemalnljabaaGreatDoor
