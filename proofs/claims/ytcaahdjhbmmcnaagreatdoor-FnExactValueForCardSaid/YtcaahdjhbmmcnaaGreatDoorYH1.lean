/- HC1 HC2 HC3 HC4w -/
import Derived.Shelf.Abstract
import Derived.Deep.RegionHeld3
import Derived.Test.YtcaahdjhbmmcnaaGreatDoorYKC
import Derived.Test.YtcaahdjhbmmcnaaGreatDoorYP1
import Derived.Test.YtcaahdjhbmmcnaaGreatDoorYR1
set_option maxRecDepth 100000
set_option maxHeartbeats 16000000
set_option linter.unusedSimpArgs false
set_option linter.unusedVariables false
namespace Go.Proofs.YtcaahdjhbmmcnaaGreatDoor
open Go.ChangeShapes Go.WideShapes Go.ChangeAt Go.RowKit
def MethC (T:TypeId) (fn:FuncId):Prop :=
 (∀ n x w,(method (n+1) T x "loop.example/g00963/impl.copied").run Tryz.prog w=.ok (fn,x) w)/\∀ args w,(callFunc fn args).run Tryz.prog w=.ok (.enter fn args) w
theorem methCVar:MethC 202 323 := ⟨fun n x w=>by kernel_rfl,Go.Proofs.enters_of Tryz.func323 (by kernel_rfl) rfl⟩
theorem methCSort:MethC 120 319 := ⟨fun n x w=>by kernel_rfl,Go.Proofs.enters_of Tryz.func319 (by kernel_rfl) rfl⟩
theorem methCConst:MethC 124 321 := ⟨fun n x w=>by kernel_rfl,Go.Proofs.enters_of Tryz.func321 (by kernel_rfl) rfl⟩
theorem methCApp:MethC 212 325 := ⟨fun n x w=>by kernel_rfl,Go.Proofs.enters_of Tryz.func325 (by kernel_rfl) rfl⟩
theorem methCLam:MethC 215 328 := ⟨fun n x w=>by kernel_rfl,Go.Proofs.enters_of Tryz.func328 (by kernel_rfl) rfl⟩
theorem methCPi:MethC 218 330 := ⟨fun n x w=>by kernel_rfl,Go.Proofs.enters_of Tryz.func330 (by kernel_rfl) rfl⟩
theorem methCLet:MethC 221 332 := ⟨fun n x w=>by kernel_rfl,Go.Proofs.enters_of Tryz.func332 (by kernel_rfl) rfl⟩
def CopAns {σ:Type} (I:σ->World->Prop) (row:Option Nat) (W:World) (r:Tm × σ) (e:Ending) (W':World):Prop :=
 ∃ T x,e=.returned (.iface T x)/\IRep W' r.1 (.iface T x)/\I r.2 W'/\W.grownBy W' row
structure LeafOk {σ:Type} (f:σ->Tm->Nat->Tm × σ) (I:σ->World->Prop) (row:Option Nat) (P:Tm->Nat->Prop) (F:FuncId) (cap:Array Value):Prop where
 enters:∀ args w,(callFunc F args).run Tryz.prog w=.ok (.enter F args) w
 leaf:∀ t v W s b,P t b->I s W->IRep W t v->Calls Tryz.prog F (#[v,.int .i64 (b:Int)] ++ cap) W (CopAns I row W (f s t b))
 below:∀ s W W',I s W->Below W.heap.size W W'->I s W'
 free:∀ s W,I s W->NoStr W row
theorem copVar {F:FuncId} {cap:Array Value} {g:Nat} {b:Int} {W:World} {Q:Ending->World->Prop}
  (m2:∀ args w,(callFunc F args).run Tryz.prog w=.ok (.enter F args) w) (hc:Calls Tryz.prog F (#[.iface 202 (.pointer (some ⟨g,0,none⟩)),.int .i64 b] ++ cap) W fun e w'=>(∃ T x,e=.returned (.iface T x))/\Q e w') :
  Calls Tryz.prog 323 #[.pointer (some ⟨g,0,none⟩),.int .i64 b,.func (.func F) #[] cap] W Q:=by
 have f1:=Ld hc;clear hc;go_enter Tryz.func323,Tryz.ntmps323;go_wp2_with fail;(with_reducible refine f1.out.mono ?_);rintro e w1 ⟨⟨T,x,rfl⟩,hq⟩;go_wp2;exact hq
theorem copSort {F:FuncId} {cap:Array Value} {g:Nat} {b:Int} {W:World} {Q:Ending->World->Prop}
  (m2:∀ args w,(callFunc F args).run Tryz.prog w=.ok (.enter F args) w) (hc:Calls Tryz.prog F (#[.iface 120 (.pointer (some ⟨g,0,none⟩)),.int .i64 b] ++ cap) W fun e w'=>(∃ T x,e=.returned (.iface T x))/\Q e w') :
  Calls Tryz.prog 319 #[.pointer (some ⟨g,0,none⟩),.int .i64 b,.func (.func F) #[] cap] W Q:=by
 have f1:=Ld hc;clear hc;go_enter Tryz.func319,Tryz.ntmps319;go_wp2_with fail;(with_reducible refine f1.out.mono ?_);rintro e w1 ⟨⟨T,x,rfl⟩,hq⟩;go_wp2;exact hq
theorem copConst {F:FuncId} {cap:Array Value} {g:Nat} {b:Int} {W:World} {Q:Ending->World->Prop}
  (m2:∀ args w,(callFunc F args).run Tryz.prog w=.ok (.enter F args) w) (hc:Calls Tryz.prog F (#[.iface 124 (.pointer (some ⟨g,0,none⟩)),.int .i64 b] ++ cap) W fun e w'=>(∃ T x,e=.returned (.iface T x))/\Q e w') :
  Calls Tryz.prog 321 #[.pointer (some ⟨g,0,none⟩),.int .i64 b,.func (.func F) #[] cap] W Q:=by
 have f1:=Ld hc;clear hc;go_enter Tryz.func321,Tryz.ntmps321;go_wp2_with fail;(with_reducible refine f1.out.mono ?_);rintro e w1 ⟨⟨T,x,rfl⟩,hq⟩;go_wp2;exact hq
theorem copApp {σ:Type} {f:σ->Tm->Nat->Tm × σ} {I:σ->World->Prop} {row:Option Nat} (hbel:∀ s W W',I s W->Below W.heap.size W W'->I s W') (hfree:∀ s W,I s W->NoStr W row)
  {t0 t1:Tm} {T0 T1:TypeId} {x0 x1 fv:Value} {fn0 fn1:FuncId} {g b:Nat} {W:World} {s:σ}
  (hg:W.heap[g]?=some (.cells #[.iface T0 x0,.iface T1 x1] 214 (0,0))) (hb:b<=1000000)
  (m0:MethC T0 fn0) (k0:∀ W s,I s W->IRep W t0 (.iface T0 x0)->Calls Tryz.prog fn0 #[x0,.int .i64 ((b:Nat):Int),fv] W (CopAns I row W (t0.mapS f s b))) (h0:IRep W t0 (.iface T0 x0))
  (m1:MethC T1 fn1) (k1:∀ W s,I s W->IRep W t1 (.iface T1 x1)->Calls Tryz.prog fn1 #[x1,.int .i64 ((b:Nat):Int),fv] W (CopAns I row W (t1.mapS f s b))) (h1:IRep W t1 (.iface T1 x1))
  (hI:I s W) :
  Calls Tryz.prog 325 #[.pointer (some ⟨g,0,none⟩),.int .i64 (b:Int),fv] W (CopAns I row W (Tm.mapS f (.app t0 t1) s b)):=by
 obtain ⟨ma0,mb0⟩:=m0;obtain ⟨ma1,mb1⟩:=m1;have HBX:Hid (∀ w',W.grownBy w' row->w'.cell? ⟨g,0,none⟩=some (.iface T0 x0)/\w'.cell? ⟨g,1,none⟩=some (.iface T1 x1)):=fun w' hw'=>by
  have:=heap_grown hw' (hfree s W hI) (by decide) hg;exact ⟨by rw [Lib.cell_of_heap this];rfl,by rw [Lib.cell_of_heap this];rfl⟩
 have HD:Hid (W.grownBy W.drew row):=grownBy_of_below (below_drewN (bR _ _) 1) _;have HI0:Hid (I s W.drew):=hbel s W _ hI (below_drewN (bR _ _) 1);have HR0:Hid (IRep W.drew t0 (.iface T0 x0)):=h0.below (below_drewN (bR _ _) 1);have HR1:Hid (IRep W.drew t1 (.iface T1 x1)):=h1.below (below_drewN (bR _ _) 1);have X0:=HBX.out W (World.grownBy.refl _ _);have hbel':=Ld hbel;have hfree':=Ld hfree;have K0:=Ld k0;have K1:=Ld k1;have HE:Hid (Tm.mapS f (.app t0 t1) s b=(.app (t0.mapS f s b).1 (t1.mapS f (t0.mapS f s b).2 b).1,(t1.mapS f (t0.mapS f s b).2 b).2)):=rfl;rw [HE.out];have KK0:=Ld (K0.out);have KK1:=Ld (K1.out);clear h0 h1 k0 k1 KK0 KK1 hI hbel hfree hg HE;go_enter Tryz.func325,Tryz.ntmps325;go_wp2_with fail;go_region_held3 (fun w'=>w'.cell? ⟨g,0,none⟩=some (.iface T0 x0)/\w'.cell? ⟨g,1,none⟩=some (.iface T1 x1)) (first | exact X0 | exact X1 | exact X2 | exact X3)
  (first
   | (go_at_fn fn0;(with_reducible refine (K0.out _ _ HI0.out HR0.out).mono ?_);rintro e w1 ⟨U0,y0,rfl,q0,hI1,hG1⟩;have G1:=HD.out.trans hG1;have X1:=HBX.out _ G1;have HR1c1:=Ld (HR1.out.grown hG1 (hfree'.out _ _ HI0.out)))
   | (go_at_fn fn1;(with_reducible refine (K1.out _ _ hI1 HR1c1.out).mono ?_);rintro e w2 ⟨U1,y1,rfl,q1,hI2,hG2⟩;have G2:=G1.trans hG2;have X2:=HBX.out _ G2;have q0c2:=q0.grown hG2 (hfree'.out _ _ hI1);have X3:=HBX.out (w2.alloc (.cells #[.iface U0 y0,.iface U1 y1] 214)) (G2.trans (alloc_grown _ _ _))))
 go_wp2;go_ret;have BA:=Below.alloc (bR w2.heap.size w2) (nR _) (.cells #[.iface U0 y0,.iface U1 y1] 214);exact ⟨_,_,rfl,⟨w2.heap.size,_,_,rfl,heap_alloc_new _ _,q0c2.below BA,q1.below BA⟩,hbel'.out _ _ _ hI2 BA,G2.trans (alloc_grown _ _ _)⟩
theorem copLam {σ:Type} {f:σ->Tm->Nat->Tm × σ} {I:σ->World->Prop} {row:Option Nat} (hbel:∀ s W W',I s W->Below W.heap.size W W'->I s W') (hfree:∀ s W,I s W->NoStr W row)
  {t0 t1:Tm} {T0 T1:TypeId} {x0 x1 fv:Value} {fn0 fn1:FuncId} {g b:Nat} {W:World} {s:σ}
  (hg:W.heap[g]?=some (.cells #[.iface T0 x0,.iface T1 x1] 217 (0,0))) (hb:b<=1000000)
  (m0:MethC T0 fn0) (k0:∀ W s,I s W->IRep W t0 (.iface T0 x0)->Calls Tryz.prog fn0 #[x0,.int .i64 ((b:Nat):Int),fv] W (CopAns I row W (t0.mapS f s b))) (h0:IRep W t0 (.iface T0 x0))
  (m1:MethC T1 fn1) (k1:∀ W s,I s W->IRep W t1 (.iface T1 x1)->Calls Tryz.prog fn1 #[x1,.int .i64 (((b+1):Nat):Int),fv] W (CopAns I row W (t1.mapS f s (b+1)))) (h1:IRep W t1 (.iface T1 x1))
  (hI:I s W) :
  Calls Tryz.prog 328 #[.pointer (some ⟨g,0,none⟩),.int .i64 (b:Int),fv] W (CopAns I row W (Tm.mapS f (.lam t0 t1) s b)):=by
 obtain ⟨ma0,mb0⟩:=m0;obtain ⟨ma1,mb1⟩:=m1;have hw:IntKind.i64.wrap ((b:Int)+1)=(b:Int)+1:=IntWalk.i64_in _ (by omega);rw [show ((b+1:Nat):Int)=(b:Int)+1 by omega] at k1;have HBX:Hid (∀ w',W.grownBy w' row->w'.cell? ⟨g,0,none⟩=some (.iface T0 x0)/\w'.cell? ⟨g,1,none⟩=some (.iface T1 x1)):=fun w' hw'=>by
  have:=heap_grown hw' (hfree s W hI) (by decide) hg;exact ⟨by rw [Lib.cell_of_heap this];rfl,by rw [Lib.cell_of_heap this];rfl⟩
 have HD:Hid (W.grownBy W.drew row):=grownBy_of_below (below_drewN (bR _ _) 1) _;have HI0:Hid (I s W.drew):=hbel s W _ hI (below_drewN (bR _ _) 1);have HR0:Hid (IRep W.drew t0 (.iface T0 x0)):=h0.below (below_drewN (bR _ _) 1);have HR1:Hid (IRep W.drew t1 (.iface T1 x1)):=h1.below (below_drewN (bR _ _) 1);have X0:=HBX.out W (World.grownBy.refl _ _);have hbel':=Ld hbel;have hfree':=Ld hfree;have K0:=Ld k0;have K1:=Ld k1;have HE:Hid (Tm.mapS f (.lam t0 t1) s b=(.lam (t0.mapS f s b).1 (t1.mapS f (t0.mapS f s b).2 (b+1)).1,(t1.mapS f (t0.mapS f s b).2 (b+1)).2)):=rfl;rw [HE.out];have KK0:=Ld (K0.out);have KK1:=Ld (K1.out);clear h0 h1 k0 k1 KK0 KK1 hI hbel hfree hg HE;go_enter Tryz.func328,Tryz.ntmps328;go_wp2_with fail;go_region_held3 (fun w'=>w'.cell? ⟨g,0,none⟩=some (.iface T0 x0)/\w'.cell? ⟨g,1,none⟩=some (.iface T1 x1)) (first | exact X0 | exact X1 | exact X2 | exact X3)
  (first
   | (go_at_fn fn0;(with_reducible refine (K0.out _ _ HI0.out HR0.out).mono ?_);rintro e w1 ⟨U0,y0,rfl,q0,hI1,hG1⟩;have G1:=HD.out.trans hG1;have X1:=HBX.out _ G1;have HR1c1:=Ld (HR1.out.grown hG1 (hfree'.out _ _ HI0.out)))
   | (go_at_fn fn1;(with_reducible refine (K1.out _ _ hI1 HR1c1.out).mono ?_);rintro e w2 ⟨U1,y1,rfl,q1,hI2,hG2⟩;have G2:=G1.trans hG2;have X2:=HBX.out _ G2;have q0c2:=q0.grown hG2 (hfree'.out _ _ hI1);have X3:=HBX.out (w2.alloc (.cells #[.iface U0 y0,.iface U1 y1] 217)) (G2.trans (alloc_grown _ _ _))))
 go_wp2;go_ret;have BA:=Below.alloc (bR w2.heap.size w2) (nR _) (.cells #[.iface U0 y0,.iface U1 y1] 217);exact ⟨_,_,rfl,⟨w2.heap.size,_,_,rfl,heap_alloc_new _ _,q0c2.below BA,q1.below BA⟩,hbel'.out _ _ _ hI2 BA,G2.trans (alloc_grown _ _ _)⟩
theorem copPi {σ:Type} {f:σ->Tm->Nat->Tm × σ} {I:σ->World->Prop} {row:Option Nat} (hbel:∀ s W W',I s W->Below W.heap.size W W'->I s W') (hfree:∀ s W,I s W->NoStr W row)
  {t0 t1:Tm} {T0 T1:TypeId} {x0 x1 fv:Value} {fn0 fn1:FuncId} {g b:Nat} {W:World} {s:σ}
  (hg:W.heap[g]?=some (.cells #[.iface T0 x0,.iface T1 x1] 220 (0,0))) (hb:b<=1000000)
  (m0:MethC T0 fn0) (k0:∀ W s,I s W->IRep W t0 (.iface T0 x0)->Calls Tryz.prog fn0 #[x0,.int .i64 ((b:Nat):Int),fv] W (CopAns I row W (t0.mapS f s b))) (h0:IRep W t0 (.iface T0 x0))
  (m1:MethC T1 fn1) (k1:∀ W s,I s W->IRep W t1 (.iface T1 x1)->Calls Tryz.prog fn1 #[x1,.int .i64 (((b+1):Nat):Int),fv] W (CopAns I row W (t1.mapS f s (b+1)))) (h1:IRep W t1 (.iface T1 x1))
  (hI:I s W) :
  Calls Tryz.prog 330 #[.pointer (some ⟨g,0,none⟩),.int .i64 (b:Int),fv] W (CopAns I row W (Tm.mapS f (.pi t0 t1) s b)):=by
 obtain ⟨ma0,mb0⟩:=m0;obtain ⟨ma1,mb1⟩:=m1;have hw:IntKind.i64.wrap ((b:Int)+1)=(b:Int)+1:=IntWalk.i64_in _ (by omega);rw [show ((b+1:Nat):Int)=(b:Int)+1 by omega] at k1;have HBX:Hid (∀ w',W.grownBy w' row->w'.cell? ⟨g,0,none⟩=some (.iface T0 x0)/\w'.cell? ⟨g,1,none⟩=some (.iface T1 x1)):=fun w' hw'=>by
  have:=heap_grown hw' (hfree s W hI) (by decide) hg;exact ⟨by rw [Lib.cell_of_heap this];rfl,by rw [Lib.cell_of_heap this];rfl⟩
 have HD:Hid (W.grownBy W.drew row):=grownBy_of_below (below_drewN (bR _ _) 1) _;have HI0:Hid (I s W.drew):=hbel s W _ hI (below_drewN (bR _ _) 1);have HR0:Hid (IRep W.drew t0 (.iface T0 x0)):=h0.below (below_drewN (bR _ _) 1);have HR1:Hid (IRep W.drew t1 (.iface T1 x1)):=h1.below (below_drewN (bR _ _) 1);have X0:=HBX.out W (World.grownBy.refl _ _);have hbel':=Ld hbel;have hfree':=Ld hfree;have K0:=Ld k0;have K1:=Ld k1;have HE:Hid (Tm.mapS f (.pi t0 t1) s b=(.pi (t0.mapS f s b).1 (t1.mapS f (t0.mapS f s b).2 (b+1)).1,(t1.mapS f (t0.mapS f s b).2 (b+1)).2)):=rfl;rw [HE.out];have KK0:=Ld (K0.out);have KK1:=Ld (K1.out);clear h0 h1 k0 k1 KK0 KK1 hI hbel hfree hg HE;go_enter Tryz.func330,Tryz.ntmps330;go_wp2_with fail;go_region_held3 (fun w'=>w'.cell? ⟨g,0,none⟩=some (.iface T0 x0)/\w'.cell? ⟨g,1,none⟩=some (.iface T1 x1)) (first | exact X0 | exact X1 | exact X2 | exact X3)
  (first
   | (go_at_fn fn0;(with_reducible refine (K0.out _ _ HI0.out HR0.out).mono ?_);rintro e w1 ⟨U0,y0,rfl,q0,hI1,hG1⟩;have G1:=HD.out.trans hG1;have X1:=HBX.out _ G1;have HR1c1:=Ld (HR1.out.grown hG1 (hfree'.out _ _ HI0.out)))
   | (go_at_fn fn1;(with_reducible refine (K1.out _ _ hI1 HR1c1.out).mono ?_);rintro e w2 ⟨U1,y1,rfl,q1,hI2,hG2⟩;have G2:=G1.trans hG2;have X2:=HBX.out _ G2;have q0c2:=q0.grown hG2 (hfree'.out _ _ hI1);have X3:=HBX.out (w2.alloc (.cells #[.iface U0 y0,.iface U1 y1] 220)) (G2.trans (alloc_grown _ _ _))))
 go_wp2;go_ret;have BA:=Below.alloc (bR w2.heap.size w2) (nR _) (.cells #[.iface U0 y0,.iface U1 y1] 220);exact ⟨_,_,rfl,⟨w2.heap.size,_,_,rfl,heap_alloc_new _ _,q0c2.below BA,q1.below BA⟩,hbel'.out _ _ _ hI2 BA,G2.trans (alloc_grown _ _ _)⟩
theorem copLet {σ:Type} {f:σ->Tm->Nat->Tm × σ} {I:σ->World->Prop} {row:Option Nat} (hbel:∀ s W W',I s W->Below W.heap.size W W'->I s W') (hfree:∀ s W,I s W->NoStr W row)
  {t0 t1 t2:Tm} {T0 T1 T2:TypeId} {x0 x1 x2 fv:Value} {fn0 fn1 fn2:FuncId} {g b:Nat} {W:World} {s:σ}
  (hg:W.heap[g]?=some (.cells #[.iface T0 x0,.iface T1 x1,.iface T2 x2] 223 (0,0))) (hb:b<=1000000)
  (m0:MethC T0 fn0) (k0:∀ W s,I s W->IRep W t0 (.iface T0 x0)->Calls Tryz.prog fn0 #[x0,.int .i64 ((b:Nat):Int),fv] W (CopAns I row W (t0.mapS f s b))) (h0:IRep W t0 (.iface T0 x0))
  (m1:MethC T1 fn1) (k1:∀ W s,I s W->IRep W t1 (.iface T1 x1)->Calls Tryz.prog fn1 #[x1,.int .i64 ((b:Nat):Int),fv] W (CopAns I row W (t1.mapS f s b))) (h1:IRep W t1 (.iface T1 x1))
  (m2:MethC T2 fn2) (k2:∀ W s,I s W->IRep W t2 (.iface T2 x2)->Calls Tryz.prog fn2 #[x2,.int .i64 (((b+1):Nat):Int),fv] W (CopAns I row W (t2.mapS f s (b+1)))) (h2:IRep W t2 (.iface T2 x2))
  (hI:I s W) :
  Calls Tryz.prog 332 #[.pointer (some ⟨g,0,none⟩),.int .i64 (b:Int),fv] W (CopAns I row W (Tm.mapS f (.lett t0 t1 t2) s b)):=by
 obtain ⟨ma0,mb0⟩:=m0;obtain ⟨ma1,mb1⟩:=m1;obtain ⟨ma2,mb2⟩:=m2;have hw:IntKind.i64.wrap ((b:Int)+1)=(b:Int)+1:=IntWalk.i64_in _ (by omega);rw [show ((b+1:Nat):Int)=(b:Int)+1 by omega] at k2;have HBX:Hid (∀ w',W.grownBy w' row->w'.cell? ⟨g,0,none⟩=some (.iface T0 x0)/\w'.cell? ⟨g,1,none⟩=some (.iface T1 x1)/\w'.cell? ⟨g,2,none⟩=some (.iface T2 x2)):=fun w' hw'=>by
  have:=heap_grown hw' (hfree s W hI) (by decide) hg;exact ⟨by rw [Lib.cell_of_heap this];rfl,by rw [Lib.cell_of_heap this];rfl,by rw [Lib.cell_of_heap this];rfl⟩
 have HD:Hid (W.grownBy W.drew row):=grownBy_of_below (below_drewN (bR _ _) 1) _;have HI0:Hid (I s W.drew):=hbel s W _ hI (below_drewN (bR _ _) 1);have HR0:Hid (IRep W.drew t0 (.iface T0 x0)):=h0.below (below_drewN (bR _ _) 1);have HR1:Hid (IRep W.drew t1 (.iface T1 x1)):=h1.below (below_drewN (bR _ _) 1);have HR2:Hid (IRep W.drew t2 (.iface T2 x2)):=h2.below (below_drewN (bR _ _) 1);have X0:=HBX.out W (World.grownBy.refl _ _);have hbel':=Ld hbel;have hfree':=Ld hfree;have K0:=Ld k0;have K1:=Ld k1;have K2:=Ld k2;have HE:Hid (Tm.mapS f (.lett t0 t1 t2) s b=(.lett (t0.mapS f s b).1 (t1.mapS f (t0.mapS f s b).2 b).1 (t2.mapS f (t1.mapS f (t0.mapS f s b).2 b).2 (b+1)).1,(t2.mapS f (t1.mapS f (t0.mapS f s b).2 b).2 (b+1)).2)):=rfl;rw [HE.out];have KK0:=Ld (K0.out);have KK1:=Ld (K1.out);have KK2:=Ld (K2.out);clear h0 h1 h2 k0 k1 k2 KK0 KK1 KK2 hI hbel hfree hg HE;go_enter Tryz.func332,Tryz.ntmps332;go_wp2_with fail;go_region_held3 (fun w'=>w'.cell? ⟨g,0,none⟩=some (.iface T0 x0)/\w'.cell? ⟨g,1,none⟩=some (.iface T1 x1)/\w'.cell? ⟨g,2,none⟩=some (.iface T2 x2)) (first | exact X0 | exact X1 | exact X2 | exact X3 | exact X4)
  (first
   | (go_at_fn fn0;(with_reducible refine (K0.out _ _ HI0.out HR0.out).mono ?_);rintro e w1 ⟨U0,y0,rfl,q0,hI1,hG1⟩;have G1:=HD.out.trans hG1;have X1:=HBX.out _ G1;have HR1c1:=Ld (HR1.out.grown hG1 (hfree'.out _ _ HI0.out));have HR2c1:=Ld (HR2.out.grown hG1 (hfree'.out _ _ HI0.out)))
   | (go_at_fn fn1;(with_reducible refine (K1.out _ _ hI1 HR1c1.out).mono ?_);rintro e w2 ⟨U1,y1,rfl,q1,hI2,hG2⟩;have G2:=G1.trans hG2;have X2:=HBX.out _ G2;have HR2c2:=Ld (HR2c1.out.grown hG2 (hfree'.out _ _ hI1));have q0c2:=q0.grown hG2 (hfree'.out _ _ hI1))
   | (go_at_fn fn2;(with_reducible refine (K2.out _ _ hI2 HR2c2.out).mono ?_);rintro e w3 ⟨U2,y2,rfl,q2,hI3,hG3⟩;have G3:=G2.trans hG3;have X3:=HBX.out _ G3;have q0c3:=q0c2.grown hG3 (hfree'.out _ _ hI2);have q1c3:=q1.grown hG3 (hfree'.out _ _ hI2);have X4:=HBX.out (w3.alloc (.cells #[.iface U0 y0,.iface U1 y1,.iface U2 y2] 223)) (G3.trans (alloc_grown _ _ _))))
 go_wp2;go_ret;have BA:=Below.alloc (bR w3.heap.size w3) (nR _) (.cells #[.iface U0 y0,.iface U1 y1,.iface U2 y2] 223);exact ⟨_,_,rfl,⟨w3.heap.size,_,_,_,rfl,heap_alloc_new _ _,q0c3.below BA,q1c3.below BA,q2.below BA⟩,hbel'.out _ _ _ hI3 BA,G3.trans (alloc_grown _ _ _)⟩
def copFn:Tm->FuncId
 | .var _=>323
 | .sort _=>319
 | .const _ _=>321
 | .app _ _=>325
 | .lam _ _=>328
 | .pi _ _=>330
 | .lett _ _ _=>332
theorem copMeth {W:World} {t:Tm} {T:TypeId} {x:Value} (h:IRep W t (.iface T x)):MethC T (copFn t):=by
 cases t with
 | var _=>obtain ⟨_,h,_⟩:=h;injection h with h _;subst h;exact methCVar
 | sort _=>obtain ⟨_,h,_⟩:=h;injection h with h _;subst h;exact methCSort
 | const _ _=>obtain ⟨_,_,h,_⟩:=h;injection h with h _;subst h;exact methCConst
 | app _ _=>obtain ⟨_,_,_,h,_⟩:=h;injection h with h _;subst h;exact methCApp
 | lam _ _=>obtain ⟨_,_,_,h,_⟩:=h;injection h with h _;subst h;exact methCLam
 | pi _ _=>obtain ⟨_,_,_,h,_⟩:=h;injection h with h _;subst h;exact methCPi
 | lett _ _ _=>obtain ⟨_,_,_,_,h,_⟩:=h;injection h with h _;subst h;exact methCLet
theorem CopAns.both {σ:Type} {I:σ->World->Prop} {row:Option Nat} {W:World} {r:Tm × σ} {e:Ending} {W':World} (h:CopAns I row W r e W'):(∃ T x,e=.returned (.iface T x))/\CopAns I row W r e W':=by
 obtain ⟨T,x,h1,h2⟩:=h;exact ⟨⟨T,x,h1⟩,T,x,h1,h2⟩
theorem copTree {σ:Type} {f:σ->Tm->Nat->Tm × σ} {I:σ->World->Prop} {row:Option Nat} {P:Tm->Nat->Prop} {F:FuncId} {cap:Array Value} (hL:LeafOk f I row P F cap) :
  ∀ (t:Tm) (b:Nat),t.Lv P b->b+t.size<=1000000->∀ (W:World) (s:σ) (T:TypeId) (x:Value),I s W->IRep W t (.iface T x) ->
   Calls Tryz.prog (copFn t) #[x,.int .i64 (b:Int),.func (.func F) #[] cap] W (CopAns I row W (t.mapS f s b))
 | .var n,b,hP,hz,W,s,T,x,hI,h=>by
  have h2:=h;obtain ⟨g,e,hg⟩:=h2;injection e with e1 e2;subst e1 e2;exact copVar hL.enters ((hL.leaf (.var n) _ W s b hP hI h).mono fun _ _ hc=>hc.both)
 | .sort n,b,hP,hz,W,s,T,x,hI,h=>by
  have h2:=h;obtain ⟨g,e,hg⟩:=h2;injection e with e1 e2;subst e1 e2;exact copSort hL.enters ((hL.leaf (.sort n) _ W s b hP hI h).mono fun _ _ hc=>hc.both)
 | .const n ls,b,hP,hz,W,s,T,x,hI,h=>by
  have h2:=h;obtain ⟨g,u,e,hg⟩:=h2;injection e with e1 e2;subst e1 e2;exact copConst hL.enters ((hL.leaf (.const n ls) _ W s b hP hI h).mono fun _ _ hc=>hc.both)
 | .app t u,b,hP,hz,W,s,T,x,hI,h=>by
  obtain ⟨g,v0,v1,e,hg,h0,h1⟩:=h;injection e with e1 e2;subst e1 e2;obtain ⟨T0,x0,rfl⟩:=h0.iface;obtain ⟨T1,x1,rfl⟩:=h1.iface;simp only [Tm.size] at hz;exact copApp hL.below hL.free hg (by omega) (copMeth h0) (fun W s hI hr=>copTree hL t b hP.1 (by omega) W s _ _ hI hr) h0 (copMeth h1) (fun W s hI hr=>copTree hL u b hP.2 (by omega) W s _ _ hI hr) h1 hI
 | .lam t u,b,hP,hz,W,s,T,x,hI,h=>by
  obtain ⟨g,v0,v1,e,hg,h0,h1⟩:=h;injection e with e1 e2;subst e1 e2;obtain ⟨T0,x0,rfl⟩:=h0.iface;obtain ⟨T1,x1,rfl⟩:=h1.iface;have:=t.size_pos;simp only [Tm.size] at hz;exact copLam hL.below hL.free hg (by omega) (copMeth h0) (fun W s hI hr=>copTree hL t b hP.1 (by omega) W s _ _ hI hr) h0 (copMeth h1) (fun W s hI hr=>copTree hL u (b+1) hP.2 (by omega) W s _ _ hI hr) h1 hI
 | .pi t u,b,hP,hz,W,s,T,x,hI,h=>by
  obtain ⟨g,v0,v1,e,hg,h0,h1⟩:=h;injection e with e1 e2;subst e1 e2;obtain ⟨T0,x0,rfl⟩:=h0.iface;obtain ⟨T1,x1,rfl⟩:=h1.iface;have:=t.size_pos;simp only [Tm.size] at hz;exact copPi hL.below hL.free hg (by omega) (copMeth h0) (fun W s hI hr=>copTree hL t b hP.1 (by omega) W s _ _ hI hr) h0 (copMeth h1) (fun W s hI hr=>copTree hL u (b+1) hP.2 (by omega) W s _ _ hI hr) h1 hI
 | .lett t u r,b,hP,hz,W,s,T,x,hI,h=>by
  obtain ⟨g,v0,v1,v2,e,hg,h0,h1,h2⟩:=h;injection e with e1 e2;subst e1 e2;obtain ⟨T0,x0,rfl⟩:=h0.iface;obtain ⟨T1,x1,rfl⟩:=h1.iface;obtain ⟨T2,x2,rfl⟩:=h2.iface;have:=t.size_pos;have:=u.size_pos;simp only [Tm.size] at hz;exact copLet hL.below hL.free hg (by omega) (copMeth h0) (fun W s hI hr=>copTree hL t b hP.1 (by omega) W s _ _ hI hr) h0 (copMeth h1) (fun W s hI hr=>copTree hL u b hP.2.1 (by omega) W s _ _ hI hr) h1 (copMeth h2) (fun W s hI hr=>copTree hL r (b+1) hP.2.2 (by omega) W s _ _ hI hr) h2 hI
theorem mapS_all {σ:Type} {f:σ->Tm->Nat->Tm × σ} {T:Tm} (s:σ) (hok:T.Ok) (hz:T.size<=3000) (hl:T.bytes.length<=2000)
  (hf:∀ s t b,Tm.OkLeaf 3000 t b->(f s t b).1.Pre/\(f s t b).1.Lim 9999/\(f s t b).1.bytes.length<=2000*t.bytes.length) :
  (T.mapS f s 0).1.Pre/\(T.mapS f s 0).1.Lim 9999/\(T.mapS f s 0).1.bytes.length<=100000000:=by
 have hv:=Tm.ok_lv (B:=3000) T 0 hok (by omega);refine ⟨Tm.mapS_q Tm.comp_pre (fun s t b h=>(hf s t b h).1) T s 0 hv,Tm.mapS_q (Tm.comp_lim _) (fun s t b h=>(hf s t b h).2.1) T s 0 hv,?_⟩;have:=Tm.mapS_len (K:=2000) (by decide) (fun s t b h=>(hf s t b h).2.2) T s 0 hv;omega
end Go.Proofs.YtcaahdjhbmmcnaaGreatDoor
