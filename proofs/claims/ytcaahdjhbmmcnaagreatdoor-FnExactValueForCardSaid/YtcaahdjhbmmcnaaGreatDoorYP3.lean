/- TIA TI9 TI7 TI8P TI8Q TIBk -/
import Derived.Lib.MinMax
import Derived.Deep.RegionHeld3
import Derived.Test.YtcaahdjhbmmcnaaGreatDoorYP1
import Derived.Test.YtcaahdjhbmmcnaaGreatDoorYP2
import Derived.Test.YtcaahdjhbmmcnaaGreatDoorYA5
set_option maxRecDepth 100000
set_option maxHeartbeats 16000000
set_option linter.unusedSimpArgs false
set_option linter.unusedVariables false
namespace Go.Proofs.YtcaahdjhbmmcnaaGreatDoor
open Go.ChangeShapes Go.WideShapes Go.ChangeAt Go.RowKit
theorem taVar (T:TypeId) (v:Value) (w:World):(Instr.typeAssert (.iface T v) 115 202 true).run Tryz.prog w=.ok (if T=202 then .tuple #[v,.bool true] else .tuple #[.pointer none,.bool false]) w:=by
 simp [Instr.typeAssert,run_underlying Tryz.underlying202,Tryz.zeroValue202];split<;>simp
theorem taSort (T:TypeId) (v:Value) (w:World):(Instr.typeAssert (.iface T v) 115 120 true).run Tryz.prog w=.ok (if T=120 then .tuple #[v,.bool true] else .tuple #[.pointer none,.bool false]) w:=by
 simp [Instr.typeAssert,run_underlying Tryz.underlying120,Tryz.zeroValue120];split<;>simp
theorem taConst (T:TypeId) (v:Value) (w:World):(Instr.typeAssert (.iface T v) 115 124 true).run Tryz.prog w=.ok (if T=124 then .tuple #[v,.bool true] else .tuple #[.pointer none,.bool false]) w:=by
 simp [Instr.typeAssert,run_underlying Tryz.underlying124,Tryz.zeroValue124];split<;>simp
theorem taApp (T:TypeId) (v:Value) (w:World):(Instr.typeAssert (.iface T v) 115 212 true).run Tryz.prog w=.ok (if T=212 then .tuple #[v,.bool true] else .tuple #[.pointer none,.bool false]) w:=by
 simp [Instr.typeAssert,run_underlying Tryz.underlying212,Tryz.zeroValue212];split<;>simp
theorem taLam (T:TypeId) (v:Value) (w:World):(Instr.typeAssert (.iface T v) 115 215 true).run Tryz.prog w=.ok (if T=215 then .tuple #[v,.bool true] else .tuple #[.pointer none,.bool false]) w:=by
 simp [Instr.typeAssert,run_underlying Tryz.underlying215,Tryz.zeroValue215];split<;>simp
theorem taPi (T:TypeId) (v:Value) (w:World):(Instr.typeAssert (.iface T v) 115 218 true).run Tryz.prog w=.ok (if T=218 then .tuple #[v,.bool true] else .tuple #[.pointer none,.bool false]) w:=by
 simp [Instr.typeAssert,run_underlying Tryz.underlying218,Tryz.zeroValue218];split<;>simp
theorem taLet (T:TypeId) (v:Value) (w:World):(Instr.typeAssert (.iface T v) 115 221 true).run Tryz.prog w=.ok (if T=221 then .tuple #[v,.bool true] else .tuple #[.pointer none,.bool false]) w:=by
 simp [Instr.typeAssert,run_underlying Tryz.underlying221,Tryz.zeroValue221];split<;>simp
theorem max_three (w:World) (ts:Array TypeId) (t:TypeId) (x y z:Int) :
  (Builtin.max_ ts t #[.int .i64 x,.int .i64 y,.int .i64 z]).run Tryz.prog w=.ok (.int .i64 (max (max x y) z)) w:=by
 have e:∀ x y:Int,(if y > x then y else x)=max x y:=fun x y=>by
  rw [Int.max_def];split<;>split<;>omega
 simp [Builtin.max_,Builtin.max2,e]
theorem implOpenOf:∀ (t:Tm) (v:Value) (W:World) (b:Nat),t.Ok->b+t.size<=1000000->IRep W t v ->
  Rt 154 #[v,.int .i64 (b:Int)] W (.int .i64 ((t.opn - b:Nat):Int)):=by
 intro t
 induction t with
 | var n =>
  intro v W b hok hsz h;have hn:n<=999:=hok;simp only [Tm.size] at hsz;obtain ⟨g,rfl,hg⟩:=h;have c0:W.cell? ⟨g,0,none⟩=some (.int .i64 (n:Int)):=(by rw [Lib.cell_of_heap hg];rfl);clear hg;have HE:Hid (((n+1 - b:Nat):Int)=max ((n:Int)+1 - (b:Int)) 0):=(by rw [Hid];omega);simp only [Tm.opn];have aVar:∀ v w,(Instr.typeAssert (.iface 202 v) 115 202 true).run Tryz.prog w=.ok (.tuple #[v,.bool true]) w:=fun v w=>by rw [taVar,iP rfl]
  go_enter Tryz.func154,Tryz.ntmps154;go_wp2;go_ret;rw [HE.out];exact ⟨rfl,bR _ _⟩
 | sort n =>
  intro v W b hok hsz h;obtain ⟨g,rfl,hg⟩:=h;clear hg;have HE:Hid (((0 - b:Nat):Int)=0):=(by rw [Hid];omega);simp only [Tm.opn];have aVar:∀ v w,(Instr.typeAssert (.iface 120 v) 115 202 true).run Tryz.prog w=.ok (.tuple #[.pointer none,.bool false]) w:=fun v w=>by rw [taVar,iN (by decide)]
  have aApp:∀ v w,(Instr.typeAssert (.iface 120 v) 115 212 true).run Tryz.prog w=.ok (.tuple #[.pointer none,.bool false]) w:=fun v w=>by rw [taApp,iN (by decide)]
  have aLam:∀ v w,(Instr.typeAssert (.iface 120 v) 115 215 true).run Tryz.prog w=.ok (.tuple #[.pointer none,.bool false]) w:=fun v w=>by rw [taLam,iN (by decide)]
  have aPi:∀ v w,(Instr.typeAssert (.iface 120 v) 115 218 true).run Tryz.prog w=.ok (.tuple #[.pointer none,.bool false]) w:=fun v w=>by rw [taPi,iN (by decide)]
  have aLet:∀ v w,(Instr.typeAssert (.iface 120 v) 115 221 true).run Tryz.prog w=.ok (.tuple #[.pointer none,.bool false]) w:=fun v w=>by rw [taLet,iN (by decide)]
  go_enter Tryz.func154,Tryz.ntmps154;go_wp2;go_ret;rw [HE.out];exact ⟨rfl,bR _ _⟩
 | const n ls =>
  intro v W b hok hsz h;obtain ⟨g,u,rfl,hg,hu⟩:=h;clear hu;clear hg;have HE:Hid (((0 - b:Nat):Int)=0):=(by rw [Hid];omega);simp only [Tm.opn];have aVar:∀ v w,(Instr.typeAssert (.iface 124 v) 115 202 true).run Tryz.prog w=.ok (.tuple #[.pointer none,.bool false]) w:=fun v w=>by rw [taVar,iN (by decide)]
  have aApp:∀ v w,(Instr.typeAssert (.iface 124 v) 115 212 true).run Tryz.prog w=.ok (.tuple #[.pointer none,.bool false]) w:=fun v w=>by rw [taApp,iN (by decide)]
  have aLam:∀ v w,(Instr.typeAssert (.iface 124 v) 115 215 true).run Tryz.prog w=.ok (.tuple #[.pointer none,.bool false]) w:=fun v w=>by rw [taLam,iN (by decide)]
  have aPi:∀ v w,(Instr.typeAssert (.iface 124 v) 115 218 true).run Tryz.prog w=.ok (.tuple #[.pointer none,.bool false]) w:=fun v w=>by rw [taPi,iN (by decide)]
  have aLet:∀ v w,(Instr.typeAssert (.iface 124 v) 115 221 true).run Tryz.prog w=.ok (.tuple #[.pointer none,.bool false]) w:=fun v w=>by rw [taLet,iN (by decide)]
  go_enter Tryz.func154,Tryz.ntmps154;go_wp2;go_ret;rw [HE.out];exact ⟨rfl,bR _ _⟩
 | app f a ihf iha =>
  intro v W b hok hsz h;have s1:=f.size_pos;have o1:=Tm.opn_le f hok.1;have s2:=a.size_pos;have o2:=Tm.opn_le a hok.2;simp only [Tm.size] at hsz;obtain ⟨g,x,y,rfl,hg,hx,hy⟩:=h;have F1:=Ld fun Wx (hr:IRep Wx f x)=>ihf x Wx b hok.1 (by omega) hr;have F2:=Ld fun Wx (hr:IRep Wx a y)=>iha y Wx b hok.2 (by omega) hr;have HX:=Ld hx;have HY:=Ld hy;have HE:Hid ((((Tm.app f a).opn - b:Nat):Int)=max ((f.opn - b:Nat):Int) ((a.opn - b:Nat):Int)):=(by rw [Hid];simp only [Tm.opn];omega);generalize (Tm.app f a).opn - b=m at HE |-;have b1:f.opn - b<=1000:=(by omega);have b2:a.opn - b<=1000:=(by omega);generalize f.opn - b=p at F1 HE b1;generalize a.opn - b=q at F2 HE b2;obtain ⟨T0,x0,rfl⟩:=hx.iface;obtain ⟨T1,y0,rfl⟩:=hy.iface;clear hx hy ihf iha hok o1 o2;have HBX:Hid (∀ w',Below W.heap.size W w'->w'.cell? ⟨g,0,none⟩=some (.iface T0 x0)/\w'.cell? ⟨g,1,none⟩=some (.iface T1 y0)):=fun w' hb=>by
   have:=blk_below hg hb;exact ⟨by rw [Lib.cell_of_heap this];rfl,by rw [Lib.cell_of_heap this];rfl⟩
  have X0:=HBX.out _ (bR _ _);clear hg;have aVar:∀ v w,(Instr.typeAssert (.iface 212 v) 115 202 true).run Tryz.prog w=.ok (.tuple #[.pointer none,.bool false]) w:=fun v w=>by rw [taVar,iN (by decide)]
  have aApp:∀ v w,(Instr.typeAssert (.iface 212 v) 115 212 true).run Tryz.prog w=.ok (.tuple #[v,.bool true]) w:=fun v w=>by rw [taApp,iP rfl]
  go_enter Tryz.func154,Tryz.ntmps154;go_wp2;go_region_held3 (fun w'=>w'.cell? ⟨g,0,none⟩=some (.iface T0 x0)/\w'.cell? ⟨g,1,none⟩=some (.iface T1 y0)) (first | exact X0 | exact X1 | exact X2)
   (first
    | (go_at_call 154;(with_reducible refine mo (F1.out _ (HX.out.below (bR W.heap.size W).drew)) fun w2 hb2=>?_);have B1:=(bR W.heap.size W).drew.trans hb2;have X1:=HBX.out _ B1)
    | (go_at_call 154;(with_reducible refine mo (F2.out _ (HY.out.below B1)) fun w3 hb3=>?_);have B2:=B1.trans (hb3.mono B1.size);have X2:=HBX.out _ B2))
  go_wp2;go_ret;rw [HE.out];exact ⟨rfl,B2⟩
 | lam f a ihf iha =>
  intro v W b hok hsz h;have s1:=f.size_pos;have o1:=Tm.opn_le f hok.1;have s2:=a.size_pos;have o2:=Tm.opn_le a hok.2;simp only [Tm.size] at hsz;obtain ⟨g,x,y,rfl,hg,hx,hy⟩:=h;have F1:=Ld fun Wx (hr:IRep Wx f x)=>ihf x Wx b hok.1 (by omega) hr;have F2:=Ld fun Wx (hr:IRep Wx a y)=>iha y Wx (b+1) hok.2 (by omega) hr;have HX:=Ld hx;have HY:=Ld hy;have HE:Hid ((((Tm.lam f a).opn - b:Nat):Int)=max ((f.opn - b:Nat):Int) ((a.opn - (b+1):Nat):Int)):=(by rw [Hid];simp only [Tm.opn];omega);have hw:IntKind.i64.wrap ((b:Int)+1)=(b:Int)+1:=IntWalk.i64_in _ (by omega);rw [show ((b+1:Nat):Int)=(b:Int)+1 by omega] at F2;generalize (Tm.lam f a).opn - b=m at HE |-;have b1:f.opn - b<=1000:=(by omega);have b2:a.opn - (b+1)<=1000:=(by omega);generalize f.opn - b=p at F1 HE b1;generalize a.opn - (b+1)=q at F2 HE b2;obtain ⟨T0,x0,rfl⟩:=hx.iface;obtain ⟨T1,y0,rfl⟩:=hy.iface;clear hx hy ihf iha hok o1 o2;have HBX:Hid (∀ w',Below W.heap.size W w'->w'.cell? ⟨g,0,none⟩=some (.iface T0 x0)/\w'.cell? ⟨g,1,none⟩=some (.iface T1 y0)):=fun w' hb=>by
   have:=blk_below hg hb;exact ⟨by rw [Lib.cell_of_heap this];rfl,by rw [Lib.cell_of_heap this];rfl⟩
  have X0:=HBX.out _ (bR _ _);clear hg;have aVar:∀ v w,(Instr.typeAssert (.iface 215 v) 115 202 true).run Tryz.prog w=.ok (.tuple #[.pointer none,.bool false]) w:=fun v w=>by rw [taVar,iN (by decide)]
  have aApp:∀ v w,(Instr.typeAssert (.iface 215 v) 115 212 true).run Tryz.prog w=.ok (.tuple #[.pointer none,.bool false]) w:=fun v w=>by rw [taApp,iN (by decide)]
  have aLam:∀ v w,(Instr.typeAssert (.iface 215 v) 115 215 true).run Tryz.prog w=.ok (.tuple #[v,.bool true]) w:=fun v w=>by rw [taLam,iP rfl]
  go_enter Tryz.func154,Tryz.ntmps154;go_wp2;go_region_held3 (fun w'=>w'.cell? ⟨g,0,none⟩=some (.iface T0 x0)/\w'.cell? ⟨g,1,none⟩=some (.iface T1 y0)) (first | exact X0 | exact X1 | exact X2)
   (first
    | (go_at_call 154;(with_reducible refine mo (F1.out _ (HX.out.below (bR W.heap.size W).drew)) fun w2 hb2=>?_);have B1:=(bR W.heap.size W).drew.trans hb2;have X1:=HBX.out _ B1)
    | (go_at_call 154;(with_reducible refine mo (F2.out _ (HY.out.below B1)) fun w3 hb3=>?_);have B2:=B1.trans (hb3.mono B1.size);have X2:=HBX.out _ B2))
  go_wp2;go_ret;rw [HE.out];exact ⟨rfl,B2⟩
 | pi f a ihf iha =>
  intro v W b hok hsz h;have s1:=f.size_pos;have o1:=Tm.opn_le f hok.1;have s2:=a.size_pos;have o2:=Tm.opn_le a hok.2;simp only [Tm.size] at hsz;obtain ⟨g,x,y,rfl,hg,hx,hy⟩:=h;have F1:=Ld fun Wx (hr:IRep Wx f x)=>ihf x Wx b hok.1 (by omega) hr;have F2:=Ld fun Wx (hr:IRep Wx a y)=>iha y Wx (b+1) hok.2 (by omega) hr;have HX:=Ld hx;have HY:=Ld hy;have HE:Hid ((((Tm.pi f a).opn - b:Nat):Int)=max ((f.opn - b:Nat):Int) ((a.opn - (b+1):Nat):Int)):=(by rw [Hid];simp only [Tm.opn];omega);have hw:IntKind.i64.wrap ((b:Int)+1)=(b:Int)+1:=IntWalk.i64_in _ (by omega);rw [show ((b+1:Nat):Int)=(b:Int)+1 by omega] at F2;generalize (Tm.pi f a).opn - b=m at HE |-;have b1:f.opn - b<=1000:=(by omega);have b2:a.opn - (b+1)<=1000:=(by omega);generalize f.opn - b=p at F1 HE b1;generalize a.opn - (b+1)=q at F2 HE b2;obtain ⟨T0,x0,rfl⟩:=hx.iface;obtain ⟨T1,y0,rfl⟩:=hy.iface;clear hx hy ihf iha hok o1 o2;have HBX:Hid (∀ w',Below W.heap.size W w'->w'.cell? ⟨g,0,none⟩=some (.iface T0 x0)/\w'.cell? ⟨g,1,none⟩=some (.iface T1 y0)):=fun w' hb=>by
   have:=blk_below hg hb;exact ⟨by rw [Lib.cell_of_heap this];rfl,by rw [Lib.cell_of_heap this];rfl⟩
  have X0:=HBX.out _ (bR _ _);clear hg;have aVar:∀ v w,(Instr.typeAssert (.iface 218 v) 115 202 true).run Tryz.prog w=.ok (.tuple #[.pointer none,.bool false]) w:=fun v w=>by rw [taVar,iN (by decide)]
  have aApp:∀ v w,(Instr.typeAssert (.iface 218 v) 115 212 true).run Tryz.prog w=.ok (.tuple #[.pointer none,.bool false]) w:=fun v w=>by rw [taApp,iN (by decide)]
  have aLam:∀ v w,(Instr.typeAssert (.iface 218 v) 115 215 true).run Tryz.prog w=.ok (.tuple #[.pointer none,.bool false]) w:=fun v w=>by rw [taLam,iN (by decide)]
  have aPi:∀ v w,(Instr.typeAssert (.iface 218 v) 115 218 true).run Tryz.prog w=.ok (.tuple #[v,.bool true]) w:=fun v w=>by rw [taPi,iP rfl]
  go_enter Tryz.func154,Tryz.ntmps154;go_wp2;go_region_held3 (fun w'=>w'.cell? ⟨g,0,none⟩=some (.iface T0 x0)/\w'.cell? ⟨g,1,none⟩=some (.iface T1 y0)) (first | exact X0 | exact X1 | exact X2)
   (first
    | (go_at_call 154;(with_reducible refine mo (F1.out _ (HX.out.below (bR W.heap.size W).drew)) fun w2 hb2=>?_);have B1:=(bR W.heap.size W).drew.trans hb2;have X1:=HBX.out _ B1)
    | (go_at_call 154;(with_reducible refine mo (F2.out _ (HY.out.below B1)) fun w3 hb3=>?_);have B2:=B1.trans (hb3.mono B1.size);have X2:=HBX.out _ B2))
  go_wp2;go_ret;rw [HE.out];exact ⟨rfl,B2⟩
 | lett f a c ihf iha ihc =>
  intro v W b hok hsz h;have s1:=f.size_pos;have o1:=Tm.opn_le f hok.1;have s2:=a.size_pos;have o2:=Tm.opn_le a hok.2.1;have s3:=c.size_pos;have o3:=Tm.opn_le c hok.2.2;simp only [Tm.size] at hsz;obtain ⟨g,x,y,z,rfl,hg,hx,hy,hz⟩:=h;have F1:=Ld fun Wx (hr:IRep Wx f x)=>ihf x Wx b hok.1 (by omega) hr;have F2:=Ld fun Wx (hr:IRep Wx a y)=>iha y Wx b hok.2.1 (by omega) hr;have F3:=Ld fun Wx (hr:IRep Wx c z)=>ihc z Wx (b+1) hok.2.2 (by omega) hr;have HX:=Ld hx;have HY:=Ld hy;have HZ:=Ld hz;have HE:Hid ((((Tm.lett f a c).opn - b:Nat):Int)=max ((f.opn - b:Nat):Int) (max ((a.opn - b:Nat):Int) ((c.opn - (b+1):Nat):Int))):=(by rw [Hid];simp only [Tm.opn];omega);have hw:IntKind.i64.wrap ((b:Int)+1)=(b:Int)+1:=IntWalk.i64_in _ (by omega);rw [show ((b+1:Nat):Int)=(b:Int)+1 by omega] at F3;generalize (Tm.lett f a c).opn - b=m at HE |-;have b1:f.opn - b<=1000:=(by omega);have b2:a.opn - b<=1000:=(by omega);have b3:c.opn - (b+1)<=1000:=(by omega);generalize f.opn - b=p at F1 HE b1;generalize a.opn - b=q at F2 HE b2;generalize c.opn - (b+1)=r at F3 HE b3;obtain ⟨T0,x0,rfl⟩:=hx.iface;obtain ⟨T1,y0,rfl⟩:=hy.iface;obtain ⟨T2,z0,rfl⟩:=hz.iface;clear hx hy hz ihf iha ihc hok o1 o2 o3;have m3:=fun w ts t=>max_three w ts t (p:Int) (q:Int) (r:Int);have HBX:Hid (∀ w',Below W.heap.size W w'->w'.cell? ⟨g,0,none⟩=some (.iface T0 x0)/\w'.cell? ⟨g,1,none⟩=some (.iface T1 y0)/\w'.cell? ⟨g,2,none⟩=some (.iface T2 z0)):=fun w' hb=>by
   have:=blk_below hg hb;exact ⟨by rw [Lib.cell_of_heap this];rfl,by rw [Lib.cell_of_heap this];rfl,by rw [Lib.cell_of_heap this];rfl⟩
  have X0:=HBX.out _ (bR _ _);clear hg;have aVar:∀ v w,(Instr.typeAssert (.iface 221 v) 115 202 true).run Tryz.prog w=.ok (.tuple #[.pointer none,.bool false]) w:=fun v w=>by rw [taVar,iN (by decide)]
  have aApp:∀ v w,(Instr.typeAssert (.iface 221 v) 115 212 true).run Tryz.prog w=.ok (.tuple #[.pointer none,.bool false]) w:=fun v w=>by rw [taApp,iN (by decide)]
  have aLam:∀ v w,(Instr.typeAssert (.iface 221 v) 115 215 true).run Tryz.prog w=.ok (.tuple #[.pointer none,.bool false]) w:=fun v w=>by rw [taLam,iN (by decide)]
  have aPi:∀ v w,(Instr.typeAssert (.iface 221 v) 115 218 true).run Tryz.prog w=.ok (.tuple #[.pointer none,.bool false]) w:=fun v w=>by rw [taPi,iN (by decide)]
  have aLet:∀ v w,(Instr.typeAssert (.iface 221 v) 115 221 true).run Tryz.prog w=.ok (.tuple #[v,.bool true]) w:=fun v w=>by rw [taLet,iP rfl]
  go_enter Tryz.func154,Tryz.ntmps154;go_wp2;go_region_held3 (fun w'=>w'.cell? ⟨g,0,none⟩=some (.iface T0 x0)/\w'.cell? ⟨g,1,none⟩=some (.iface T1 y0)/\w'.cell? ⟨g,2,none⟩=some (.iface T2 z0)) (first | exact X0 | exact X1 | exact X2 | exact X3)
   (first
    | (go_at_call 154;(with_reducible refine mo (F1.out _ (HX.out.below (bR W.heap.size W).drew)) fun w2 hb2=>?_);have B1:=(bR W.heap.size W).drew.trans hb2;have X1:=HBX.out _ B1)
    | (go_at_call 154;(with_reducible refine mo (F2.out _ (HY.out.below B1)) fun w3 hb3=>?_);have B2:=B1.trans (hb3.mono B1.size);have X2:=HBX.out _ B2)
    | (go_at_call 154;(with_reducible refine mo (F3.out _ (HZ.out.below B2)) fun w4 hb4=>?_);have B3:=B2.trans (hb4.mono B2.size);have X3:=HBX.out _ B3))
  go_wp2;go_ret;rw [HE.out];exact ⟨rfl,B3⟩
theorem tat_nil {t:Tm} {r:List UInt8}:¬ Tat [] t r:=by
 rintro ⟨_,h⟩;have h1:=congrArg List.length h;have:=t.bytes_pos;simp only [List.length_nil,lA] at h1;omega
theorem NextPost.at {N:Nat} {l l':List UInt8} {W W1:World} {e:Ending} {W':World} (h:NextPost N l W1 e W') (hg:W.grownBy W1 (some N)) (hl:l=l'):NextPost N l' W e W':=by
 subst hl;exact ⟨hg.trans h.1,h.2⟩
theorem implNext {w0:World} (hv:Vars w0):∀ n,NextAll w0 n:=by
 intro n
 induction n with
 | zero =>
  intro s N W hs hm h hb hN;have hs0:s=⟨#[]⟩:=str_eq (List.eq_nil_of_length_eq_zero (by show s.data.toList.length=0;have:s.data.toList.length=s.size:=rfl;omega));subst hs0;have c0:W.cell? ⟨N,0,none⟩=some (.string ⟨#[]⟩):=h.cellAt 0 (by omega);have HR:=Ld h;clear h;go_enter Tryz.func129,Tryz.ntmps129;go_wp2;go_ret2;exact NextPost.no (World.grownBy.refl _ _) (fun _ _=>tat_nil) HR.out
 | succ n ih =>
  intro s N W hs hm h hb hN;have hls:s.data.toList.length=s.size:=rfl;have c0:W.cell? ⟨N,0,none⟩=some (.string s):=h.cellAt 0 (by omega);have z0:W.frozen? ⟨N,0,none⟩=false:=h.frozenAt 0;by_cases hlt:0 < s.size;rotate_left
  ·have hs0:s=⟨#[]⟩:=str_eq (List.eq_nil_of_length_eq_zero (by show s.data.toList.length=0;omega));subst hs0;have HR:=Ld h;clear h hls;go_enter Tryz.func129,Tryz.ntmps129;go_wp2;go_ret2;exact NextPost.no (World.grownBy.refl _ _) (fun _ _=>tat_nil) HR.out
  ·obtain ⟨h1,hg1⟩:=h.put (s.extract 1 s.size);have hl:Hid (s[0] :: (s.extract 1 s.size).data.toList=s.data.toList):=by
    rw [Hid,ext_dropC];have:s.data.toList=s.data.toList[0] :: s.data.toList.drop 1:=by
     rw [← List.drop_eq_getElem_cons (by omega),List.drop_zero]
    exact this.symm
   have hz:(s.extract 1 s.size).size=s.size - 1:=(by rw [ByteArray.size_extract];omega);have HR1:=Ld h1;have HG1:=Ld hg1;have HB1:=Ld (hb.grown hg1 hb.size (fun j hj=>by injection hj with hj;omega));have hne:(s.toList == ([]:List UInt8))=false:=by
    rw [ByteArray.toList_eq];cases hh:s.data.toList with
    | nil=>rw [hh] at hls;simp at hls;omega
    | cons _ _=>rfl
   have q1:(0:Int)<=0:=(by omega);have q2:(0:Int) < (s.size:Int):=(by omega);have q3:(1:Int)<=(s.size:Int):=(by omega);have IH:=Ld ih;have HV:=Ld hv;clear h h1 hg1 hb ih hv hls;by_cases k118:s[0]=118
   ·have e118:((s[0].toNat:Int) == 118)=true:=is_byte k118;have f1:=Ld (implVariable _ HR1.out (by omega) HV.out HB1.out hN);rw [← k118,hl.out] at f1;clear k118 hl IH HV HB1;go_enter Tryz.func129,Tryz.ntmps129;go_wp2_with fail;(with_reducible refine f1.out.mono ?_);rintro e w2 ⟨hg2,⟨t,v,r,ht,rfl,hr2,hv2⟩ | ⟨hno,rfl,s2,hr2⟩⟩
    ·have HG2:=Ld (HG1.out.trans hg2);have HT:=Ld ht;have HR2:=Ld hr2;have HV2:=Ld hv2;clear hg2 ht hr2 hv2;go_wp2;go_ret2;exact NextPost.ok HG2.out HT.out HR2.out HV2.out
    ·have HG2:=Ld (HG1.out.trans hg2);have HT:=Ld hno;have HR2:=Ld hr2;clear hg2 hno hr2;go_wp2;go_ret2;exact NextPost.no HG2.out HT.out HR2.out
   have e118:((s[0].toNat:Int) == 118)=false:=ne_byte k118;by_cases k115:s[0]=115
   ·have e115:((s[0].toNat:Int) == 115)=true:=is_byte k115;have f1:=Ld (implSort _ HR1.out (by omega));rw [← k115,hl.out] at f1;clear k115 hl IH HV HB1;go_enter Tryz.func129,Tryz.ntmps129;go_wp2_with fail;(with_reducible refine f1.out.mono ?_);rintro e w2 ⟨hg2,⟨t,v,r,ht,rfl,hr2,hv2⟩ | ⟨hno,rfl,s2,hr2⟩⟩
    ·have HG2:=Ld (HG1.out.trans hg2);have HT:=Ld ht;have HR2:=Ld hr2;have HV2:=Ld hv2;clear hg2 ht hr2 hv2;go_wp2;go_ret2;exact NextPost.ok HG2.out HT.out HR2.out HV2.out
    ·have HG2:=Ld (HG1.out.trans hg2);have HT:=Ld hno;have HR2:=Ld hr2;clear hg2 hno hr2;go_wp2;go_ret2;exact NextPost.no HG2.out HT.out HR2.out
   have e115:((s[0].toNat:Int) == 115)=false:=ne_byte k115;by_cases k99:s[0]=99
   ·have e99:((s[0].toNat:Int) == 99)=true:=is_byte k99;have f1:=Ld (implConstant _ HR1.out (by omega));rw [← k99,hl.out] at f1;clear k99 hl IH HV HB1;go_enter Tryz.func129,Tryz.ntmps129;go_wp2_with fail;(with_reducible refine f1.out.mono ?_);rintro e w2 ⟨hg2,⟨t,v,r,ht,rfl,hr2,hv2⟩ | ⟨hno,rfl,s2,hr2⟩⟩
    ·have HG2:=Ld (HG1.out.trans hg2);have HT:=Ld ht;have HR2:=Ld hr2;have HV2:=Ld hv2;clear hg2 ht hr2 hv2;go_wp2;go_ret2;exact NextPost.ok HG2.out HT.out HR2.out HV2.out
    ·have HG2:=Ld (HG1.out.trans hg2);have HT:=Ld hno;have HR2:=Ld hr2;clear hg2 hno hr2;go_wp2;go_ret2;exact NextPost.no HG2.out HT.out HR2.out
   have e99:((s[0].toNat:Int) == 99)=false:=ne_byte k99;by_cases k64:s[0]=64
   ·have e64:((s[0].toNat:Int) == 64)=true:=is_byte k64;have f1:=Ld (implCompound IH.out 64 2 (.inl ⟨rfl,by decide⟩) _ (by omega) (by omega) HR1.out HB1.out hN);have e3:(s[0].toNat:Int)=((64:UInt8).toNat:Int):=(by rw [k64]);rw [← e3] at f1;have f2:=f1.out;rw [show (64:UInt8) :: (s.extract 1 s.size).data.toList=s.data.toList by rw [← k64];exact hl.out,show ((2:Nat):Int)=2 from rfl] at f2;clear f1;have f1:=Ld f2;clear f2 e3;clear k64 hl IH HV HB1;go_enter Tryz.func129,Tryz.ntmps129;go_wp2_with fail;(with_reducible refine f1.out.mono ?_);rintro e w2 ⟨hg2,⟨t,v,r,ht,rfl,hr2,hv2⟩ | ⟨hno,rfl,s2,hr2⟩⟩
    ·have HG2:=Ld (HG1.out.trans hg2);have HT:=Ld ht;have HR2:=Ld hr2;have HV2:=Ld hv2;clear hg2 ht hr2 hv2;go_wp2;go_ret2;exact NextPost.ok HG2.out HT.out HR2.out HV2.out
    ·have HG2:=Ld (HG1.out.trans hg2);have HT:=Ld hno;have HR2:=Ld hr2;clear hg2 hno hr2;go_wp2;go_ret2;exact NextPost.no HG2.out HT.out HR2.out
   have e64:((s[0].toNat:Int) == 64)=false:=ne_byte k64;by_cases k108:s[0]=108
   ·have e108:((s[0].toNat:Int) == 108)=true:=is_byte k108;have f1:=Ld (implCompound IH.out 108 2 (.inl ⟨rfl,by decide⟩) _ (by omega) (by omega) HR1.out HB1.out hN);have e3:(s[0].toNat:Int)=((108:UInt8).toNat:Int):=(by rw [k108]);rw [← e3] at f1;have f2:=f1.out;rw [show (108:UInt8) :: (s.extract 1 s.size).data.toList=s.data.toList by rw [← k108];exact hl.out,show ((2:Nat):Int)=2 from rfl] at f2;clear f1;have f1:=Ld f2;clear f2 e3;clear k108 hl IH HV HB1;go_enter Tryz.func129,Tryz.ntmps129;go_wp2_with fail;(with_reducible refine f1.out.mono ?_);rintro e w2 ⟨hg2,⟨t,v,r,ht,rfl,hr2,hv2⟩ | ⟨hno,rfl,s2,hr2⟩⟩
    ·have HG2:=Ld (HG1.out.trans hg2);have HT:=Ld ht;have HR2:=Ld hr2;have HV2:=Ld hv2;clear hg2 ht hr2 hv2;go_wp2;go_ret2;exact NextPost.ok HG2.out HT.out HR2.out HV2.out
    ·have HG2:=Ld (HG1.out.trans hg2);have HT:=Ld hno;have HR2:=Ld hr2;clear hg2 hno hr2;go_wp2;go_ret2;exact NextPost.no HG2.out HT.out HR2.out
   have e108:((s[0].toNat:Int) == 108)=false:=ne_byte k108;by_cases k112:s[0]=112
   ·have e112:((s[0].toNat:Int) == 112)=true:=is_byte k112;have f1:=Ld (implCompound IH.out 112 2 (.inl ⟨rfl,by decide⟩) _ (by omega) (by omega) HR1.out HB1.out hN);have e3:(s[0].toNat:Int)=((112:UInt8).toNat:Int):=(by rw [k112]);rw [← e3] at f1;have f2:=f1.out;rw [show (112:UInt8) :: (s.extract 1 s.size).data.toList=s.data.toList by rw [← k112];exact hl.out,show ((2:Nat):Int)=2 from rfl] at f2;clear f1;have f1:=Ld f2;clear f2 e3;clear k112 hl IH HV HB1;go_enter Tryz.func129,Tryz.ntmps129;go_wp2_with fail;(with_reducible refine f1.out.mono ?_);rintro e w2 ⟨hg2,⟨t,v,r,ht,rfl,hr2,hv2⟩ | ⟨hno,rfl,s2,hr2⟩⟩
    ·have HG2:=Ld (HG1.out.trans hg2);have HT:=Ld ht;have HR2:=Ld hr2;have HV2:=Ld hv2;clear hg2 ht hr2 hv2;go_wp2;go_ret2;exact NextPost.ok HG2.out HT.out HR2.out HV2.out
    ·have HG2:=Ld (HG1.out.trans hg2);have HT:=Ld hno;have HR2:=Ld hr2;clear hg2 hno hr2;go_wp2;go_ret2;exact NextPost.no HG2.out HT.out HR2.out
   have e112:((s[0].toNat:Int) == 112)=false:=ne_byte k112;by_cases k116:s[0]=116
   ·have e116:((s[0].toNat:Int) == 116)=true:=is_byte k116;have f1:=Ld (implCompound IH.out 116 3 (.inr ⟨rfl,rfl⟩) _ (by omega) (by omega) HR1.out HB1.out hN);have e3:(s[0].toNat:Int)=((116:UInt8).toNat:Int):=(by rw [k116]);rw [← e3] at f1;have f2:=f1.out;rw [show (116:UInt8) :: (s.extract 1 s.size).data.toList=s.data.toList by rw [← k116];exact hl.out,show ((3:Nat):Int)=3 from rfl] at f2;clear f1;have f1:=Ld f2;clear f2 e3;clear k116 hl IH HV HB1;go_enter Tryz.func129,Tryz.ntmps129;go_wp2_with fail;(with_reducible refine f1.out.mono ?_);rintro e w2 ⟨hg2,⟨t,v,r,ht,rfl,hr2,hv2⟩ | ⟨hno,rfl,s2,hr2⟩⟩
    ·have HG2:=Ld (HG1.out.trans hg2);have HT:=Ld ht;have HR2:=Ld hr2;have HV2:=Ld hv2;clear hg2 ht hr2 hv2;go_wp2;go_ret2;exact NextPost.ok HG2.out HT.out HR2.out HV2.out
    ·have HG2:=Ld (HG1.out.trans hg2);have HT:=Ld hno;have HR2:=Ld hr2;clear hg2 hno hr2;go_wp2;go_ret2;exact NextPost.no HG2.out HT.out HR2.out
   have e116:((s[0].toNat:Int) == 116)=false:=ne_byte k116;have HX:Hid (∀ t r,¬ Tat s.data.toList t r):=fun t r ht=>by
    rw [← hl.out] at ht;have hk:=tat_kind ht;rcases kind_cases t with h | h | h | h | h | h | h
    ·exact k118 (hk.trans h)
    ·exact k115 (hk.trans h)
    ·exact k99 (hk.trans h)
    ·exact k64 (hk.trans h)
    ·exact k108 (hk.trans h)
    ·exact k112 (hk.trans h)
    ·exact k116 (hk.trans h)
   clear k118 k115 k99 k64 k108 k112 k116 hl IH HV HB1;go_enter Tryz.func129,Tryz.ntmps129;go_wp2;go_ret2;exact NextPost.no HG1.out HX.out HR1.out
def ReadAns (l:List UInt8) (W:World) (e:Ending) (W':World):Prop :=
 Below W.heap.size W W'/\((∃ t v,IsTm l t/\e=.returned (.tuple #[v,.bool true])/\IRep W' t v)\/((∀ t,¬ IsTm l t)/\e=.returned (.tuple #[.nilIface,.bool false])))
theorem implReadTerm (s:ByteArray) (W:World) (hv:Vars W) (hs:s.size<=maxLen) :
  Calls Tryz.prog 85 #[.string s] W (ReadAns s.data.toList W):=by
 have hls:s.data.toList.length=s.size:=rfl;unfold maxLen at hs;by_cases h1:s.size<=2000;rotate_left
 ·have HX:Hid (∀ t,¬ IsTm s.data.toList t):=fun t ht=>by have:=ht.2.2;omega
  have d1:decide ((2000:Int) < (s.size:Int))=true:=dT (by omega);clear hv hls;go_enter Tryz.func85,Tryz.ntmps85;go_wp2;go_ret2;exact ⟨bR _ _,.inr ⟨HX.out,rfl⟩⟩
 have d1:decide ((2000:Int) < (s.size:Int))=false:=dF (by omega);have hb:=Below.alloc (bR W.heap.size W) (nR _) (.cells #[.string s] 155);have hr:RB W.heap.size s (W.alloc (.cells #[.string s] 155)):=World.ownsRow_lit W #[.string s] 1 (nR _) (by decide) (by simp);have HT:Hid (∀ t,IsTm s.data.toList t↔Tat s.data.toList t []):=isTm_tat (by omega);have f1:=Ld (implNext hv s.size s W.heap.size _ (nR _) h1 hr hb (nR _));have HB:=Ld hb;clear hv hls hb hr;go_enter Tryz.func85,Tryz.ntmps85;go_wp2_with fail;(with_reducible refine f1.out.mono ?_);rintro e w2 ⟨hg2,⟨t,v,r,ht,rfl,hr2,hv2⟩ | ⟨hno,rfl,s2,hr2⟩⟩
 ·have HB2:=Ld (HB.out.grown hg2 HB.out.size (fun k hk=>by injection hk with hk;omega));have c0:w2.cell? ⟨W.heap.size,0,none⟩=some (.string ⟨r.toArray⟩):=hr2.cellAt 0 (by omega);have HV2:=Ld hv2;cases r with
  | nil =>
   have HY:=Ld ((HT.out t).2 ht);clear hg2 hr2 hv2 ht HT HB;go_wp2;go_ret2;exact ⟨HB2.out,.inl ⟨t,v,HY.out,rfl,HV2.out⟩⟩
  | cons x r =>
   have HY:Hid (∀ t,¬ IsTm s.data.toList t):=fun u hu=>by
    have:=ht.uniq ((HT.out u).1 hu);cases this.2
   clear hg2 hr2 hv2 ht HT HB;go_wp2;go_ret2;exact ⟨HB2.out,.inr ⟨HY.out,rfl⟩⟩
 ·have HB2:=Ld (HB.out.grown hg2 HB.out.size (fun k hk=>by injection hk with hk;omega));have HY:Hid (∀ t,¬ IsTm s.data.toList t):=fun u hu=>hno u [] ((HT.out u).1 hu);clear hg2 hr2 hno HT HB;go_wp2;go_ret2;exact ⟨HB2.out,.inr ⟨HY.out,rfl⟩⟩
theorem IReps.at:∀ {W:World} {ts:List Tm} {vs:List Value},IReps W ts vs->∀ k (h:k < ts.length) (h2:k < vs.length),IRep W ts[k] vs[k]
 | _,[],[],_,_,h,_=>by simp at h
 | _,_ :: _,_ :: _,⟨h1,_⟩,0,_,_=>h1
 | _,_ :: _,_ :: _,⟨_,h2⟩,k+1,h,h3=>IReps.at h2 k (by simpa using h) (by simpa using h3)
 | _,[],_ :: _,h,_,_,_=>h.elim
 | _,_ :: _,[],h,_,_,_=>h.elim
theorem IReps.below {W W':World} (hb:Below W.heap.size W W') {ts:List Tm} {vs:List Value} (h:IReps W ts vs):IReps W' ts vs:=h.grown (grownBy_of_below hb none) (NoStr.none W)
def PartsAns (t:Tm) (W:World) (e:Ending) (W':World):Prop :=
 ∃ v vs,e=.returned v/\W'.ownsRow W.heap.size 115 1 v t.parts.length vs/\IReps W' t.parts vs/\Below W.heap.size W W'
theorem implPartsOf {t:Tm} {v:Value} {W:World} (h:IRep W t v):Calls Tryz.prog 200 #[v] W (PartsAns t W):=by
 cases t with
 | var n =>
  obtain ⟨g,rfl,hg⟩:=h;clear hg;have aApp:∀ v w,(Instr.typeAssert (.iface 202 v) 115 212 true).run Tryz.prog w=.ok (.tuple #[.pointer none,.bool false]) w:=fun v w=>by rw [taApp,iN (by decide)]
  have aLam:∀ v w,(Instr.typeAssert (.iface 202 v) 115 215 true).run Tryz.prog w=.ok (.tuple #[.pointer none,.bool false]) w:=fun v w=>by rw [taLam,iN (by decide)]
  have aPi:∀ v w,(Instr.typeAssert (.iface 202 v) 115 218 true).run Tryz.prog w=.ok (.tuple #[.pointer none,.bool false]) w:=fun v w=>by rw [taPi,iN (by decide)]
  have aLet:∀ v w,(Instr.typeAssert (.iface 202 v) 115 221 true).run Tryz.prog w=.ok (.tuple #[.pointer none,.bool false]) w:=fun v w=>by rw [taLet,iN (by decide)]
  go_enter Tryz.func200,Tryz.ntmps200;go_wp2;go_ret;exact ⟨_,[],rfl,World.ownsRow_nil _ _ _ _,trivial,bR _ _⟩
 | sort n =>
  obtain ⟨g,rfl,hg⟩:=h;clear hg;have aApp:∀ v w,(Instr.typeAssert (.iface 120 v) 115 212 true).run Tryz.prog w=.ok (.tuple #[.pointer none,.bool false]) w:=fun v w=>by rw [taApp,iN (by decide)]
  have aLam:∀ v w,(Instr.typeAssert (.iface 120 v) 115 215 true).run Tryz.prog w=.ok (.tuple #[.pointer none,.bool false]) w:=fun v w=>by rw [taLam,iN (by decide)]
  have aPi:∀ v w,(Instr.typeAssert (.iface 120 v) 115 218 true).run Tryz.prog w=.ok (.tuple #[.pointer none,.bool false]) w:=fun v w=>by rw [taPi,iN (by decide)]
  have aLet:∀ v w,(Instr.typeAssert (.iface 120 v) 115 221 true).run Tryz.prog w=.ok (.tuple #[.pointer none,.bool false]) w:=fun v w=>by rw [taLet,iN (by decide)]
  go_enter Tryz.func200,Tryz.ntmps200;go_wp2;go_ret;exact ⟨_,[],rfl,World.ownsRow_nil _ _ _ _,trivial,bR _ _⟩
 | const n ls =>
  obtain ⟨g,u,rfl,hg,hu⟩:=h;clear hu hg;have aApp:∀ v w,(Instr.typeAssert (.iface 124 v) 115 212 true).run Tryz.prog w=.ok (.tuple #[.pointer none,.bool false]) w:=fun v w=>by rw [taApp,iN (by decide)]
  have aLam:∀ v w,(Instr.typeAssert (.iface 124 v) 115 215 true).run Tryz.prog w=.ok (.tuple #[.pointer none,.bool false]) w:=fun v w=>by rw [taLam,iN (by decide)]
  have aPi:∀ v w,(Instr.typeAssert (.iface 124 v) 115 218 true).run Tryz.prog w=.ok (.tuple #[.pointer none,.bool false]) w:=fun v w=>by rw [taPi,iN (by decide)]
  have aLet:∀ v w,(Instr.typeAssert (.iface 124 v) 115 221 true).run Tryz.prog w=.ok (.tuple #[.pointer none,.bool false]) w:=fun v w=>by rw [taLet,iN (by decide)]
  go_enter Tryz.func200,Tryz.ntmps200;go_wp2;go_ret;exact ⟨_,[],rfl,World.ownsRow_nil _ _ _ _,trivial,bR _ _⟩
 | app a b =>
  obtain ⟨g,x,y,rfl,hg,hx,hy⟩:=h;have HX:=Ld hx;have HY:=Ld hy;obtain ⟨T0,x0,rfl⟩:=hx.iface;obtain ⟨T1,y0,rfl⟩:=hy.iface;have c0:W.cell? ⟨g,0,none⟩=some (.iface T0 x0):=(by rw [Lib.cell_of_heap hg];rfl);have c1:W.cell? ⟨g,1,none⟩=some (.iface T1 y0):=(by rw [Lib.cell_of_heap hg];rfl);clear hx hy hg;have aApp:∀ v w,(Instr.typeAssert (.iface 212 v) 115 212 true).run Tryz.prog w=.ok (.tuple #[v,.bool true]) w:=fun v w=>by rw [taApp,iP rfl]
  go_enter Tryz.func200,Tryz.ntmps200;go_wp2;go_region
  all_goals
   go_wp2;go_ret;have hb2:=(below_drewN (bR W.heap.size W) 1).alloc (nR _) (.cells #[.iface T0 x0,.iface T1 y0] 115);have hrow:=World.ownsRow_lit (size:=1) (base:=W.heap.size) (e:=115) (W.drewN 1) #[.iface T0 x0,.iface T1 y0] 2 (nR _) (by decide) (by simp);exact ⟨_,[.iface T0 x0,.iface T1 y0],rfl,hrow,⟨HX.out.below hb2,HY.out.below hb2,trivial⟩,hb2⟩
 | lam a b =>
  obtain ⟨g,x,y,rfl,hg,hx,hy⟩:=h;have HX:=Ld hx;have HY:=Ld hy;obtain ⟨T0,x0,rfl⟩:=hx.iface;obtain ⟨T1,y0,rfl⟩:=hy.iface;have c0:W.cell? ⟨g,0,none⟩=some (.iface T0 x0):=(by rw [Lib.cell_of_heap hg];rfl);have c1:W.cell? ⟨g,1,none⟩=some (.iface T1 y0):=(by rw [Lib.cell_of_heap hg];rfl);clear hx hy hg;have aApp:∀ v w,(Instr.typeAssert (.iface 215 v) 115 212 true).run Tryz.prog w=.ok (.tuple #[.pointer none,.bool false]) w:=fun v w=>by rw [taApp,iN (by decide)]
  have aLam:∀ v w,(Instr.typeAssert (.iface 215 v) 115 215 true).run Tryz.prog w=.ok (.tuple #[v,.bool true]) w:=fun v w=>by rw [taLam,iP rfl]
  go_enter Tryz.func200,Tryz.ntmps200;go_wp2;go_region
  all_goals
   go_wp2;go_ret;have hb2:=(below_drewN (bR W.heap.size W) 1).alloc (nR _) (.cells #[.iface T0 x0,.iface T1 y0] 115);have hrow:=World.ownsRow_lit (size:=1) (base:=W.heap.size) (e:=115) (W.drewN 1) #[.iface T0 x0,.iface T1 y0] 2 (nR _) (by decide) (by simp);exact ⟨_,[.iface T0 x0,.iface T1 y0],rfl,hrow,⟨HX.out.below hb2,HY.out.below hb2,trivial⟩,hb2⟩
 | pi a b =>
  obtain ⟨g,x,y,rfl,hg,hx,hy⟩:=h;have HX:=Ld hx;have HY:=Ld hy;obtain ⟨T0,x0,rfl⟩:=hx.iface;obtain ⟨T1,y0,rfl⟩:=hy.iface;have c0:W.cell? ⟨g,0,none⟩=some (.iface T0 x0):=(by rw [Lib.cell_of_heap hg];rfl);have c1:W.cell? ⟨g,1,none⟩=some (.iface T1 y0):=(by rw [Lib.cell_of_heap hg];rfl);clear hx hy hg;have aApp:∀ v w,(Instr.typeAssert (.iface 218 v) 115 212 true).run Tryz.prog w=.ok (.tuple #[.pointer none,.bool false]) w:=fun v w=>by rw [taApp,iN (by decide)]
  have aLam:∀ v w,(Instr.typeAssert (.iface 218 v) 115 215 true).run Tryz.prog w=.ok (.tuple #[.pointer none,.bool false]) w:=fun v w=>by rw [taLam,iN (by decide)]
  have aPi:∀ v w,(Instr.typeAssert (.iface 218 v) 115 218 true).run Tryz.prog w=.ok (.tuple #[v,.bool true]) w:=fun v w=>by rw [taPi,iP rfl]
  go_enter Tryz.func200,Tryz.ntmps200;go_wp2;go_region
  all_goals
   go_wp2;go_ret;have hb2:=(below_drewN (bR W.heap.size W) 1).alloc (nR _) (.cells #[.iface T0 x0,.iface T1 y0] 115);have hrow:=World.ownsRow_lit (size:=1) (base:=W.heap.size) (e:=115) (W.drewN 1) #[.iface T0 x0,.iface T1 y0] 2 (nR _) (by decide) (by simp);exact ⟨_,[.iface T0 x0,.iface T1 y0],rfl,hrow,⟨HX.out.below hb2,HY.out.below hb2,trivial⟩,hb2⟩
 | lett a b c =>
  obtain ⟨g,x,y,z,rfl,hg,hx,hy,hz⟩:=h;have HX:=Ld hx;have HY:=Ld hy;have HZ:=Ld hz;obtain ⟨T0,x0,rfl⟩:=hx.iface;obtain ⟨T1,y0,rfl⟩:=hy.iface;obtain ⟨T2,z0,rfl⟩:=hz.iface;have c0:W.cell? ⟨g,0,none⟩=some (.iface T0 x0):=(by rw [Lib.cell_of_heap hg];rfl);have c1:W.cell? ⟨g,1,none⟩=some (.iface T1 y0):=(by rw [Lib.cell_of_heap hg];rfl);have c2:W.cell? ⟨g,2,none⟩=some (.iface T2 z0):=(by rw [Lib.cell_of_heap hg];rfl);clear hx hy hz hg;have aApp:∀ v w,(Instr.typeAssert (.iface 221 v) 115 212 true).run Tryz.prog w=.ok (.tuple #[.pointer none,.bool false]) w:=fun v w=>by rw [taApp,iN (by decide)]
  have aLam:∀ v w,(Instr.typeAssert (.iface 221 v) 115 215 true).run Tryz.prog w=.ok (.tuple #[.pointer none,.bool false]) w:=fun v w=>by rw [taLam,iN (by decide)]
  have aPi:∀ v w,(Instr.typeAssert (.iface 221 v) 115 218 true).run Tryz.prog w=.ok (.tuple #[.pointer none,.bool false]) w:=fun v w=>by rw [taPi,iN (by decide)]
  have aLet:∀ v w,(Instr.typeAssert (.iface 221 v) 115 221 true).run Tryz.prog w=.ok (.tuple #[v,.bool true]) w:=fun v w=>by rw [taLet,iP rfl]
  go_enter Tryz.func200,Tryz.ntmps200;go_wp2;go_region
  all_goals
   go_wp2;go_ret;have hb2:=(below_drewN (bR W.heap.size W) 1).alloc (nR _) (.cells #[.iface T0 x0,.iface T1 y0,.iface T2 z0] 115);have hrow:=World.ownsRow_lit (size:=1) (base:=W.heap.size) (e:=115) (W.drewN 1) #[.iface T0 x0,.iface T1 y0,.iface T2 z0] 3 (nR _) (by decide) (by simp);exact ⟨_,[.iface T0 x0,.iface T1 y0,.iface T2 z0],rfl,hrow,⟨HX.out.below hb2,HY.out.below hb2,HZ.out.below hb2,trivial⟩,hb2⟩
theorem Tm.parts_size:∀ (t:Tm),∀ p∈t.parts,p.size < t.size
 | .var _,p,h=>by simp [Tm.parts] at h
 | .sort _,p,h=>by simp [Tm.parts] at h
 | .const _ _,p,h=>by simp [Tm.parts] at h
 | .app a b,p,h=>by
  have:=a.size_pos;have:=b.size_pos;simp only [Tm.parts,List.mem_cons,List.not_mem_nil,or_false] at h;rcases h with rfl | rfl<;>simp only [Tm.size]<;>omega
 | .lam a b,p,h=>by
  have:=a.size_pos;have:=b.size_pos;simp only [Tm.parts,List.mem_cons,List.not_mem_nil,or_false] at h;rcases h with rfl | rfl<;>simp only [Tm.size]<;>omega
 | .pi a b,p,h=>by
  have:=a.size_pos;have:=b.size_pos;simp only [Tm.parts,List.mem_cons,List.not_mem_nil,or_false] at h;rcases h with rfl | rfl<;>simp only [Tm.size]<;>omega
 | .lett a b c,p,h=>by
  have:=a.size_pos;have:=b.size_pos;have:=c.size_pos;simp only [Tm.parts,List.mem_cons,List.not_mem_nil,or_false] at h;rcases h with rfl | rfl | rfl<;>simp only [Tm.size]<;>omega
theorem implTermOk (s:ByteArray) (W:World) (hv:Vars W) (hs:s.size<=maxLen) :
  Rt 131 #[.string s] W (.bool (termOk s.data.toList)):=by
 have f1:=Ld (implReadTerm s W hv hs);clear hv hs;go_enter Tryz.func131,Tryz.ntmps131;go_wp2_with fail;(with_reducible refine f1.out.mono ?_);rintro e w1 ⟨hb,⟨t,v,ht,rfl,hr⟩ | ⟨hno,rfl⟩⟩
 ·have HB:=Ld hb;have HE:Hid (termOk s.data.toList=true):=(by rw [Hid,termOk,termOf_some ht];rfl);clear hb ht hr f1;go_wp2;go_ret;rw [HE.out];exact ⟨rfl,HB.out⟩
 ·have HB:=Ld hb;have HE:Hid (termOk s.data.toList=false):=(by rw [Hid,termOk,termOf_none hno];rfl);clear hb hno f1;go_wp2;go_ret;rw [HE.out];exact ⟨rfl,HB.out⟩
end Go.Proofs.YtcaahdjhbmmcnaaGreatDoor
