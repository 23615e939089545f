/- KI1 KI2 KI3 -/
import Derived.RangeFuncBox
import Derived.Maps.AppendAt
import Derived.RangeFuncCalls
import Derived.RangeFuncWrites
import Derived.RegionIn
import Derived.Shelf.RegionOpen
import Derived.Laws.Cover3
import Derived.Test.YtcaahdjhbmmcnaaGreatDoorTR1
import Derived.Test.YtcaahdjhbmmcnaaGreatDoorTQ1
import Derived.Test.YtcaahdjhbmmcnaaGreatDoorTP3
import Derived.Test.YtcaahdjhbmmcnaaGreatDoorTH1
import Derived.Test.YtcaahdjhbmmcnaaGreatDoorTKC
import Derived.Test.YtcaahdjhbmmcnaaGreatDoorTKB
import Derived.Test.YtcaahdjhbmmcnaaGreatDoorTJ0
set_option maxRecDepth 100000
set_option maxHeartbeats 16000000
set_option linter.unusedSimpArgs false
set_option linter.unusedVariables false
namespace Go.Proofs.YtcaahdjhbmmcnaaGreatDoor
open Go.ChangeShapes Go.WideShapes Go.ChangeAt Go.RowKit Go.Shelf
attribute [local go_sem] Oper.semAt_some
def yM6 (ts:List Tm) (w:World) (e:Ending) (w':World):Prop :=
 ∃ u vs,e=.returned u/\w'.ownsRow w.heap.size 115 1 u ts.length vs/\xX w' ts vs/\Below w.heap.size w w'
theorem yW1{w W:World}(hB:Below w.heap.size w W):∀ ys:List (Pq w),xX W (tJ ys) (ys.map fun x=>x.1.2)
|[]=>trivial
|x::ys=>⟨yG.below hB x.2,yW1 hB ys⟩
theorem bK(gf:Nat)(lb:Array Value)(ts:List Tm)(w:World)(eg:∀ args w,(callFunc gf args).run Tryz.prog w=.ok (.enter gf args) w)(hn:ts.length<=2000)
  (hseq:∀ n,1<=n->SeqStopsK Fence.wide n Tryz.prog gf lb (fun x:Pq w=>#[x.1.2]) (Below w.heap.size) (fun ys=>tJ ys=ts) (fun _=>True) ts.length w) :
  Calls Tryz.prog 226 #[.slice none 0 0,.func (.func gf) #[] lb] w (yM6 ts w):=by
 obtain⟨i0,hi,hz0,hz1',hz2⟩:=info_parts mW;refine(callsIn_wide (n:=3)).1 ?_;refine callsIn_of_wp_marks Tryz.func226 rfl trivial ?_ rfl;simp only[Tryz.ntmps226,List.size_toArray,lC,List.length_nil,Nat.reduceAdd,Nat.reduceSub,Array.replicate_succ,Array.replicate_zero,List.push_toArray,List.append_toArray,List.nil_append,List.cons_append]
 gi_wp2
 have bO:=Boxed.new w 188 (.slice none 0 0);have hB0:Below w.heap.size w (w.alloc (.cells #[.slice none 0 0] 188)):=(bR _ w).alloc (nR _) _;refine wpIn_rangeFunc_ownG rfl (by omega) (gf:=gf) (lb:=lb) rfl trivial eg (hseq _ (by omega)) belowK_t (belowK_b (by simp)) hB0 (fun _=>rfl)
  (fun (pre:List (Pq w)) W=>(∃ v,Boxed W w.heap.size 188 v/\W.ownsRow w.heap.size 115 1 v pre.length (pre.map fun x=>x.1.2)/\True)/\Below w.heap.size w W)
  (fun _ _ _=>False)
  (OwnFrom.and (Own.from (holdsRow_own w.heap.size w.heap.size 188 115 1 (fun pre:List (Pq w)=>pre.length) (fun pre:List (Pq w)=>pre.map fun x=>x.1.2) (fun _ _=>True)) _) (ownFrom_below (nR _) (by simp)))
  (fun _ _ _ _ _ hs _ _=>hs) ⟨⟨_,bO,World.ownsRow_nil _ _ _ _,trivial⟩,hB0⟩
  (fun x:Pq w=>{ tmps:=#[.slice none 0 0,.func (.func gf) #[] lb,.pointer (some ⟨w.heap.size,0,none⟩),undef,.slice none 0 0,x.1.2,.func (.func gf) #[] lb,x.1.2,undef,undef,undef,undef,undef],defers:=[] }) ?assign ?body ?done ?stop
 case assign =>
  intro l x W K hK
  gi_wp2
  exact hK
 case body =>
  rintro l pre ⟨⟨tm,tv⟩,hr0⟩ W ⟨⟨v,hv1,hrow,-⟩,hB⟩ hlt;obtain⟨T0,x0,rfl⟩:=yG.iface hr0;have hlt2:pre.length<2000:=(by omega);have hc:=hv1.cell;have hz1:=hB.size
  gi_wp2_with (gi_at_builtin;refine wpListIn_append_own _ rfl _ _ 188 rfl w.heap.size 115 i0 .nilIface 1 16 Tryz.underlying188 hi hz0 hz1' hz2 rfl (by decide) _ _ _ rfl (hrow.alloc _) ⟨W.heap.size,0,none⟩ 1 1 [.iface T0 x0] rfl rfl (yI _ _ _) (by simp[Value.oneCell']) (by simp only[maxLen];omega) (by omega) (by simp;omega) ?_;intro v' w' r1 r2 _;obtain⟨p1,p2,p3,p4,p5⟩:=hv1.appended (by decide) hrow hz1 (nR _) r1 r2;have hc2:=p1.cell;have hf2:=p1.frozen;obtain⟨va,vc,rfl⟩:=zP r1)
  have hrow3:(w'.setCell ⟨w.heap.size,0,none⟩ (.slice va (pre.length+1) vc)).ownsRow w.heap.size 115 1 (.slice va (pre.length+1) vc) (pre++[(⟨(tm,.iface T0 x0),hr0⟩:Pq w)]).length ((pre++[(⟨(tm,.iface T0 x0),hr0⟩:Pq w)]).map fun x=>x.1.2):=by
   rw[lA,List.map_append];exact p3
  exact⟨p4.from _,p5,⟨_,p2,hrow3⟩,hB.trans p5⟩
 case done =>
  rintro D ys W hD hys ⟨⟨v,hv1,hrow,-⟩,hB⟩ hK;have hc:=hv1.cell
  gi_wp2
  refine⟨by simp,.inl ⟨_,_,rfl,run_takeDeferred hK,?_⟩⟩;have hb9:=hB.trans (belowK_b (w:=w) (nR _) W D _ (.deferred none) (by simp at hD;omega) hK rfl rfl);refine⟨_,results_tmp rfl _ _ _,v,ys.map (fun x=>x.1.2),rfl,?_,?_,hb9⟩
  ·have h1:=ownsRow_putObj hrow (.deferred none) hK rfl;rw[← hys,lP];exact h1
  ·rw[← hys];exact yW1 hb9 ys
 case stop =>
  rintro D c pre W _ _ h _;exact h.elim
theorem zN9(gf:Nat)(lb:Array Value)(ts:List Tm)(w:World)(eg:∀ args w,(callFunc gf args).run Tryz.prog w=.ok (.enter gf args) w)(hn:ts.length<=2000)
  (hseq:∀ n,1<=n->SeqStopsK Fence.wide n Tryz.prog gf lb (fun x:Pq w=>#[x.1.2]) (Below w.heap.size) (fun ys=>tJ ys=ts) (fun _=>True) ts.length w) :
  Calls Tryz.prog 189 #[.func (.func gf) #[] lb] w (yM6 ts w):=by
 have f1:=Ld (bK gf lb ts w eg hn hseq);clear hseq;go_enter Tryz.func189,Tryz.ntmps189;go_wp2_with fail;(with_reducible refine f1.out.mono ?_);rintro e w1 ⟨u,vs,rfl,h1,h2,h3⟩;have H:=And.intro h1 (And.intro h2 h3);obtain⟨ua,uc,rfl⟩:=zP h1;clear f1 h1 h2 h3;have H:=Ld H;go_wp2;go_ret;exact⟨_,_,rfl,H.out.1,H.out.2.1,H.out.2.2⟩
theorem jA{t:Tm}{v:Value}{w:World}(hr:yG w t v)(hn:t.doms.length<=2000) :
  Calls Tryz.prog 189 #[.func (.func 227) #[] #[.pointer (some ⟨w.heap.size,0,none⟩)]] (w.alloc (.cells #[v] 115)) fun e w'=>∃ u vs,e=.returned u/\w'.ownsRow w.heap.size 115 1 u t.doms.length vs/\xX w' t.doms vs/\Below w.heap.size w w':=by
 have hb2:Below w.heap.size w (w.alloc (.cells #[v] 115)):=(bR _ _).alloc (nR _) _;have hb3:Below w.heap.size w (w.alloc (.cells #[v] 115)):=hb2
 refine(zN9 227 #[.pointer (some ⟨w.heap.size,0,none⟩)] t.doms (w.alloc (.cells #[v] 115)) (enters_of Tryz.func227 (by kernel_rfl) rfl) hn
  (fun n hn1=>zZ3 Fence.wide n hn1 trivial rfl w.heap.size v t _ (by simp) (by simp) (hr.below hb2))).mono ?_
 rintro e w' ⟨u,vs,rfl,h1,h2,h3⟩;exact⟨u,vs,rfl,iO h1 hb2.size,h2,hb2.trans (h3.mono hb2.size)⟩
end Go.Proofs.YtcaahdjhbmmcnaaGreatDoor
namespace Go.Proofs.YtcaahdjhbmmcnaaGreatDoor
open Go.ChangeShapes Go.WideShapes Go.ChangeAt Go.RowKit
theorem zH9(n q:Nat):(rL n q).length=n:=by simp[rL]
theorem yA0{n q k:Nat}(h:k<n):(rL n q).take (k+1)=(rL n q).take k++[.var (n - 1 - k+q)]:=by
 rw[List.take_succ_eq_append_getElem (by rw[zH9];exact h)];simp[rL]
theorem mT(a:Nat):∀ (t:Tm) (c:Nat),(t.lift a c).doms.length=t.doms.length
|.var _,_=>rfl
|.sort _,_=>rfl
|.const _ _,_=>rfl
|.app _ _,_=>rfl
|.lam _ _,_=>rfl
|.pi f b,c=>by
  show (b.lift a (c+1)).doms.length+1=b.doms.length+1;rw[mT a b (c+1)]
|.lett _ _ _,_=>rfl
theorem oE{t:Tm}{v:Value}{W:World}(n q:Nat)(hn:n<=2000)(hq:q<=3000)(hr:yG W t v) :
  Calls Tryz.prog 225 #[v,.int .i64 (n:Int),.int .i64 (q:Int)] W (fA (t.given (rL n q)) W):=by
 obtain⟨T0,x0,rfl⟩:=hr.iface;have HR:=Ld hr;have hw0:IntKind.i64.wrap ((n:Int) - 1)=(n:Int) - 1:=IntWalk.i64_in _ (by omega);clear hr;go_enter Tryz.func225,Tryz.ntmps225;go_wp2;go_loopw [0,7] (fun o i wr=>∃ (k:Nat) (oo:Value),((k=n/\i=.int .i64 (-1))\/∃ j:Nat,n=k+j+1/\i=.int .i64 (j:Int))/\k<=n/\oo=o/\Hid (yG wr (t.given ((rL n q).take k)) oo)/\Hid (Below W.heap.size W wr)) (fun _ i _=>(intOf i+1).toNat)
 case atStart =>
  refine⟨0,_,?_,Nat.zero_le _,rfl,by rw[List.take_zero];exact HR.out,bR _ _⟩;rcases Nat.eq_zero_or_pos n with hl|hl
  ·exact .inl ⟨hl.symm,by rw[hl];rfl⟩
  ·obtain⟨j,hj⟩:∃ j,n=j+1:=⟨n - 1,by omega⟩;exact .inr ⟨j,by omega,by rw[hj];congr 1;omega⟩
 case round =>
  obtain⟨k,oo,hk,hkn,rfl,HO,HB⟩:=hrel;rcases hk with ⟨rfl,rfl⟩|⟨j,hj,rfl⟩
  ·have HE:Hid ((rL k q).take k=rL k q):=(by rw[Hid,List.take_of_length_le];rw[zH9];exact nR _);have HO2:=HO.out;rw[HE.out] at HO2;obtain⟨T1,x1,rfl⟩:=HO2.iface;have HO3:=Ld HO2;clear HO2 HO;go_wp2;go_ret;exact⟨_,_,rfl,HO3.out,HB.out⟩
  ·have hlt:k<n:=(by omega);have HT:Hid (t.given ((rL n q).take (k+1))=.app (t.given ((rL n q).take k)) (.var (j+q))):=by
    rw[Hid,yA0 hlt,dJ,show n - 1 - k+q=j+q by omega]
   have hw1:IntKind.i64.wrap ((q:Int)+(j:Int))=((j+q:Nat):Int):=(by rw[IntWalk.i64_in _ (by omega)];omega);have hw2:IntKind.i64.wrap ((j:Int) - 1)=(j:Int) - 1:=IntWalk.i64_in _ (by omega);have HJ:=Ld hj;have HO2:=HO.out;obtain⟨T1,x1,rfl⟩:=HO2.iface;have HO3:=Ld HO2;have hjb:j<=2000:=(by omega);clear HO2 HO HR hj;have B1:=Below.alloc (bR wr.heap.size wr) (nR _) (.cells #[.int .i64 ((j:Int)+(q:Int))] 204);have B2:=B1.alloc B1.size (.cells #[.iface T1 x1,.iface 202 (.pointer (some ⟨wr.heap.size,0,none⟩))] 214);have hg2:=heap_alloc_new (wr.alloc (.cells #[.int .i64 ((j:Int)+(q:Int))] 204)) (.cells #[.iface T1 x1,.iface 202 (.pointer (some ⟨wr.heap.size,0,none⟩))] 214);rw[World.size_alloc] at hg2;have hg1:=(Below.heap_alloc (wr.alloc (.cells #[.int .i64 ((j:Int)+(q:Int))] 204)) (.cells #[.iface T1 x1,.iface 202 (.pointer (some ⟨wr.heap.size,0,none⟩))] 214) wr.heap.size (by simp)).trans (heap_alloc_new wr _);have HN:Hid (yG ((wr.alloc (.cells #[.int .i64 ((j:Int)+(q:Int))] 204)).alloc (.cells #[.iface T1 x1,.iface 202 (.pointer (some ⟨wr.heap.size,0,none⟩))] 214)) (t.given ((rL n q).take (k+1))) (.iface 212 (.pointer (some ⟨wr.heap.size+1,0,none⟩)))):=by
    rw[Hid,HT.out];exact⟨_,_,_,rfl,hg2,HO3.out.below B2,⟨_,rfl,by rw[show (((j+q:Nat)):Int)=(j:Int)+(q:Int) by omega];exact hg1⟩⟩
   have HB2:Hid (Below W.heap.size W ((wr.alloc (.cells #[.int .i64 ((j:Int)+(q:Int))] 204)).alloc (.cells #[.iface T1 x1,.iface 202 (.pointer (some ⟨wr.heap.size,0,none⟩))] 214))):=HB.out.trans (B2.mono HB.out.size);clear B1 B2 hg1 hg2;go_wp2;go_roundw
   case rel =>
    have hj:=HJ.out;refine⟨k+1,_,?_,by omega,rfl,HN.out,HB2.out⟩;cases j with
   |zero=>exact .inl ⟨by omega,by first|rfl|go_num⟩
   |succ j=>exact .inr ⟨j,by omega,by go_num⟩
   case measure=>simp[intOf]<;>omega
theorem zD9{W:World}{dom:Tm}{vd vh va:Value}{m a:Nat}(hd:yG W dom vd)(hh:yG W (.var m) vh)(hv:yG W (.var a) va)(hm:m<=2500)(ha:a<=2500)(hl:dom.doms.length<=499) :
  Calls Tryz.prog 224 #[.func (.func 182) #[] #[],vd,vh,va] W (fA (Tm.arrows dom.doms (.app (.var (m+dom.doms.length)) ((Tm.var (a+dom.doms.length)).given (jU dom.doms.length)))) W):=by
 obtain⟨T0,x0,rfl⟩:=hd.iface;obtain⟨T1,x1,rfl⟩:=hh.iface;obtain⟨T2,x2,rfl⟩:=hv.iface;have f1:=Ld (sO T0 x0 W);have f2:=Ld (jA hd (by omega));have HH:=Ld hh;have HV:=Ld hv;generalize dom.doms=dd at f2 hl |-;clear hd hh hv;go_enter Tryz.func224,Tryz.ntmps224;go_wp2_with fail;(with_reducible refine mo f1.out ?_);rintro w1 rfl;clear f1;generalize hwb:W.alloc (.cells #[.iface T0 x0] 115)=wb at f2 |-;clear hwb;go_wp2_with fail;(with_reducible refine f2.out.mono ?_);rintro e w2 ⟨u,vs,rfl,hu,hvs,hb2⟩;have HB2:=Ld hb2;have HU:=Ld hu;have HS:=Ld hvs;obtain⟨ua,uc,rfl⟩:=zP hu;have f3:=Ld (gC dd.length 0 (by omega) (by omega) (by omega) (HV.out.below hb2));rw[show (Tm.var a).lift dd.length 0=.var (a+dd.length) by rw[Tm.lift,iP (Nat.zero_le _)],show ((0:Nat):Int)=0 from rfl] at f3;clear f2 hb2 hu hvs;go_wp2_with fail;(with_reducible refine f3.out.mono ?_);rintro e w3 ⟨T3,x3,rfl,hr3,hb3⟩;have HB3:=bt HB2.out hb3;have f4:=Ld (oE dd.length 0 (by omega) (by omega) hr3);rw[show ((0:Nat):Int)=0 from rfl] at f4;have HS3:=Ld (HS.out.below hb3);have HU3:=Ld (zA HU.out hb3);clear hb3 hr3 f3 HS HU HB2;go_wp2_with fail;(with_reducible refine f4.out.mono ?_);rintro e w4 ⟨T4,x4,rfl,hr4,hb4⟩;have HB4:=bt HB3.out hb4;have HR4:=Ld hr4;have f5:=Ld (gC dd.length 0 (by omega) (by omega) (by omega) (HH.out.below HB4.out));rw[show (Tm.var m).lift dd.length 0=.var (m+dd.length) by rw[Tm.lift,iP (Nat.zero_le _)],show ((0:Nat):Int)=0 from rfl] at f5;have HS4:=Ld (HS3.out.below hb4);have HU4:=Ld (zA HU3.out hb4)
 clear hb4 hr4 f4 HS3 HU3 HB3;go_wp2_with fail;(with_reducible refine f5.out.mono ?_);rintro e w5 ⟨T5,x5,rfl,hr5,hb5⟩;have HB5:=bt HB4.out hb5;have HR5:=Ld hr5;have HR4':=Ld (HR4.out.below hb5);have HS5:=Ld (HS4.out.below hb5);have HU5:=Ld (zA HU4.out hb5);clear hb5 hr5 f5 HS4 HU4 HB4 HR4;have BA:=Below.alloc (bR w5.heap.size w5) (nR _) (.cells #[.iface T5 x5,.iface T4 x4] 214);have hrA:yG (w5.alloc (.cells #[.iface T5 x5,.iface T4 x4] 214)) (.app (.var (m+dd.length)) ((Tm.var (a+dd.length)).given (rL dd.length 0))) (.iface 212 (.pointer (some ⟨w5.heap.size,0,none⟩))):=⟨_,_,_,rfl,heap_alloc_new _ _,HR5.out.below BA,HR4'.out.below BA⟩;have f6:=Ld (kC hrA (zA HU5.out BA) (HS5.out.below BA) (by omega));have HB6:=bt HB5.out BA;clear BA hrA HR5 HR4' HS5 HU5 HB5;go_wp2_with fail;(with_reducible refine f6.out.mono ?_);rintro e w6 ⟨hb6,v6,rfl,hr6⟩;have HB7:=bt HB6.out hb6;obtain⟨T6,x6,rfl⟩:=hr6.iface;have HR6:=Ld hr6;clear hb6 hr6 f6 HB6;go_wp2;go_ret;exact⟨_,_,rfl,HR6.out,HB7.out⟩
theorem jG{w:World}{o:Oper}{a:Act}{K:Act->World->Prop}{Q:Exit->Act->World->Prop}(s x:Operand)
  (ho:o.op=.call { callee:=.builtin .append,args:=#[s,x],argTypes:=#[188,188] }) {n b1 b2:Nat} {v2:Value} {l2:List Value}
  (hs:a.eval s=.slice (some ⟨n,0,none⟩) 0 0) (hx:a.eval x=v2) (h1:w.ownsRow b1 115 1 (.slice (some ⟨n,0,none⟩) 0 0) 0 []) (h2:w.ownsRow b2 115 1 v2 l2.length (l2)) (hn:l2.length<=1000000)
  (hbb:b1<=w.heap.size) (h:∀ v' w',w'.ownsRow b1 115 1 v' l2.length (l2)->Below w.heap.size w w'->K (a.put o.dst v') w'):o.wp Tryz.prog a w K Q:=by
 obtain⟨i0,hi,iz0,iz1,iz2⟩:=info_parts mW;by_cases hpos:0<l2.length;rotate_left
 ·obtain rfl:l2=[]:=List.length_eq_zero_iff.1 (by omega);rcases id h2.2 with ⟨e,e0⟩|⟨g,cap,cur,e,hbg,hg,hnc,hm,hsz,ht⟩
  ·have hK:K (a.put o.dst (.slice (some ⟨n,0,none⟩) 0 0)) w:=h _ _ h1 (bR _ _);have hrun:=run_append_owned_none (P:=Tryz.prog) (w:=w) b1 188 o.type 115 i0 1 Tryz.underlying188 hi _ _ _ h1;have hx':=hx.trans e;clear h h1 h2;unfold Oper.wp;simp[execOp,ho,resolve,invoke,builtin,hs,hx',hrun,Result.andThen];exact hK
  ·have hK:K (a.put o.dst (.slice (some ⟨n,0,none⟩) 0 0)) w:=h _ _ h1 (bR _ _);have hu:Tryz.prog.underlying 188=some (.slice 115):=Tryz.underlying188;have hrun:(Builtin.append_ #[188,188] o.type #[.slice (some ⟨n,0,none⟩) 0 0,.slice (some ⟨g,0,none⟩) 0 cap]).run Tryz.prog w=.ok (.slice (some ⟨n,0,none⟩) 0 0) w:=by
    simp[Builtin.append_,run_underlying hu,sizeOf,typeInfo,hi,Builtin.lenOf,Builtin.firstCells,loadCells,loadCellsFrom,storeCells]
   have hx':=hx.trans e;clear h h1 h2;unfold Oper.wp execOp;simp only[ho,resolve,invoke,builtin,Sem.run_bind,Sem.run_pure,Result.andThen_ok,List.map_toArray,List.map_cons,List.map_nil,List.length_nil,hs,hx',hrun];exact hK
 ·obtain⟨g,cap,rfl,_,hgl⟩:=h2.form (by omega);have hr:=run_append_grow (P:=Tryz.prog) w 188 o.type 115 i0 _ Tryz.underlying188 hi iz0 ⟨n,0,none⟩ 0 0 [] (by simp) (by simp) ⟨g,0,none⟩ l2.length cap (l2) (by rw[iz1];omega) (h2.cells rfl) (by omega) (by omega) (growslice_fits (by omega) (by rw[iz2];omega));simp only[Nat.zero_add] at hr;have hge:=grownCap_ge w l2.length 0 115;have hcm:grownCap w l2.length 0 115<=maxLen:=grownCap_le_maxLen w l2.length 0 115 (by unfold maxLen;omega);have hrow:=fun h1 h2=>(⟨by simp,.inr ⟨w.heap.size,_,_,rfl,nR _,heap_alloc_new w.drew _,hge,hcm,h1,h2⟩⟩:World.ownsRow (w.drew.alloc (.cells (#[]++(l2).toArray++Builtin.zeroCells (Value.nilIface).cells (grownCap w l2.length 0 115 - l2.length)) 115)) w.heap.size 115 1 (.slice (some ⟨w.heap.size,0,none⟩) l2.length (grownCap w l2.length 0 115)) l2.length (l2))
  have hrow2:=hrow (by
   simp only[Array.size_append,List.size_toArray,size_zeroCells];simp[Value.cells];omega) (by
   simp only[Array.toList_append,List.append_assoc,Nat.mul_one];simp)
  have hb:=((bR w.heap.size w).drew).alloc (nR _) (.cells (#[]++(l2).toArray++Builtin.zeroCells (Value.nilIface).cells (grownCap w l2.length 0 115 - l2.length)) 115);have hK:=h _ _ (xR hrow2 hbb) hb;unfold Oper.wp execOp;simp only[ho,resolve,invoke,builtin,Sem.run_bind,Sem.run_pure,Result.andThen_ok,List.map_toArray,List.map_cons,List.map_nil,hs,hx,hr];exact hK
theorem yI7(a:Option Addr)(l c:Nat)(w:World):(binOp .eql 188 (.slice a l c) (.slice none 0 0)).run Tryz.prog w=.ok (.bool a.isNone) w:=by
 simp only[binOp];simp[run_equal_slice_nil w 188 115 a l c Tryz.underlying188]
theorem zA1{w:World}{b:Nat}{v:Value}{l:List Value}(h:w.ownsRow b 115 1 v l.length l)(hn:l.length<=1000000) :
  Calls Tryz.prog 222 #[v] w fun e w'=>∃ u,e=.returned u/\w'.ownsRow w.heap.size 115 1 u l.length l/\Below w.heap.size w w':=by
 obtain⟨ua,uc,rfl⟩:=zP h;cases ua with
|none =>
  have hl:l=[]:=by
   rcases id h.2 with ⟨e,e0⟩|⟨g,cap,cur,e,_⟩
   ·injection e with _ e2 _;exact List.length_eq_zero_iff.1 e2
   ·injection e with e1 _ _;cases e1
  subst hl;have hne:=fun W=>yI7 none 0 uc W;simp only[Option.isNone_none] at hne;show Calls _ _ #[.slice none 0 uc] _ _;clear h hn;go_enter Tryz.func222,Tryz.ntmps222;go_wp2;go_ret;exact⟨_,rfl,World.ownsRow_nil _ _ _ _,bR _ _⟩
|some p =>
  have hne:=fun W=>yI7 (some p) l.length uc W;simp only[Option.isNone_some] at hne;have b0:=(bR w.heap.size w).alloc (nR _) (.cells #[] 115);have r0:=World.ownsRow_lit (base:=w.heap.size) (e:=115) (size:=1) w #[] 0 (nR _) (by decide) (by simp);have HA:=h.alloc (.cells #[] 115);have HB0:=Ld b0;clear h b0;go_enter Tryz.func222,Tryz.ntmps222;go_wp2_with (at_builtin;refine wpList_step fun K hK=>?_;rw[iP (by rfl)];refine jG _ _ rfl rfl rfl r0 HA hn (by simp) ?_;intro u w2 h2 hb2;refine hK _ _ ?_);obtain⟨va,vc,rfl⟩:=zP h2;have H2:=Ld h2;have HB2:=bt HB0.out hb2;clear h2 hb2 r0 HA hK;go_wp2;go_ret;exact⟨_,rfl,xR H2.out (nR _),HB2.out⟩
theorem yP7{k n j q:Nat}{ds:List (Tm × Bool)}{acc:List Tm}(h:j<ds.length)(hf:ds[j].2=true):zR k n (ds.drop j) j q acc=zR k n (ds.drop (j+1)) (j+1) (q+1) (acc++[sX k n j q ds[j].1]):=by
 rw[List.drop_eq_getElem_cons h,zR,iP hf]
theorem yP8{k n j q:Nat}{ds:List (Tm × Bool)}{acc:List Tm}(h:j<ds.length)(hf:ds[j].2=false):zR k n (ds.drop j) j q acc=zR k n (ds.drop (j+1)) (j+1) q acc:=by
 rw[List.drop_eq_getElem_cons h,zR,iN (by rw[hf];decide)]
theorem zN0{W:World}{K:Nat}{nm:List UInt8}{lv:List (List UInt8)}{vc u1 u2:Value}{b1 b2:Nat}{ds:List (Tm × Bool)}{vs:List Value}(hc:yG W (.const nm lv) vc)(h1:W.ownsRow b1 115 1 u1 ds.length vs)(hs:xX W (ds.map Prod.fst) vs)
  (h2:W.ownsRow b2 3 1 u2 ds.length ((ds.map fun p=>if p.2=true then (1:Int) else 0).map iv)) (hds:∀ p∈ds,p.1.Ok/\p.1.bytes.length<=2000) (hn:ds.length<=499) (hK:K<=10) :
  Calls Tryz.prog 188 #[.int .i64 (K:Int),vc,u1,u2] W (fA (rA nm lv K ds) W):=by
 obtain⟨i0,hi,hz0,hz1,hz2⟩:=info_parts mW;obtain⟨T0,x0,rfl⟩:=hc.iface;obtain⟨a1,c1,rfl⟩:=zP h1;obtain⟨a2,c2,rfl⟩:=zP h2;have hvl:vs.length=ds.length:=by have:=hs.len;simpa using this
 have f1:=zA1 (l:=vs) (v:=.slice a1 ds.length c1) (by rw[hvl];exact h1) (by omega);rw[hvl] at f1;have f1:=Ld f1;have HC:=Ld hc;have H1:=Ld h1;have HS:=Ld hs;have H2:=Ld h2;have HVL:=Ld hvl;have HDS:=Ld hds;clear hc h1 hs h2 hvl hds;go_enter Tryz.func188,Tryz.ntmps188;go_wp2_with fail;(with_reducible refine f1.out.mono ?_);rintro e w1 ⟨u,rfl,hu,hb1⟩;obtain⟨ua,uc,rfl⟩:=zP hu;have HB1:=Ld hb1;have HU:=Ld hu;have HS1:=Ld (HS.out.below hb1);clear f1 hb1 hu;go_wp2;go_loopw [9,21] (fun o i wr=>∃ (k z:Nat) (bs:List Tm) (ws:List Value) (oo:Value),k<=ds.length/\i=.int .i64 k/\oo=o/\ds.length<=z/\z<=ds.length+k/\Hid (∃ q,z=ds.length+q/\zR K ds.length ds 0 0 (ds.map Prod.fst)=zR K ds.length (ds.drop k) k q bs)/\Hid (bs.length=z/\wr.ownsRow W.heap.size 115 1 oo z ws/\xX wr bs ws)/\Hid (Below W.heap.size W wr)) (fun _ i _=>ds.length - (intOf i).toNat)
 case atStart=>exact⟨0,ds.length,ds.map Prod.fst,vs,_,Nat.zero_le _,rfl,rfl,nR _,Nat.le_add_right _ _,⟨0,rfl,rfl⟩,⟨by simp,HU.out,HS1.out⟩,HB1.out⟩
 case round =>
  obtain⟨k,z,bs,ws,oo,hk,rfl,rfl,hz1',hz2',HR,HO,HB⟩:=hrel;clear HU HS1 HB1;obtain⟨oa,oc,eo⟩:=zP HO.out.2.1;subst eo;by_cases hlt:k<ds.length
  ·have hu1:=zA H1.out HB.out;obtain⟨g1,cap1,e1,_,hgl1⟩:=hu1.form (by omega);cases e1;have hu2:=zA H2.out HB.out;obtain⟨g2,cap2,e2,_,hgl2⟩:=hu2.form (by omega);cases e2;have hkv:k<vs.length:=(by rw[HVL.out];exact hlt);have ex1:vs[k]?=some vs[k]:=List.getElem?_eq_getElem hkv;have cc1:=(hu1.cellAt k (by omega)).trans ex1;have ex2:((ds.map fun p=>if p.2=true then (1:Int) else 0).map iv)[k]?=some (iv (if ds[k].2=true then (1:Int) else 0)):=(by simp[hlt]);have cc2:=(hu2.cellAt k (by omega)).trans ex2;unfold iv at cc2;have hre:=HS.out.at k (by simpa using hlt) hkv;rw[List.getElem_map] at hre;have hdk:=HDS.out ds[k] (List.getElem_mem hlt);have HSt:=Ld fun q acc hf=>yP7 (k:=K) (n:=ds.length) (q:=q) (acc:=acc) hlt hf;have HSk:=Ld fun q acc hf=>yP8 (k:=K) (n:=ds.length) (q:=q) (acc:=acc) hlt hf;have q1:=zn k;have q2:(k:Int)<(ds.length:Int):=(by omega);generalize ds[k]=p at cc2 hre hdk HSt HSk;generalize vs[k]=vk at cc1 hre;obtain⟨tm,fl⟩:=p;simp only at cc2 hre hdk HSt HSk;have hrw:=yG.below HB.out hre;obtain⟨T1,x1,rfl⟩:=hre.iface;have HK:=Ld hrw;have HOK:=Ld hdk;clear hu1 hu2 ex1 ex2 hre hdk hrw hgl1 hgl2 hkv;cases fl
   ·simp only[Bool.false_eq_true,if_false] at cc2;have HR2:Hid (∃ q,z=ds.length+q/\zR K ds.length ds 0 0 (ds.map Prod.fst)=zR K ds.length (ds.drop (k+1)) (k+1) q bs):=by
     obtain⟨q,e1,e2⟩:=HR.out;exact⟨q,e1,by rw[e2,HSk.out q bs rfl]⟩
    clear HR HSt HSk;go_wp2;go_roundw
    case rel=>exact⟨k+1,z,bs,ws,_,by omega,by go_num,rfl,hz1',by omega,HR2.out,HO.out,HB.out⟩
    case measure=>simp[intOf];omega
   simp only[if_true] at cc2;obtain⟨dk,hdk⟩:∃ dk,dk=z - k:=⟨_,rfl⟩;obtain⟨mm,hmm⟩:∃ mm,mm=K+z:=⟨_,rfl⟩;obtain⟨z1,hzz⟩:∃ z1,z=z1+1:=⟨z - 1,by omega⟩;obtain⟨aa,haa⟩:∃ aa,aa=z1 - k:=⟨_,rfl⟩;have hwd:IntKind.i64.wrap ((z:Int) - (k:Int))=(dk:Int):=(by rw[IntWalk.i64_in _ (by omega)];omega);have hwm:IntKind.i64.wrap ((K:Int)+(z:Int))=(mm:Int):=(by rw[IntWalk.i64_in _ (by omega)];omega);have hw1:IntKind.i64.wrap ((z:Int) - 1)=(z1:Int):=(by rw[IntWalk.i64_in _ (by omega)];omega);have hwa:IntKind.i64.wrap ((z1:Int) - (k:Int))=(aa:Int):=(by rw[IntWalk.i64_in _ (by omega)];omega);have b1':dk<=998:=(by omega);have b2':mm<=1008:=(by omega);have b3':aa<=998:=(by omega);have HR2:Hid (∃ q,z+1=ds.length+q/\zR K ds.length ds 0 0 (ds.map Prod.fst)=zR K ds.length (ds.drop (k+1)) (k+1) q (bs++[Tm.arrows (tm.lift dk 0).doms (.app (.var (mm+(tm.lift dk 0).doms.length)) ((Tm.var (aa+(tm.lift dk 0).doms.length)).given (jU (tm.lift dk 0).doms.length)))])):=by
    obtain⟨q,e1,e2⟩:=HR.out;refine⟨q+1,by omega,?_⟩;rw[e2,HSt.out q bs rfl];unfold sX jJ;rw[show ds.length - k+q=dk by omega,show K+ds.length+q=mm by omega,show ds.length - 1 - k+q=aa by omega]
   clear hdk hmm haa hzz;have hdl:(tm.lift dk 0).doms.length<=499:=(by rw[mT];exact oJ HOK.out.1 HOK.out.2);have hts:tm.size<=3000:=(by have:=Tm.size_le tm;have:=HOK.out.2;omega);have f2:=Ld (zN1 dk 0 (by omega) (by omega) HOK.out.1 hts HK.out);rw[show ((0:Nat):Int)=0 from rfl] at f2;clear HR HSt HSk HK;generalize tm.lift dk 0=lt at f2 HR2 hdl;go_wp2_with fail;(with_reducible refine f2.out.mono ?_);rintro e w2 ⟨T2,x2,rfl,hr2,hb2⟩;have B1:=Below.alloc (bR w2.heap.size w2) (nR _) (.cells #[.int .i64 (mm:Int)] 204);have B2:=B1.alloc B1.size (.cells #[.int .i64 (aa:Int)] 204);have hg2:=heap_alloc_new (w2.alloc (.cells #[.int .i64 (mm:Int)] 204)) (.cells #[.int .i64 (aa:Int)] 204);rw[World.size_alloc] at hg2;have hg1:=(Below.heap_alloc (w2.alloc (.cells #[.int .i64 (mm:Int)] 204)) (.cells #[.int .i64 (aa:Int)] 204) w2.heap.size (by simp)).trans (heap_alloc_new w2 _);have f3:=Ld (zD9 (m:=mm) (a:=aa) (vh:=.iface 202 (.pointer (some ⟨w2.heap.size,0,none⟩))) (va:=.iface 202 (.pointer (some ⟨w2.heap.size+1,0,none⟩))) (hr2.below B2) ⟨_,rfl,hg1⟩ ⟨_,rfl,hg2⟩ (by omega) (by omega) hdl);have hb4:=hb2.trans (B2.mono hb2.size);have HB4:=bt HB.out hb4;have HO4:Hid (bs.length=z/\((w2.alloc (.cells #[.int .i64 (mm:Int)] 204)).alloc (.cells #[.int .i64 (aa:Int)] 204)).ownsRow W.heap.size 115 1 (.slice oa z oc) z ws/\xX ((w2.alloc (.cells #[.int .i64 (mm:Int)] 204)).alloc (.cells #[.int .i64 (aa:Int)] 204)) bs ws):=⟨HO.out.1,zA HO.out.2.1 hb4,HO.out.2.2.below hb4⟩
   clear B1 B2 hg1 hg2 hr2 hb2 hb4 f2 HO HB;go_wp2_with fail;generalize (w2.alloc (.cells #[.int .i64 (mm:Int)] 204)).alloc (.cells #[.int .i64 (aa:Int)] 204)=w4 at f3 HB4 HO4 |-;(with_reducible refine f3.out.mono ?_);rintro e w5 ⟨T5,x5,rfl,hr5,hb5⟩;have HB5:=bt HB4.out hb5;have ho5:=zA HO4.out.2.1 hb5;have HI5:Hid (bs.length=z/\xX w5 (bs++[_]) (ws++[.iface T5 x5])):=⟨HO4.out.1,xX.snoc hr5 (HO4.out.2.2.below hb5)⟩;have hz5:=HB5.out.size;clear hr5 hb5 f3 HB4 HO4;go_wp2_with (at_builtin;refine wpList_append_own _ rfl _ _ 188 rfl W.heap.size 115 i0 _ 1 16 Tryz.underlying188 hi hz0 hz1 hz2 rfl (by decide) _ _ _ rfl (ho5.alloc _) ⟨w5.heap.size,0,none⟩ 1 1 [.iface T5 x5] rfl rfl (yI _ _ _) (by simp[Value.oneCell']) (by simp only[maxLen];omega) (by omega) (by simp;omega) ?_);intro v6 w6 ho6 hg6 _;have HO6:Hid ((bs++[Tm.arrows lt.doms (.app (.var (mm+lt.doms.length)) ((Tm.var (aa+lt.doms.length)).given (jU lt.doms.length)))]).length=z+1/\w6.ownsRow W.heap.size 115 1 v6 (z+1) (ws++[.iface T5 x5])/\xX w6 (bs++[Tm.arrows lt.doms (.app (.var (mm+lt.doms.length)) ((Tm.var (aa+lt.doms.length)).given (jU lt.doms.length)))]) (ws++[.iface T5 x5])):=⟨by rw[lA,HI5.out.1];rfl,ho6,xX.grown hg6 (tQ.own (ho5.alloc _) (by decide)) (HI5.out.2.below (Below.alloc (bR _ _) (nR _) _))⟩;have HB6:Hid (Below W.heap.size W w6):=(HB5.out.alloc HB5.out.size _).grown hg6 (by simp;omega) (fun j hj=>(ho5.lt j hj).1);clear ho6 hg6 ho5 HI5 HB5;go_wp2;go_roundw
   case rel=>exact⟨k+1,z+1,_,_,_,by omega,by go_num,rfl,by omega,by omega,HR2.out,HO6.out,HB6.out⟩
   case measure=>simp[intOf];omega
  ·obtain rfl:k=ds.length:=(by omega);obtain⟨mm,hmm⟩:∃ mm,mm=K+z:=⟨_,rfl⟩;obtain⟨qq,hqq⟩:∃ qq,qq=z - ds.length:=⟨_,rfl⟩;have hwm:IntKind.i64.wrap ((K:Int)+(z:Int))=(mm:Int):=(by rw[IntWalk.i64_in _ (by omega)];omega);have hwq:IntKind.i64.wrap ((z:Int) - (ds.length:Int))=(qq:Int):=(by rw[IntWalk.i64_in _ (by omega)];omega);have HM:Hid (rA nm lv K ds=Tm.arrows bs (.app (.var mm) ((Tm.const nm lv).given (rL ds.length qq)))):=by
    obtain⟨q,e1,e2⟩:=HR.out;rw[Hid,rA,e2,List.drop_length,zR];show Tm.arrows bs (.app (.var (K+ds.length+q)) (zC3 nm lv ds.length q))=_;rw[zC3,show K+ds.length+q=mm by omega,show q=qq by omega]
   have b2':mm<=1008:=(by omega);have b3':qq<=499:=(by omega);clear hmm hqq HR;have B1:=Below.alloc (bR wr.heap.size wr) (nR _) (.cells #[.int .i64 (mm:Int)] 204);have hg1:=heap_alloc_new wr (.cells #[.int .i64 (mm:Int)] 204);have HB2:=bt HB.out B1;have f4:=Ld (oE ds.length qq (by omega) (by omega) (HC.out.below HB2.out));have HO2:Hid (bs.length=z/\(wr.alloc (.cells #[.int .i64 (mm:Int)] 204)).ownsRow W.heap.size 115 1 (.slice oa z oc) z ws/\xX (wr.alloc (.cells #[.int .i64 (mm:Int)] 204)) bs ws):=⟨HO.out.1,zA HO.out.2.1 B1,HO.out.2.2.below B1⟩;have HV2:Hid (yG (wr.alloc (.cells #[.int .i64 (mm:Int)] 204)) (.var mm) (.iface 202 (.pointer (some ⟨wr.heap.size,0,none⟩)))):=⟨_,rfl,hg1⟩;clear B1 hg1 HO HB;generalize (Tm.const nm lv).given (rL ds.length qq)=mt at f4 HM;go_wp2_with fail;(with_reducible refine f4.out.mono ?_);rintro e w3 ⟨T3,x3,rfl,hr3,hb3⟩;have HB3:=bt HB2.out hb3;have BA:=Below.alloc (bR w3.heap.size w3) (nR _) (.cells #[.iface 202 (.pointer (some ⟨wr.heap.size,0,none⟩)),.iface T3 x3] 214);have hrA:yG (w3.alloc (.cells #[.iface 202 (.pointer (some ⟨wr.heap.size,0,none⟩)),.iface T3 x3] 214)) (.app (.var mm) mt) (.iface 212 (.pointer (some ⟨w3.heap.size,0,none⟩))):=⟨_,_,_,rfl,heap_alloc_new _ _,(HV2.out.below hb3).below BA,hr3.below BA⟩;have f5:=kC (u:=.slice oa z oc) (b:=W.heap.size) (ts:=bs) (vs:=ws) hrA (by rw[HO2.out.1];exact zA (zA HO2.out.2.1 hb3) BA) ((HO2.out.2.2.below hb3).below BA) (by rw[HO2.out.1];omega);have f5:=Ld f5;have HB4:=bt HB3.out BA
   clear BA hrA hb3 hr3 f4 HO2 HV2 HB2 HB3;go_wp2_with fail;(with_reducible refine f5.out.mono ?_);rintro e w6 ⟨hb6,v6,rfl,hr6⟩;have HB6:=bt HB4.out hb6;obtain⟨T6,x6,rfl⟩:=hr6.iface;have HR6:=Ld hr6;clear hb6 hr6 f5 HB4;go_wp2;go_ret;rw[HM.out];exact⟨_,_,rfl,HR6.out,HB6.out⟩
end Go.Proofs.YtcaahdjhbmmcnaaGreatDoor
