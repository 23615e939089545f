/- EJ4Q EJ2 EJ6 HC4t EJ3 EJ7 -/
import Derived.RangeFuncBox
import Derived.RangeFuncCalls
import Derived.RangeFuncWrites
import Derived.Test.YtcaahdjhbmmcnaaGreatDoorTQ1
import Derived.Test.YtcaahdjhbmmcnaaGreatDoorTE1
import Derived.Test.YtcaahdjhbmmcnaaGreatDoorTA6
import Derived.Test.YtcaahdjhbmmcnaaGreatDoorTP3
import Derived.Test.YtcaahdjhbmmcnaaGreatDoorTKC
set_option maxRecDepth 100000
set_option maxHeartbeats 16000000
set_option linter.unusedSimpArgs false
set_option linter.unusedVariables false
namespace Go.Proofs.YtcaahdjhbmmcnaaGreatDoor
open Go.ChangeShapes Go.WideShapes Go.ChangeAt Go.RowKit Go.Shelf
attribute [local go_sem] Oper.semAt_some
abbrev Pq (W0:World):={ p:Tm × Value // yG W0 p.1 p.2 }
def tJ {W0:World} (l:List (Pq W0)):List Tm:=l.map fun x=>x.1.1
theorem zJ1{W0:World}(l:List (Pq W0))(x:Pq W0):tJ (l++[x])=tJ l++[x.1.1]:=by simp[tJ]
theorem lP{W0:World}(l:List (Pq W0)):(tJ l).length=l.length:=by simp[tJ]
theorem yJ2(F:Fence)(n:Nat)(hF1:F.fn 227)(hro:F.round=none)(l Bt:Nat)(W0:World)(v:Value)(T:Tm)(J Jx:List (Pq W0)->World->Prop)(hn:1<=n)
  (hY:∀ pre (x:Pq W0) W,J pre W->pre.length<T.doms.length->YieldAt F (n - 1) Tryz.prog l #[x.1.2] W fun e W' =>
   (e=.returned (.bool true)/\J (pre++[x]) W'/\Below W0.heap.size W W')\/(e=.returned (.bool false)/\Jx (pre++[x]) W'))
  (W:World) (hBt:W.cell? ⟨Bt,0,none⟩=some v) (hr:yG W0 T v) (hB:Below W0.heap.size W0 W) (h0:J [] W) :
  CallsIn F n Tryz.prog 227 #[.func (.yield l) #[] #[],.pointer (some ⟨Bt,0,none⟩)] W fun e W'=>(∃ v,e=.returned v) /\
   ((∃ ys,tJ ys=T.doms/\J ys W')\/(∃ pre,tJ pre <+: T.doms/\Jx pre W')):=by
 have HR:=Ld hr;obtain⟨T0,x0,rfl⟩:=hr.iface;clear hr;refine callsIn_of_wp Tryz.func227 rfl hF1 ?_ hro;simp only[Tryz.ntmps227,List.size_toArray,lC,List.length_nil,Nat.reduceAdd,Nat.reduceSub,Array.replicate_succ,Array.replicate_zero,List.push_toArray,List.append_toArray,List.nil_append,List.cons_append]
 gi_wp2
 gi_loopw [3] (fun p wr=>∃ (pre:List (Pq W0)) (u:Tm) (oo:Value),oo=p/\Hid (yG W0 u oo/\tJ pre++u.doms=T.doms)/\Below W0.heap.size W0 wr/\J pre wr) (fun p _=>xI9 W0 p)
 case atStart=>exact⟨[],T,_,rfl,⟨HR.out,rfl⟩,hB,h0⟩
 case round =>
  obtain⟨pre,u,oo,rfl,HU,hBr,hJs⟩:=hrel;by_cases hk:u.kind=112
  ·obtain⟨p,q,rfl⟩:=hJ hk;obtain⟨h1,h4⟩:=HU.out;obtain⟨g,x,y,rfl,hg,hx,hy⟩:=id h1;have HM:=Ld (yF4 h1 hg);have hgl:g<W0.heap.size:=(Array.getElem?_eq_some_iff.1 hg).1;have c0:wr.cell? ⟨g,0,none⟩=some x:=(hBr.cell (p:=⟨g,0,none⟩) hgl).trans (by rw[Lib.cell_of_heap hg];rfl);have C1:Hid (∀ W1,Below W0.heap.size wr W1->W1.cell? ⟨g,1,none⟩=some y):=fun W1 h=>((hBr.trans h).cell (p:=⟨g,1,none⟩) hgl).trans (by rw[Lib.cell_of_heap hg];rfl);have tA:=(jX 218 (.pointer (some ⟨g,0,none⟩)) wr).trans (by rw[iP rfl]);obtain⟨pt,hp1,hp2⟩:∃ pt:Pq W0,pt.1.1=p/\pt.1.2=x:=⟨⟨(p,x),hx⟩,rfl,rfl⟩
   obtain⟨fn,tmps,assign,body,hyy,hR⟩:=hY pre pt wr hJs (by
    rw[← h4,lA,lP];simp only[Tm.doms,lC];omega)
   have HN:Hid (yG W0 q y/\tJ (pre++[pt])++q.doms=T.doms):=⟨hy,by rw[zJ1,← h4,hp1];simp[Tm.doms]⟩;have HB:=Ld hBr;rw[hp2] at hyy;obtain⟨T1,x1,rfl⟩:=hx.iface;obtain⟨T2,y1,rfl⟩:=hy.iface;clear HU h1 h4 hg hgl hk hx hy hY hBr hB h0 HR hp1 hp2
   gi_wp2
   refine hR.mono ?_;rintro e W3 (⟨rfl,hJ3,hk3⟩|⟨rfl,hJx3⟩)
   ·have c1:=C1.out W3 hk3
    gi_wp2
    go_roundw
    case rel=>exact⟨_,q,_,rfl,HN.out,HB.out.trans hk3,hJ3⟩
    case measure=>exact HM.out
   ·gi_wp2
    refine bodyPost_ret (results_none rfl _ _ _) rfl ?_;exact⟨⟨_,rfl⟩,.inr ⟨_,⟨q.doms,HN.out.2⟩,hJx3⟩⟩
  ·have tA:=bZ HU.out.1 hk wr;have HE:Hid (tJ pre=T.doms):=(by have:=HU.out.2;rw[(zB1 hk).2,List.append_nil] at this;exact this);clear HU hk hY HR
   gi_wp2
   refine⟨fun _ h=>(by cases h),?_⟩
   gi_wp2
   refine bodyPost_ret (results_none rfl _ _ _) rfl ?_;exact⟨⟨_,rfl⟩,.inl ⟨pre,HE.out,hJs⟩⟩
theorem zZ3(F:Fence)(n:Nat)(hn:1<=n)(hF1:F.fn 227)(hro:F.round=none)(Bt:Nat)(v:Value)(T:Tm)(w:World)(hBt:Bt<w.heap.size)
  (hc:w.cell? ⟨Bt,0,none⟩=some v) (hr:yG w T v) :
  SeqStopsK F n Tryz.prog 227 #[.pointer (some ⟨Bt,0,none⟩)] (fun x:Pq w=>#[x.1.2]) (Below w.heap.size) (fun ys=>tJ ys=T.doms) (fun _=>True) T.doms.length w:=fun l J Jx W hW _ _ hY h0 =>
 (yJ2 F n hF1 hro l Bt w v T J Jx hn hY W ((hW.cell (p:=⟨Bt,0,none⟩) hBt).trans hc) hr hW h0).mono fun e W' h=>⟨h.1,h.2.elim .inl fun ⟨pre,_,h2⟩=>.inr ⟨pre,trivial,h2⟩⟩
end Go.Proofs.YtcaahdjhbmmcnaaGreatDoor
namespace Go.Proofs.YtcaahdjhbmmcnaaGreatDoor
open Go.ChangeShapes Go.WideShapes Go.ChangeAt Go.RowKit
def pO (ls:List (List UInt8)) (ts:List Tm):Prop:=ts.map Tm.bytes=ls/\∀ t∈ts,qC t.bytes t
theorem pO.snoc {ls:List (List UInt8)} {ts:List Tm} {x:List UInt8} {t:Tm} (h:pO ls ts) (ht:qC x t):pO (ls ++ [x]) (ts ++ [t]):=by
  refine ⟨?_,fun u hu=>?_⟩
  · rw [List.map_append,h.1]
    simp [ht.2.1]
  · rcases List.mem_append.1 hu with h1 | h1
    · exact h.2 u h1
    · simp only [List.mem_cons,List.not_mem_nil,or_false] at h1
      subst h1
      rw [ht.2.1]
      exact ht
theorem pO.len {ls:List (List UInt8)} {ts:List Tm} (h:pO ls ts):ts.length=ls.length:=by rw [← h.1,List.length_map]
theorem zZ2 (ls:List (List UInt8)) (k:Nat):(ls.take k).flatten.length<=ls.flatten.length:=by
  have h:=congrArg List.length (congrArg List.flatten (List.take_append_drop k ls))
  rw [List.flatten_append,lA] at h
  omega
def yV5 (ls:List (List UInt8)) (W:World) (e:Ending) (W':World):Prop :=
  Below W.heap.size W W' /\
  ((∃ ts u vs,pO ls ts/\ls.flatten.length<=2000/\ls.length<=2000/\e=.returned (.tuple #[u,.bool true])/\W'.ownsRow W.heap.size 115 1 u ts.length vs/\xX W' ts vs) \/
   (((∃ a∈ls,∀ t,¬ qC a t)\/2000 < ls.flatten.length)/\e=.returned (.tuple #[.slice none 0 0,.bool false])))
theorem mX {W:World} {b:Nat} {v:Value} {ls:List (List UInt8)} (hv:Vars W) (h:W.ownsRow b 9 1 v ls.length (ls.map sv)) (hn:ls.length<=1048576) (hx:∀ x∈ls,x.length<=1048576) :
    Calls Tryz.prog 180 #[v] W (yV5 ls W):=by
  obtain ⟨i0,hi,hz0,hz1,hz2⟩:=info_parts mW
  obtain ⟨ua,uc,rfl⟩:=zP h
  have HX:=Ld hx
  have HV:=Ld hv
  have HH:=Ld h
  clear hx hv h
  go_enter Tryz.func180,Tryz.ntmps180
  go_wp2
  go_loopw [4,5,12] (fun tv zv i wr=>∃ (k z:Nat) (ts:List Tm) (vs:List Value) (oo:Value),k<=ls.length/\i=.int .i64 k/\zv=.int .i64 (z:Int)/\oo=tv/\z<=2000/\k<=z/\Hid (z=(ls.take k).flatten.length/\pO (ls.take k) ts)/\Hid (wr.ownsRow W.heap.size 115 1 oo k vs/\xX wr ts vs)/\Hid (Below W.heap.size W wr)) (fun _ _ i _=>ls.length - (intOf i).toNat)
  case atStart=>exact ⟨0,0,[],[],_,Nat.zero_le _,rfl,rfl,rfl,Nat.zero_le _,nR _,⟨by simp,rfl,by simp⟩,⟨World.ownsRow_nil _ _ _ _,trivial⟩,bR _ _⟩
  case round =>
    obtain ⟨k,z,ts,vs,oo,hk,rfl,rfl,rfl,hz,hkz,HT,HO,HB⟩:=hrel
    by_cases hlt:k < ls.length
    · have hu:=zA HH.out HB.out
      obtain ⟨g,cap',e0,_,hgl⟩:=hu.form (by omega)
      cases e0
      have ex:(ls.map sv)[k]?=some (sv ls[k]):=by simp [hlt]
      have cc:=(hu.cellAt k (by omega)).trans ex
      unfold sv at cc
      have hxl:=HX.out ls[k] (List.getElem_mem hlt)
      have f1:=Ld (xH ⟨ls[k].toArray⟩ wr (HV.out.below HB.out) (by simp only [ByteArray.size,List.size_toArray,maxLen];omega))
      have hzx:=zO ls[k]
      have HS:=Ld (List.take_succ_eq_append_getElem hlt)
      have HM:Hid (ls[k]∈ls):=List.getElem_mem hlt
      have HF:=Ld (zZ2 ls (k+1))
      simp only at f1
      generalize ls[k]=x at cc hxl f1 hzx HS HM
      have q1:=zn k
      have q2:(k:Int) < (ls.length:Int):=by omega
      clear ex hu hgl
      go_wp2_with fail
      (with_reducible refine f1.out.mono ?_);rintro e w1 ⟨hb1,⟨t,tv',ht,rfl,hr⟩ | ⟨hno,rfl⟩⟩
      rotate_left
      · have HB1:Hid (Below W.heap.size W w1):=HB.out.trans (hb1.mono HB.out.size)
        have HN:=Ld hno
        clear hb1 hno f1
        go_wp2
        go_ret2
        exact ⟨HB1.out,.inr ⟨.inl ⟨x,HM.out,HN.out⟩,rfl⟩⟩
      have HB1:Hid (Below W.heap.size W w1):=HB.out.trans (hb1.mono HB.out.size)
      have hx1:1<=x.length:=by
        obtain ⟨p,hp⟩:=t.bytes_head
        have:=ht.2.1
        rw [hp] at this
        rw [← this,lC]
        omega
      by_cases hlong:2000 < z+x.length
      · have HL:Hid (2000 < ls.flatten.length):=by
          have h1:=HF.out
          have h2:=HT.out.1
          rw [HS.out,List.flatten_append,lA] at h1
          simp only [List.flatten_cons,List.flatten_nil,List.append_nil] at h1
          show 2000 < ls.flatten.length
          omega
        have d1:decide ((2000:Int) < (z:Int)+(x.length:Int))=true:=dT (by omega)
        clear hb1 ht hr f1
        go_wp2
        go_ret2
        exact ⟨HB1.out,.inr ⟨.inr HL.out,rfl⟩⟩
      have d1:decide ((2000:Int) < (z:Int)+(x.length:Int))=false:=dF (by omega)
      have ho1:=zA HO.out.1 hb1
      have HI1:Hid (xX w1 (ts ++ [t]) (vs ++ [tv'])):=xX.snoc hr (HO.out.2.below hb1)
      have HT1:Hid (z+x.length=(ls.take (k+1)).flatten.length/\pO (ls.take (k+1)) (ts ++ [t])):=by
        have h2:=HT.out
        rw [Hid,HS.out]
        refine ⟨?_,h2.2.snoc ht⟩
        simp only [List.flatten_append,lA,List.flatten_cons,List.flatten_nil,List.append_nil]
        omega
      obtain ⟨T,y,rfl⟩:=hr.iface
      have hz1b:=HB1.out.size
      clear hb1 ht hr f1 HO HT HB
      go_wp2_with (at_builtin;refine wpList_append_own _ rfl _ _ 188 rfl W.heap.size 115 i0 _ 1 16 Tryz.underlying188 hi hz0 hz1 hz2 rfl (by decide) _ _ _ rfl (ho1.alloc _) ⟨w1.heap.size,0,none⟩ 1 1 [.iface T y] rfl rfl (yI _ _ _) (by simp [Value.oneCell']) (by simp only [maxLen];omega) (by omega) (by simp;omega) ?_)
      intro v4 w4 ho4 hg4 _
      have HO4:Hid (w4.ownsRow W.heap.size 115 1 v4 (k+1) (vs ++ [.iface T y])):=ho4
      have HI4:Hid (xX w4 (ts ++ [t]) (vs ++ [.iface T y])):=xX.grown hg4 (tQ.own (ho1.alloc _) (by decide)) (HI1.out.below (Below.alloc (bR _ _) (nR _) _))
      have HB4:Hid (Below W.heap.size W w4):=(HB1.out.alloc HB1.out.size _).grown hg4 (by simp;have:=HB1.out.size;omega) (fun j hj=>(ho1.lt j hj).1)
      clear ho4 hg4 ho1 HI1 HB1
      go_wp2
      go_roundw
      case rel=>exact ⟨k+1,z+x.length,_,_,_,by omega,by go_num,by go_num,rfl,by omega,by omega,HT1.out,⟨HO4.out,HI4.out⟩,HB4.out⟩
      case measure=>simp [intOf];omega
    · obtain rfl:k=ls.length:=by omega
      have HT1:Hid (ls.flatten.length<=2000/\pO ls ts/\ls.length<=2000):=by
        have h2:=HT.out
        rw [List.take_length] at h2
        refine ⟨by omega,h2.2,by omega⟩
      clear HT
      go_wp2
      go_ret2
      have hl:=HT1.out.2.1.len
      refine ⟨HB.out,.inl ⟨ts,_,vs,HT1.out.2.1,HT1.out.1,HT1.out.2.2,rfl,?_,HO.out.2⟩⟩
      rw [hl]
      exact HO.out.1
theorem dJ (h:Tm) (ts:List Tm) (a:Tm):h.given (ts ++ [a])=.app (h.given ts) a:=by simp [Tm.given]
theorem zO0 {W:World} {t:Tm} {v u:Value} {b:Nat} {ts:List Tm} {vs:List Value} (hr:yG W t v) (h:W.ownsRow b 115 1 u ts.length vs) (hs:xX W ts vs) (hn:ts.length<=100000) :
    Calls Tryz.prog 191 #[v,u] W fun e W'=>Below W.heap.size W W'/\∃ v',e=.returned v'/\yG W' (t.given ts) v':=by
  obtain ⟨ua,uc,rfl⟩:=zP h
  have hvl:=hs.len
  have hv1:vs.length<=ts.length:=by omega
  have hv2:ts.length<=vs.length:=by omega
  have HR:=Ld hr
  have HS:=Ld hs
  have HH:=Ld h
  clear hr hs h hvl
  go_enter Tryz.func191,Tryz.ntmps191
  go_wp2
  go_loopw [0,9] (fun o i wr=>∃ (k:Nat) (oo:Value),k<=ts.length/\i=.int .i64 k/\oo=o/\Hid (yG wr (t.given (ts.take k)) oo)/\Hid (Below W.heap.size W wr)) (fun _ i _=>ts.length - (intOf i).toNat)
  case atStart=>exact ⟨0,_,Nat.zero_le _,rfl,rfl,HR.out,bR _ _⟩
  case round =>
    obtain ⟨k,oo,hk,rfl,rfl,HI,HB⟩:=hrel
    by_cases hlt:k < ts.length
    · have hu:=zA HH.out HB.out
      obtain ⟨g,cap',e0,_,hgl⟩:=hu.form (by omega)
      cases e0
      have ex:vs[k]?=some vs[k]:=by simp
      have cc:=(hu.cellAt k (by omega)).trans ex
      have hr2:=(HS.out.below HB.out).at k hlt (by omega)
      obtain ⟨T,x,e1⟩:=hr2.iface
      have HR2:Hid (yG wr ts[k] (.iface T x)):=by rw [Hid,← e1];exact hr2
      rw [e1] at cc
      obtain ⟨T0,x0,rfl⟩:=HI.out.iface
      have HG:Hid (t.given (ts.take (k+1))=.app (t.given (ts.take k)) ts[k]):=by rw [Hid,List.take_succ_eq_append_getElem hlt,dJ]
      have q1:=zn k
      have q2:(k:Int) < (ts.length:Int):=by omega
      clear ex hu hr2 e1
      go_wp2
      go_roundw
      case rel =>
        refine ⟨k+1,_,by omega,by go_num,rfl,?_,HB.out.alloc HB.out.size _⟩
        rw [Hid,HG.out]
        exact ⟨_,_,_,rfl,heap_alloc_new _ _,HI.out.below (Below.alloc (bR _ _) (nR _) _),HR2.out.below (Below.alloc (bR _ _) (nR _) _)⟩
      case measure=>simp [intOf];omega
    · obtain rfl:k=ts.length:=by omega
      have HI2:Hid (yG wr (t.given ts) oo):=by have:=HI.out;rw [List.take_length] at this;exact this
      clear HI
      go_wp2
      go_ret
      exact ⟨HB.out,_,rfl,HI2.out⟩
end Go.Proofs.YtcaahdjhbmmcnaaGreatDoor
namespace Go.Proofs.YtcaahdjhbmmcnaaGreatDoor
open Go.ChangeShapes Go.WideShapes Go.ChangeAt Go.RowKit Go.Shelf
attribute [local go_sem] Oper.semAt_some
def KpB (n₀ Bs:Nat) (W W':World):Prop:=Below n₀ W W'/\W'.heap[Bs]?=W.heap[Bs]?
theorem KpB.trans{n₀ Bs:Nat}{A B C:World}(h:KpB n₀ Bs A B)(k:KpB n₀ Bs B C):KpB n₀ Bs A C:=⟨h.1.trans k.1,k.2.trans h.2⟩
theorem yW2{W:World}:∀ {ts:List Tm} {vs:List Value},xX W ts vs->∃ zs:List (Pq W),tJ zs=ts/\(zs.map fun x=>x.1.2)=vs
|[],[],_=>⟨[],rfl,rfl⟩
|t::ts,v::vs,⟨h1,h2⟩=>by
  obtain⟨zs,e1,e2⟩:=yW2 h2;refine⟨⟨(t,v),h1⟩::zs,?_,?_⟩
  ·show t::tJ zs=t::ts;rw[e1]
  ·show v::(zs.map fun x=>x.1.2)=v::vs;rw[e2]
|[],_::_,h=>h.elim
|_::_,[],h=>h.elim
theorem yU9(F:Fence)(n:Nat)(hn:1<=n)(hF:F.fn 239)(hro:F.round=none)(l Bs b:Nat)(W0:World)(u:Value)(zs:List (Pq W0))(hz:zs.length<=100000)(J Jx:List (Int × Pq W0)->World->Prop)
  (hrow:W0.ownsRow b 115 1 u zs.length (zs.map fun x=>x.1.2))
  (hY:∀ pre (x:Int × Pq W0) W,J pre W->pre.length<zs.length->YieldAt F (n - 1) Tryz.prog l #[.int .i64 x.1,x.2.1.2] W fun e W' =>
   (e=.returned (.bool true)/\J (pre++[x]) W'/\KpB W0.heap.size Bs W W')\/(e=.returned (.bool false)/\Jx (pre++[x]) W'))
  (W:World) (hB:Below W0.heap.size W0 W) (hbox:Boxed W Bs 188 u) (h0:J [] W) :
  CallsIn F n Tryz.prog 239 #[.func (.yield l) #[] #[],.pointer (some ⟨Bs,0,none⟩)] W fun e W'=>(∃ v,e=.returned v) /\
   ((∃ ys,ys.map Prod.snd=zs.reverse/\J ys W')\/(∃ pre,True/\Jx pre W')):=by
 obtain⟨ua,uc,rfl⟩:=zP hrow;have HROW:=Ld hrow;have hbc:=hbox.cell;clear hrow;refine callsIn_of_wp Tryz.func239 rfl hF ?_ hro;simp only[Tryz.ntmps239,List.size_toArray,lC,List.length_nil,Nat.reduceAdd,Nat.reduceSub,Array.replicate_succ,Array.replicate_zero,List.push_toArray,List.append_toArray,List.nil_append,List.cons_append]
 gi_wp2
 gi_loopw [3] (fun i wr=>∃ (k:Nat) (pre:List (Int × Pq W0)),((k=0/\i=.int .i64 (-1))\/∃ j:Nat,k=j+1/\i=.int .i64 (j:Int))/\k<=zs.length/\Hid (pre.map Prod.snd=(zs.drop k).reverse)/\J pre wr/\Below W0.heap.size W0 wr/\Boxed wr Bs 188 (.slice ua zs.length uc)) (fun i _=>(intOf i+1).toNat)
 case atStart =>
  refine⟨zs.length,[],?_,nR _,by simp[Hid],h0,hB,hbox⟩;rcases Nat.eq_zero_or_pos zs.length with hl|hl
  ·exact .inl ⟨hl,by rw[hl];rfl⟩
  ·obtain⟨j,hj⟩:∃ j,zs.length=j+1:=⟨zs.length - 1,by omega⟩;exact .inr ⟨j,hj,by rw[hj];congr 1;omega⟩
 case round =>
  obtain⟨k,pre,hk,hkl,HP,hJs,hBr,hbr⟩:=hrel;clear hbc h0 hbox hB;rcases hk with ⟨rfl,rfl⟩|⟨j,rfl,rfl⟩
  ·have HE:Hid (pre.map Prod.snd=zs.reverse):=by have:=HP.out;rwa [List.drop_zero] at this
   gi_wp2
   go_end0;exact⟨⟨_,rfl⟩,.inl ⟨pre,HE.out,hJs⟩⟩
  ·have hlt:j<zs.length:=(by omega);have hu:=zA HROW.out hBr;obtain⟨g,cap',e0,_,hgl⟩:=hu.form (by omega);cases e0;have ex:(zs.map fun x=>x.1.2)[j]?=some zs[j].1.2:=(by simp[hlt]);have cc:=(hu.cellAt j (by omega)).trans ex;have hbc:=hbr.cell;have HD:Hid ((zs.drop j).reverse=(zs.drop (j+1)).reverse++[zs[j]]):=(by rw[Hid,List.drop_eq_getElem_cons hlt,List.reverse_cons]);have hpl:pre.length<zs.length:=by
    have:=congrArg List.length HP.out;simp only[List.length_map,List.length_reverse,List.length_drop] at this;omega
   obtain⟨fn,tmps,assign,body,hyy,hR⟩:=hY pre ((j:Int),zs[j]) wr hJs hpl;dsimp only at hyy;obtain⟨T1,x1,e1⟩:=yG.iface zs[j].2;rw[e1] at hyy cc;have q1:=zn j;have q2:(j:Int)<(zs.length:Int):=(by omega);clear hu ex hY
   gi_wp2
   refine hR.mono ?_;rintro e W3 (⟨rfl,hJ3,hk3⟩|⟨rfl,hJx3⟩)
   ·have hB3:Below W0.heap.size W0 W3:=hBr.trans hk3.1;have hb3:Boxed W3 Bs 188 (.slice (some ⟨g,0,none⟩) zs.length uc):=hk3.2.trans hbr
    gi_wp2
    go_roundw
    case rel =>
     refine⟨j,_,?_,by omega,?_,hJ3,hB3,hb3⟩
     ·cases j with
     |zero=>exact .inl ⟨rfl,by first|rfl|go_num⟩
     |succ j=>exact .inr ⟨j,rfl,by go_num⟩
     ·rw[Hid,List.map_append,HP.out,HD.out];rfl
    case measure=>simp[intOf]<;>omega
   ·gi_wp2
    refine bodyPost_ret (results_none rfl _ _ _) rfl ?_;exact⟨⟨_,rfl⟩,.inr ⟨_,trivial,hJx3⟩⟩
theorem yL0(F:Fence)(n:Nat)(hn:1<=n)(hF:F.fn 239)(hro:F.round=none)(Bs b:Nat)(W0 wB:World)(u:Value)(zs:List (Pq W0))(hz:zs.length<=100000)
  (hrow:W0.ownsRow b 115 1 u zs.length (zs.map fun x=>x.1.2)) (hB:Below W0.heap.size W0 wB) (hbox:Boxed wB Bs 188 u) :
  SeqStopsK F n Tryz.prog 239 #[.pointer (some ⟨Bs,0,none⟩)] (fun x:Int × Pq W0=>#[.int .i64 x.1,x.2.1.2]) (KpB W0.heap.size Bs) (fun ys=>ys.map Prod.snd=zs.reverse) (fun _=>True) zs.length wB:=fun l J Jx W hW _ _ hY h0 =>
 yU9 F n hn hF hro l Bs b W0 u zs hz J Jx hrow hY W (bu hB hW) ((hW.block _ hbox.lt).trans hbox) h0
theorem zE4(a:Option Addr)(m c:Nat)(w:World) :
  Calls Tryz.prog 217 #[.slice a m c] w fun e w'=>e=.returned (.func (.func 239) #[] #[.pointer (some ⟨w.heap.size,0,none⟩)])/\w'=w.alloc (.cells #[.slice a m c] 188):=by
 go_enter Tryz.func217,Tryz.ntmps217;go_wp2;go_ret;exact⟨rfl,rfl⟩
theorem zS1{A:World}{row:Option Nat}(hr:∀ r,row=some r->∃ o:Obj,A.heap[r]?=some o/\o.isCells=false):tQ A row:=fun k cs e fr hk _ hh=>by
 obtain⟨o,ho,hc⟩:=hr k hk;rw[ho] at hh;cases hh;cases hc
theorem zM0{β:Type}(B:Nat)(f:β->Tm):Own (fun s W=>∃ v,Boxed W B 115 v/\yG W (f s) v):=by
 rintro s X Y row ⟨v,h1,h2⟩ hg hr;refine⟨v,h1.kept hg (fun e'=>?_),h2.grown hg (zS1 hr)⟩;obtain⟨o,ho,hc⟩:=hr B e'.symm;rw[show X.heap[B]?=_ from h1] at ho;cases ho;cases hc
def iK {W:World} (t:Tm) (pre:List (Int × Pq W)):Tm:=pre.foldl (fun acc x=>.pi x.2.1.1 acc) t
theorem zK8{W:World}(t:Tm)(pre:List (Int × Pq W))(x:Int × Pq W):iK t (pre++[x])=.pi x.2.1.1 (iK t pre):=by simp[iK]
theorem zW4{W:World}(t:Tm)(zs:List (Pq W))(pre:List (Int × Pq W))(h:pre.map Prod.snd=zs.reverse):iK t pre=Tm.arrows (tJ zs) t:=by
 have h1:∀ (l:List (Int × Pq W)) (t:Tm),l.foldl (fun acc x=>Tm.pi x.2.1.1 acc) t=(l.map Prod.snd).foldl (fun acc x=>Tm.pi x.1.1 acc) t:=fun l=>by
  induction l with
 |nil=>intro t;rfl
 |cons x l ih=>intro t;exact ih _
 rw[iK,h1,h,List.foldl_reverse,Tm.arrows,tJ,List.foldr_map]
theorem yH2(T0 T1:TypeId)(x0 x1:Value)(w:World) :
  Calls Tryz.prog 182 #[.iface T0 x0,.iface T1 x1] w fun e w'=>e=.returned (.iface 218 (.pointer (some ⟨w.heap.size,0,none⟩)))/\w'=w.alloc (.cells #[.iface T0 x0,.iface T1 x1] 220):=by
 go_enter Tryz.func182,Tryz.ntmps182;go_wp2;go_ret;exact⟨rfl,rfl⟩
theorem yU6{β:Type}(B:Nat)(T:TypeId)(v:Value):Own (fun (_:β) W=>Boxed W B T v):=by
 rintro s X Y row h1 hg hr;refine h1.kept hg (fun e'=>?_);obtain⟨o,ho,hc⟩:=hr B e'.symm;rw[show X.heap[B]?=_ from h1] at ho;cases ho;cases hc
theorem kC{w:World}{t:Tm}{v u:Value}{b:Nat}{ts:List Tm}{vs:List Value}(hr:yG w t v)(h:w.ownsRow b 115 1 u ts.length vs)(hs:xX w ts vs)(hn:ts.length<=100000) :
  Calls Tryz.prog 181 #[.func (.func 182) #[] #[],v,u] w fun e W'=>Below w.heap.size w W'/\∃ v',e=.returned v'/\yG W' (Tm.arrows ts t) v':=by
 obtain⟨zs,e1,e2⟩:=yW2 hs;have hzl:zs.length=ts.length:=by rw[← e1,lP]
 rw[← hzl,← e2] at h;rw[← hzl] at hn;subst e1;obtain⟨ua,uc,rfl⟩:=zP h;obtain⟨T0,x0,rfl⟩:=hr.iface;have enF:=enters_of Tryz.func182 (by kernel_rfl) rfl;clear hs e2 hzl;refine(callsIn_wide (n:=3)).1 ?_;refine callsIn_of_wp_marks Tryz.func181 rfl trivial ?_ rfl;simp only[Tryz.ntmps181,List.size_toArray,lC,List.length_nil,Nat.reduceAdd,Nat.reduceSub,Array.replicate_succ,Array.replicate_zero,List.push_toArray,List.append_toArray,List.nil_append,List.cons_append]
 gi_wp2_with ((try refine⟨trivial,?_⟩);gi_at_call 217;refine(callsIn_wide.2 (zE4 _ _ _ _)).mono ?_;rintro e w' ⟨rfl,rfl⟩)
 obtain⟨cF,hcF⟩:∃ c,c=Obj.cells #[.func (.func 182) #[] #[]] 245:=⟨_,rfl⟩;have bF:=Boxed.new w 245 (.func (.func 182) #[] #[]);have hBF:Below w.heap.size w (w.alloc (.cells #[.func (.func 182) #[] #[]] 245)):=(bR _ w).alloc (nR _) _;have hzF:(w.alloc (.cells #[.func (.func 182) #[] #[]] 245)).heap.size=w.heap.size+1:=World.size_alloc _ _;generalize w.alloc (.cells #[.func (.func 182) #[] #[]] 245)=wF at bF hBF hzF |-;have bT:=Boxed.new wF 115 (.iface T0 x0);rw[hzF] at bT;have hB0:Below w.heap.size w (wF.alloc (.cells #[.iface T0 x0] 115)):=hBF.alloc hBF.size _;have bS:=Boxed.new (wF.alloc (.cells #[.iface T0 x0] 115)) 188 (.slice ua zs.length uc);have hB1:=hB0.alloc hB0.size (.cells #[.slice ua zs.length uc] 188);have bT1:=bT.alloc (.cells #[.slice ua zs.length uc] 188);have bF1:=(bF.alloc (.cells #[.iface T0 x0] 115)).alloc (.cells #[.slice ua zs.length uc] 188);rw[World.size_alloc,hzF] at bS;skip;refine wpIn_rangeFunc_ownG rfl (by omega) (gf:=239) (lb:=#[.pointer (some ⟨w.heap.size+1+1,0,none⟩)]) rfl trivial (enters_of Tryz.func239 (by kernel_rfl) rfl)
  (yL0 Fence.wide 2 (by omega) trivial rfl (w.heap.size+1+1) b w _ _ zs hn h hB1 bS) KpB.trans
  (fun W l o o' hl ho hc hw=>⟨belowK_b (w:=w) (nR _) W l o o' (by simp[hzF] at hl;omega) ho hc hw,World.putObj_heap_other (fun e=>by simp[hzF] at hl;omega)⟩) (bR _ _) (fun _=>rfl)
  (fun (pre:List (Int × Pq w)) W=>((∃ v,Boxed W (w.heap.size+1) 115 v/\yG W (iK t pre) v)/\Boxed W w.heap.size 245 (.func (.func 182) #[] #[]))/\Below w.heap.size ((wF.alloc (.cells #[.iface T0 x0] 115)).alloc (.cells #[.slice ua zs.length uc] 188)) W)
  (fun _ _ _=>False)
  (OwnFrom.and (OwnFrom.and (Own.from (zM0 (w.heap.size+1) (fun pre:List (Int × Pq w)=>iK t pre)) _) (Own.from (yU6 w.heap.size 245 _) _)) (ownFrom_below hB1.size hB1.size))
  (fun _ _ _ _ _ hs _ _=>hs) ⟨⟨⟨_,bT1,hr.below hB1⟩,bF1⟩,bR _ _⟩
  (fun x:Int × Pq w=>{ tmps:=#[.func (.func 182) #[] #[],.iface T0 x0,.slice ua zs.length uc,.pointer (some ⟨w.heap.size,0,none⟩),.pointer (some ⟨w.heap.size+1,0,none⟩),undef,.nilIface,undef,x.2.1.2,.slice ua zs.length uc,.func (.func 239) #[] #[.pointer (some ⟨w.heap.size+1+1,0,none⟩)],.int .i64 x.1,x.2.1.2,undef,undef,undef,undef,undef],defers:=[] }) ?assign ?body ?done ?stop
 case assign =>
  intro l x W K hK
  gi_wp2
  exact hK
 case body =>
  rintro l pre ⟨ix,⟨⟨tm,tv⟩,hr0⟩⟩ W ⟨⟨⟨v,hv1,hrv⟩,hbF⟩,hB⟩ hlt;obtain⟨T2,x2,rfl⟩:=yG.iface hr0;obtain⟨T3,x3,rfl⟩:=hrv.iface;have hc:=hv1.cell;have hf:=hv1.frozen;have hcF:=hbF.cell;have hB2:=hB1.trans hB;have hrW:yG W tm (.iface T2 x2):=yG.below hB2 hr0;have hsz:w.heap.size+3<=W.heap.size:=(by have:=hB.size;simp[hzF] at this;omega);have hca:=(hv1.alloc (.cells #[.iface T2 x2,.iface T3 x3] 220)).cell;have hfa:=(hv1.alloc (.cells #[.iface T2 x2,.iface T3 x3] 220)).frozen
  gi_wp2_with ((try refine⟨trivial,?_⟩);gi_at_call 182;refine(CallsIn.inRound l (callsIn_wide.2 (yH2 _ _ _ _ _))).mono ?_;rintro e w' ⟨rfl,rfl⟩)
  have ka:Below W.heap.size W (W.alloc (.cells #[.iface T2 x2,.iface T3 x3] 220)):=Below.alloc (bR _ _) (nR _) _;have ko:=KeepsOthers.alloc W (.cells #[.iface T2 x2,.iface T3 x3] 220);have hna:=heap_alloc_new W (.cells #[.iface T2 x2,.iface T3 x3] 220);have hva:=hv1.alloc (.cells #[.iface T2 x2,.iface T3 x3] 220);have hfb:=hbF.alloc (.cells #[.iface T2 x2,.iface T3 x3] 220);have ra:=hrW.below ka;have rb:=hrv.below ka;have oa:=ka.block (w.heap.size+1+1) (by omega);have kb:=ka.mono hB2.size;generalize W.alloc (.cells #[.iface T2 x2,.iface T3 x3] 220)=Wa at ko hna hva hfb ra rb oa kb |-;have ns:tQ Wa (some (w.heap.size+1)):=fun k cs e fr hk ht hh=>by
   cases hk;rw[show Wa.heap[w.heap.size+1]?=_ from hva] at hh;cases hh;exact absurd ht (by decide)
  have g1:=grownBy_setCell' Wa (w.heap.size+1) (.iface 218 (.pointer (some ⟨W.heap.size,0,none⟩)));have o1:=Below.heap_setCell Wa ⟨w.heap.size+1,0,none⟩ (.iface 218 (.pointer (some ⟨W.heap.size,0,none⟩))) (w.heap.size+1+1) (by simp);have o2:=Below.heap_setCell Wa ⟨w.heap.size+1,0,none⟩ (.iface 218 (.pointer (some ⟨W.heap.size,0,none⟩))) w.heap.size (by simp);have kc:=kb.setCell (p:=⟨w.heap.size+1,0,none⟩) (Nat.le_succ _) (.iface 218 (.pointer (some ⟨W.heap.size,0,none⟩)));refine⟨(ko.trans (KeepsOthers.setCell _ _ _)).from _,⟨kc,o1.trans oa⟩,⟨⟨_,hva.set _,?_⟩,o2.trans hfb⟩,hB.trans kc⟩;rw[zK8];exact⟨_,_,_,rfl,xY g1 ns (by decide) hna,ra.grown g1 ns,rb.grown g1 ns⟩
 case done =>
  rintro D ys W hD hys ⟨⟨⟨v,hv1,hrv⟩,hbF⟩,hB⟩ hK;have hc:=hv1.cell
  gi_wp2
  refine⟨by simp,.inl ⟨_,_,rfl,run_takeDeferred hK,?_⟩⟩;refine⟨_,results_tmp rfl _ _ _,(hB1.trans hB).trans (belowK_b (w:=w) (nR _) W D _ _ (by simp[hzF] at hD;omega) hK rfl rfl),v,rfl,?_⟩;rw[← zW4 t zs ys hys];exact hrv.grown (grownBy_putObj' W D _) (zS1 fun r e=>by cases e;exact⟨_,hK,rfl⟩)
 case stop =>
  rintro D c pre W _ _ h _;exact h.elim
end Go.Proofs.YtcaahdjhbmmcnaaGreatDoor
namespace Go.Proofs.YtcaahdjhbmmcnaaGreatDoor
open Go.ChangeShapes Go.WideShapes Go.ChangeAt Go.RowKit
def fA (t:Tm) (W:World) (e:Ending) (W':World):Prop:=∃ T x,e=.returned (.iface T x)/\yG W' t (.iface T x)/\Below W.heap.size W W'
theorem qB{W W':World}(h:W.grownBy W' none):Below W.heap.size W W' := ⟨h.os,h.tape,h.output,h.size,fun i hi=>h.block i hi (by simp)⟩
theorem sQ(o:Option (List UInt8)):∃ b,yC o=.tuple #[.string ⟨(o.getD []).toArray⟩,.bool b]:=by
 cases o with
|none=>exact⟨_,rfl⟩
|some t=>exact⟨_,rfl⟩
theorem zW1(T:Tm)(tb:List UInt8)(h:T.bytes=tb)(hp:T.Pre):yC (vV (some []) T)=if yB tb=true then .tuple #[.string ⟨tb.toArray⟩,.bool true] else .tuple #[.string ⟨#[]⟩,.bool false]:=by
 subst h;by_cases hk:yB T.bytes=true
 ·rw[iP hk,(uZ T).1 ((lQ hp).1 hk)];rfl
 ·rw[iN hk,(uZ T).2 (fun h=>hk ((lQ hp).2 h))];rfl
theorem tX{t:Tm}{v:Value}{W:World}(hv:Vars W)(hl:t.Lim 9999)(hp:t.Pre)(hz:t.bytes.length<=100000000)(h:yG W t v) :
  Rt 86 #[v] W (yC (vV (some []) t)):=by
 obtain⟨T,x,rfl⟩:=h.iface;have f1:=Ld (pG hv hl h hz);have f2:=Ld fun W1 (hb:Below W.heap.size W W1)=>dE ⟨t.bytes.toArray⟩ W1 (hv.below hb) (by simp only[maxLen,ByteArray.size,List.size_toArray];omega);have HE:=Ld (zW1 t _ rfl hp);simp only at f2;generalize t.bytes=tb at f1 f2 HE;rw[HE.out];clear HE h hl hp hz hv;generalize yB tb=ok at f2;go_enter Tryz.func86,Tryz.ntmps86;go_wp2_with fail;(with_reducible refine mo f1.out fun w1 hb1=>?_);go_wp2_with fail;(with_reducible refine mo (f2.out _ hb1) fun w2 hb2=>?_);have HB2:=bt hb1 hb2;clear hb1 hb2 f1 f2;cases ok
 all_goals
  go_wp2;go_ret2;exact⟨rfl,HB2.out⟩
theorem uR{l:List UInt8}:yB l=true↔∃ t,qC l t:=by
 unfold yB;constructor
 ·intro h;obtain⟨t,ht⟩:=Option.isSome_iff_exists.1 h;exact⟨t,vF ht⟩
 ·rintro ⟨t,ht⟩;rw[zY ht];rfl
theorem pO.flat{ls:List (List UInt8)}{ts:List Tm}(h:pO ls ts):gV ts=ls.flatten:=by rw[gV,h.1]
theorem pO.ok{ls:List (List UInt8)}{ts:List Tm}(h:pO ls ts):∀ t∈ts,t.Ok:=fun t ht=>(h.2 t ht).1
theorem pO.all{ls:List (List UInt8)}{ts:List Tm}(h:pO ls ts):∀ a∈ls,yB a=true:=fun a ha=>by
 rw[← h.1] at ha;obtain⟨t,ht,rfl⟩:=List.mem_map.1 ha;exact uR.2 ⟨t,h.2 t ht⟩
theorem yS9{h:List UInt8}(ls:List (List UInt8))(hno:∀ t,¬ qC h t):yK h ls=none:=by
 unfold yK;rw[iN];rintro ⟨h1,_⟩;obtain⟨t,ht⟩:=uR.1 h1;exact hno t ht
theorem yH8(h:List UInt8){ls:List (List UInt8)}(hno:(∃ a∈ls,∀ t,¬ qC a t)\/2000<ls.flatten.length):yK h ls=none:=by
 unfold yK;rw[iN];rintro ⟨_,h2,h3⟩;rcases hno with ⟨a,ha,hx⟩|hl
 ·obtain⟨t,ht⟩:=uR.1 (h2 a ha);exact hx t ht
 ·omega
theorem yH7{h:List UInt8}{ls:List (List UInt8)}{T:Tm}{ts:List Tm}(ht:qC h T)(ha:pO ls ts):yK h ls=vV (some []) (T.given ts):=by
 have hok:=bM ts T ht.1 ha.ok;have hb:=uP ts T;rw[ha.flat,ht.2.1,ha.len] at hb;have hl:(T.given ts).bytes.length=h.length+ls.length+ls.flatten.length:=by rw[hb];simp only[lA,List.length_replicate];omega
 unfold yK;by_cases hk:h.length+ls.length+ls.flatten.length<=2000
 ·rw[iP ⟨uR.2 ⟨T,ht⟩,ha.all,hk⟩,(uZ _).1 ⟨hok,by omega⟩,hb]
 ·rw[iN (fun hh=>hk hh.2.2),(uZ _).2 (fun hh=>hk (by have:=hh.2;omega))]
theorem yH4(s:ByteArray){W:World}{b:Nat}{v:Value}{ls:List (List UInt8)}(hv:Vars W)(hs:s.size<=maxLen)(h:W.ownsRow b 9 1 v ls.length (ls.map sv))(hn:ls.length<=1048576)(hx:∀ x∈ls,x.length<=1048576) :
  Rt 137 #[.string s,v] W (yC (yK s.data.toList ls)):=by
 have f1:=Ld (xH s W hv hs);have f2:=Ld fun W1 (hb:Below W.heap.size W W1)=>mX (hv.below hb) (zA h hb) hn hx;have HV:=Ld hv;obtain⟨ua,uc,rfl⟩:=zP h;clear hv h hx hs;go_enter Tryz.func137,Tryz.ntmps137;go_wp2_with fail;(with_reducible refine f1.out.mono ?_);rintro e w1 ⟨hb,⟨t,tv,ht,rfl,hr⟩|⟨hno,rfl⟩⟩;rotate_left
 ·have HB:=Ld hb;have HE:Hid (yK s.data.toList ls=none):=yS9 ls hno;clear hno f1 hb;go_wp2_with fail;(with_reducible refine(f2.out _ HB.out).mono ?_);rintro e w2 ⟨hb2,⟨ts,u,vs,hA,hfl,hl2,rfl,hu,hvs⟩|⟨hno2,rfl⟩⟩
  ·have HB2:=bt HB.out hb2;obtain⟨xa,xc,rfl⟩:=zP hu;clear hb2 hA hu hvs f2;go_wp2;go_ret2;rw[HE.out];exact⟨rfl,HB2.out⟩
  ·have HB2:=bt HB.out hb2;clear hb2 hno2 f2;go_wp2;go_ret2;rw[HE.out];exact⟨rfl,HB2.out⟩
 obtain⟨T,x,rfl⟩:=hr.iface;have HB:=Ld hb;clear hb f1;go_wp2_with fail;(with_reducible refine(f2.out _ HB.out).mono ?_);rintro e w2 ⟨hb2,⟨ts,u,vs,hA,hfl,hl2,rfl,hu,hvs⟩|⟨hno2,rfl⟩⟩;rotate_left
 ·have HB2:=bt HB.out hb2;have HE:Hid (yK s.data.toList ls=none):=yH8 _ hno2;clear hb2 hno2 f2 ht hr;go_wp2;go_ret2;rw[HE.out];exact⟨rfl,HB2.out⟩
 have HB2:=bt HB.out hb2;have HE:=Ld (yH7 ht hA);have hok:=bM ts t ht.1 hA.ok;have hbl:=congrArg List.length (uP ts t);rw[hA.flat] at hbl;have hle:=ht.2.2;rw[← ht.2.1] at hle;have hll:=hA.len;simp only[lA,List.length_replicate] at hbl;have f3:=Ld (zO0 (hr.below hb2) hu hvs (by omega));have f4:=Ld fun W2 v' (hb3:Below W.heap.size W W2) (hr3:yG W2 (t.given ts) v')=>tX (HV.out.below hb3) hok.lim9 hok.pre (by omega) hr3;obtain⟨xa,xc,rfl⟩:=zP hu;generalize t.given ts=R at f3 f4 HE;clear hb2 hA hu hvs f2 ht hr hok hbl hle hll hfl HB;go_wp2_with fail;(with_reducible refine f3.out.mono ?_);rintro e w3 ⟨hb3,v',rfl,hr3⟩;have HB3:=bt HB2.out hb3;have f5:=Ld (f4.out w3 v' HB3.out hr3);obtain⟨T1,x1,rfl⟩:=hr3.iface;obtain⟨o2,ho⟩:=sQ (vV (some []) R);rw[ho] at f5;have HO:=Ld ho;clear hr3 hb3 f3 f4 ho;go_wp2_with fail;(with_reducible refine mo f5.out fun w4 hb4=>?_);have HB4:=bt HB3.out hb4;clear hb4 f5;go_wp2;go_ret2;rw[HE.out,HO.out];exact⟨rfl,HB4.out⟩
theorem pO.flatP{ls:List (List UInt8)}{ts:List Tm}(h:pO ls ts):pR ts=(ls.map fun d=>112::d).flatten:=by rw[pR,← h.1,List.map_map];rfl
theorem gK:∀ (ls:List (List UInt8)),(ls.map fun d=>(112:UInt8)::d).flatten.length=ls.length+ls.flatten.length
|[]=>rfl
|x::ls=>by
  have:=gK ls;simp only[List.map_cons,List.flatten_cons,lA,lC,this];omega
theorem yL2{t:List UInt8}(ls:List (List UInt8))(hno:∀ u,¬ qC t u):zU ls t=none:=by
 unfold zU;rw[iN];rintro ⟨h1,_⟩;obtain⟨u,hu⟩:=uR.1 h1;exact hno u hu
theorem zZ9(t:List UInt8){ls:List (List UInt8)}(hno:(∃ a∈ls,∀ t,¬ qC a t)\/2000<ls.flatten.length):zU ls t=none:=by
 unfold zU;rw[iN];rintro ⟨_,h2,h3⟩;rcases hno with ⟨a,ha,hx⟩|hl
 ·obtain⟨t,ht⟩:=uR.1 (h2 a ha);exact hx t ht
 ·omega
theorem zZ8{t:List UInt8}{ls:List (List UInt8)}{T:Tm}{ts:List Tm}(ht:qC t T)(ha:pO ls ts):zU ls t=vV (some []) (Tm.arrows ts T):=by
 have hok:=lK ts T ht.1 ha.ok;have hb:=xI ts T;rw[ha.flatP,ht.2.1] at hb;have hl:(Tm.arrows ts T).bytes.length=t.length+ls.length+ls.flatten.length:=by rw[hb,lA,gK];omega
 unfold zU;by_cases hk:t.length+ls.length+ls.flatten.length<=2000
 ·rw[iP ⟨uR.2 ⟨T,ht⟩,ha.all,hk⟩,(uZ _).1 ⟨hok,by omega⟩,hb]
 ·rw[iN (fun hh=>hk hh.2.2),(uZ _).2 (fun hh=>hk (by have:=hh.2;omega))]
theorem dI(s:ByteArray){W:World}{b:Nat}{v:Value}{ls:List (List UInt8)}(hv:Vars W)(hs:s.size<=maxLen)(h:W.ownsRow b 9 1 v ls.length (ls.map sv))(hn:ls.length<=1048576)(hx:∀ x∈ls,x.length<=1048576) :
  Rt 134 #[v,.string s] W (yC (zU ls s.data.toList)):=by
 have f1:=Ld (mX hv h hn hx);have f2:=Ld fun W1 (hb:Below W.heap.size W W1)=>xH s W1 (hv.below hb) hs;have HV:=Ld hv;obtain⟨ua,uc,rfl⟩:=zP h;clear hv h hx hs;go_enter Tryz.func134,Tryz.ntmps134;go_wp2_with fail;(with_reducible refine f1.out.mono ?_);rintro e w1 ⟨hb,⟨ts,u,vs,hA,hfl,hl2,rfl,hu,hvs⟩|⟨hno,rfl⟩⟩;rotate_left
 ·have HB:=Ld hb;have HE:Hid (zU ls s.data.toList=none):=zZ9 _ hno;clear hno f1 hb;go_wp2_with fail;(with_reducible refine(f2.out _ HB.out).mono ?_);rintro e w2 ⟨hb2,⟨t,tv,ht,rfl,hr⟩|⟨hno2,rfl⟩⟩
  ·have HB2:=bt HB.out hb2;obtain⟨T,x,rfl⟩:=hr.iface;clear hb2 ht hr f2;go_wp2;go_ret2;rw[HE.out];exact⟨rfl,HB2.out⟩
  ·have HB2:=bt HB.out hb2;clear hb2 hno2 f2;go_wp2;go_ret2;rw[HE.out];exact⟨rfl,HB2.out⟩
 have HB:=Ld hb;have HU:=Ld hu;obtain⟨xa,xc,rfl⟩:=zP hu;clear hb f1 hu;go_wp2_with fail;(with_reducible refine(f2.out _ HB.out).mono ?_);rintro e w2 ⟨hb2,⟨t,tv,ht,rfl,hr⟩|⟨hno2,rfl⟩⟩;rotate_left
 ·have HB2:=bt HB.out hb2;have HE:Hid (zU ls s.data.toList=none):=yL2 _ hno2;clear hb2 hno2 f2 hA hvs HU;go_wp2;go_ret2;rw[HE.out];exact⟨rfl,HB2.out⟩
 have HB2:=bt HB.out hb2;have HE:=Ld (zZ8 ht hA);have hok:=lK ts t ht.1 hA.ok;have hbl:=congrArg List.length (xI ts t);rw[hA.flatP,lA,gK] at hbl;have hle:=ht.2.2;rw[← ht.2.1] at hle;have hll:=hA.len;have f3:=Ld (kC hr (zA HU.out hb2) (hvs.below hb2) (by omega));have f4:=Ld fun W2 v' (hb3:Below W.heap.size W W2) (hr3:yG W2 (Tm.arrows ts t) v')=>tX (HV.out.below hb3) hok.lim9 hok.pre (by omega) hr3;obtain⟨T0,x0,rfl⟩:=hr.iface;generalize Tm.arrows ts t=R at f3 f4 HE;clear hb2 hA HU hvs f2 ht hr hok hbl hle hll hfl HB;go_wp2_with fail;(with_reducible refine f3.out.mono ?_);rintro e w3 ⟨hb3,v',rfl,hr3⟩;have HB3:=bt HB2.out hb3;have f5:=Ld (f4.out w3 v' HB3.out hr3);obtain⟨T1,x1,rfl⟩:=hr3.iface;obtain⟨o2,ho⟩:=sQ (vV (some []) R);rw[ho] at f5;have HO:=Ld ho;clear hr3 hb3 f3 f4 ho;go_wp2_with fail;(with_reducible refine mo f5.out fun w4 hb4=>?_);have HB4:=bt HB3.out hb4;clear hb4 f5;go_wp2;go_ret2;rw[HE.out,HO.out];exact⟨rfl,HB4.out⟩
end Go.Proofs.YtcaahdjhbmmcnaaGreatDoor
