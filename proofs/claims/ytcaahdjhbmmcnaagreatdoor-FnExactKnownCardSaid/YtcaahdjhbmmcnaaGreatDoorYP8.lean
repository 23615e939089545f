/- TIC TID TIDc GI7 -/
import Derived.Lib.AppendStr
import Derived.Shelf.Abstract
import Derived.Test.YtcaahdjhbmmcnaaGreatDoorYP2
import Derived.Test.YtcaahdjhbmmcnaaGreatDoorYP6
import Derived.Test.YtcaahdjhbmmcnaaGreatDoorYP5
set_option maxRecDepth 100000
set_option maxHeartbeats 16000000
set_option linter.unusedSimpArgs false
set_option linter.unusedVariables false
namespace Go.Proofs.YtcaahdjhbmmcnaaGreatDoor
open Go.ChangeShapes Go.WideShapes Go.ChangeAt Go.RowKit
theorem infoByteT:(Tryz.prog.info? 5).map (fun i=>(i.zero,i.size,i.bytes))=some (some (.int .u8 0),1,1):=by kernel_rfl
theorem blk_grown {w w':World} {row:Option Nat} {B:Nat} {o:Obj} (hg:w.grownBy w' row) (hb:w.heap[B]?=some o) (hne:row≠some B):w'.heap[B]?=some o:=by
 have hlt:B < w.heap.size:=by
  rcases Nat.lt_or_ge B w.heap.size with h' | h'
  ·exact h'
  ·rw [Array.getElem?_eq_none h'] at hb;cases hb
 rw [hg.block B hlt (fun e=>hne e.symm)];exact hb
theorem blk_alloc {w:World} {B:Nat} {o o':Obj} (hb:w.heap[B]?=some o):(w.alloc o').heap[B]?=some o:=by
 have hlt:B < w.heap.size:=by
  rcases Nat.lt_or_ge B w.heap.size with h' | h'
  ·exact h'
  ·rw [Array.getElem?_eq_none h'] at hb;cases hb
 rw [Below.heap_alloc _ _ _ hlt];exact hb
theorem blk_ne {w:World} {b z n B:Nat} {v:Value} {xs:List Value} {cs:Array Value} {T:TypeId} {fr:Nat × Nat} (h:w.ownsRow b 5 z v n xs) (hb:w.heap[B]?=some (.cells cs T fr)) (hT:T≠5):v.ownBlock≠some B:=by
 rcases h.2 with ⟨rfl,_⟩ | ⟨g,cap,cur,rfl,_,hg,_⟩
 ·simp [Value.ownBlock]
 ·simp only [Value.ownBlock,ne_eq,Option.some.injEq];rintro rfl;rw [hb] at hg;simp only [Option.some.injEq,Obj.cells.injEq] at hg;exact hT hg.2.1
def KeepT (W W':World):Prop:=∀ (B:Nat) (cs:Array Value) (T:TypeId) (fr:Nat × Nat),T≠5->W.heap[B]?=some (.cells cs T fr)->W'.heap[B]?=some (.cells cs T fr)
theorem KeepT.refl (W:World):KeepT W W:=fun _ _ _ _ _ h=>h
theorem KeepT.trans {a b c:World} (h:KeepT a b) (k:KeepT b c):KeepT a c:=fun B cs T fr hT hb=>k B cs T fr hT (h B cs T fr hT hb)
theorem KeepT.alloc {W w:World} (h:KeepT W w) (o:Obj):KeepT W (w.alloc o):=fun B cs T fr hT hb=>blk_alloc (h B cs T fr hT hb)
theorem KeepT.below {W w w':World} (h:KeepT W w) (hb:Below w.heap.size w w'):KeepT W w':=fun B cs T fr hT hx=>blk_grown (grownBy_of_below hb none) (h B cs T fr hT hx) (by simp)
theorem keep_row {W w w':World} {b z n:Nat} {u:Value} {xs:List Value} (h:KeepT W w) (hu:w.ownsRow b 5 z u n xs) (hg:w.grownBy w' u.ownBlock):KeepT W w' :=
 fun B cs T fr hT hx=>blk_grown hg (h B cs T fr hT hx) (blk_ne hu (h B cs T fr hT hx) hT)
theorem KeepT.row {W W':World} {b z n:Nat} {e:TypeId} {v:Value} {xs:List Value} (h:KeepT W W') (hr:W.ownsRow b e z v n xs) (he:e≠5):W'.ownsRow b e z v n xs:=by
 refine ⟨hr.1,?_⟩;rcases hr.2 with h1 | ⟨g,cap,cur,h1,h2,h3,h4⟩
 ·exact .inl h1
 ·exact .inr ⟨g,cap,cur,h1,h2,h _ _ _ _ he h3,h4⟩
def AppAns (w0 W:World) (out:List UInt8) (e:Ending) (W':World):Prop :=
 ∃ u,e=.returned u/\W'.ownsRow w0.heap.size 5 1 u out.length (out.map bv)/\Below w0.heap.size w0 W'/\KeepT W W'
theorem below_row {w0 w w':World} {u:Value} {n:Nat} {xs:List Value} (hb:Below w0.heap.size w0 w) (h:w.ownsRow w0.heap.size 5 1 u n xs) (hg:w.grownBy w' u.ownBlock):Below w0.heap.size w0 w' :=
 hb.grown hg hb.size fun k hk=>(h.lt k hk).1
theorem appConst (s:List UInt8) {ls:List (List UInt8)} {w0 W:World} {b g0:Nat} {c u:Value} {l:List UInt8} (hg:w0.heap[g0]?=some (.cells #[.string ⟨s.toArray⟩,c] 126 (0,0))) (hr:w0.ownsRow b 9 1 c ls.length (ls.map sv)) (hb:Below w0.heap.size w0 W)
  (hu:W.ownsRow w0.heap.size 5 1 u l.length (l.map bv)) (hl:l.length+(Tm.const s ls).bytes.length<=100000000) :
  Calls Tryz.prog 320 #[.pointer (some ⟨g0,0,none⟩),u] W (AppAns w0 W (l ++ (Tm.const s ls).bytes)):=by
 obtain ⟨i0,hi,hz0,hz1,hz2⟩:=info_parts infoByteT;obtain ⟨ca,cc,rfl⟩:=row_slice hr;have HL:Hid (l ++ (Tm.const s ls).bytes=l ++ [99] ++ s ++ [59] ++ lvsB ls ++ [46]):=by simp [Hid,Tm.bytes]
 have hlen:l.length+(s.length+(lvsB ls).length+3)<=100000000:=by
  have:(Tm.const s ls).bytes.length=s.length+(lvsB ls).length+3:=(by simp [Tm.bytes];omega);omega
 have hbl:=(lvsB_leI (ls:=ls)).1;have hzs:(⟨s.toArray⟩:ByteArray).size=s.length:=by simp [ByteArray.size]
 generalize l ++ (Tm.const s ls).bytes=out at HL;have HRO:=Ld hr;have hB0:=hb;have hz0w:=hb.size;have hK0:=KeepT.refl W;have hu0:=hu;have blk0:=blk_below hg hb;clear hl hr hb hu hg;obtain ⟨L0,rfl⟩:∃ x,x=l:=⟨_,rfl⟩;go_enter Tryz.func320,Tryz.ntmps320;go_wp2_with (at_builtin;refine wpList_append_own _ rfl _ _ 97 rfl w0.heap.size 5 i0 _ 1 1 Tryz.underlying97 hi hz0 hz1 hz2 rfl (by decide) _ _ _ rfl (hu0.alloc _) ⟨W.heap.size,0,none⟩ 1 1 [.int .u8 99] rfl rfl (oneNew _ _ _) (by simp [Value.oneCell']) (by simp only [maxLen];omega) (by omega) (by simp;omega) ?_);intro u1 w1 hx1 hg1 _;obtain ⟨L1,hL1⟩:∃ y0,y0=L0 ++ [(99:UInt8)]:=⟨_,rfl⟩;have hl1:L1.length<=L0.length+1:=by rw [hL1];simp
 have hu1:w1.ownsRow w0.heap.size 5 1 u1 L1.length (L1.map bv):=by rw [hL1];simpa [bv] using hx1
 have hB1:=below_row (hB0.alloc hB0.size _) (hu0.alloc _) hg1;have hK1:=keep_row (hK0.alloc _) (hu0.alloc _) hg1;have blkx:=blk_alloc (o':=.cells #[.int .u8 99] 5) blk0;have blk1:=blk_grown hg1 blkx (blk_ne (hu0.alloc _) blkx (by decide));have blky:=trivial;clear blkx blky;have hz1w:=hB1.size;have HL1:=Ld hL1;clear hx1 hg1 hL1 hu0 hB0 hK0 blk0;have c0:w1.cell? ⟨g0,0,none⟩=some (.string ⟨s.toArray⟩):=by rw [Lib.cell_of_heap blk1];rfl
 go_wp2_with (at_builtin;refine Lib.wpList_append_own_string _ rfl _ _ 97 9 rfl w0.heap.size 5 i0 Tryz.underlying97 Tryz.underlying9 hi hz0 hz1 hz2 _ _ _ rfl hu1 ⟨(s).toArray⟩ rfl (by simp only [maxLen,ByteArray.size,List.size_toArray];omega) (by simp only [ByteArray.size,List.size_toArray];omega) (by omega) ?_);intro u2 w2 hx2 hg2 _;obtain ⟨L2,hL2⟩:∃ y0,y0=L1 ++ s:=⟨_,rfl⟩;have hl2:L2.length<=L1.length+(s).length:=by rw [hL2];simp
 have hu2:w2.ownsRow w0.heap.size 5 1 u2 L2.length (L2.map bv):=by rw [hL2,List.map_append,lA];exact hx2
 have hB2:=below_row hB1 hu1 hg2;have hK2:=keep_row hK1 hu1 hg2;have blk2:=blk_grown hg2 blk1 (blk_ne hu1 blk1 (by decide));have hz2w:=hB2.size;have HL2:=Ld hL2;clear hx2 hg2 hL2 hu1 hB1 hK1 blk1;go_wp2_with (at_builtin;refine wpList_append_own _ rfl _ _ 97 rfl w0.heap.size 5 i0 _ 1 1 Tryz.underlying97 hi hz0 hz1 hz2 rfl (by decide) _ _ _ rfl (hu2.alloc _) ⟨w2.heap.size,0,none⟩ 1 1 [.int .u8 59] rfl rfl (oneNew _ _ _) (by simp [Value.oneCell']) (by simp only [maxLen];omega) (by omega) (by simp;omega) ?_);intro u3 w3 hx3 hg3 _;obtain ⟨L3,hL3⟩:∃ y0,y0=L2 ++ [(59:UInt8)]:=⟨_,rfl⟩;have hl3:L3.length<=L2.length+1:=by rw [hL3];simp
 have hu3:w3.ownsRow w0.heap.size 5 1 u3 L3.length (L3.map bv):=by rw [hL3];simpa [bv] using hx3
 have hB3:=below_row (hB2.alloc hB2.size _) (hu2.alloc _) hg3;have hK3:=keep_row (hK2.alloc _) (hu2.alloc _) hg3;have blkx:=blk_alloc (o':=.cells #[.int .u8 59] 5) blk2;have blk3:=blk_grown hg3 blkx (blk_ne (hu2.alloc _) blkx (by decide));have blky:=trivial;clear blkx blky;have hz3w:=hB3.size;have HL3:=Ld hL3;clear hx3 hg3 hL3 hu2 hB2 hK2 blk2;have c1:w3.cell? ⟨g0,1,none⟩=some (.slice ca ls.length cc):=by rw [Lib.cell_of_heap blk3];rfl
 clear blk3 c0;go_wp2;go_loopw [1,24] (fun v i wr=>∃ (k:Nat) (L:List UInt8),k<=ls.length/\i=.int .i64 k/\Hid (L=L3 ++ lvsB (ls.take k))/\L.length<=L3.length+(lvsB ls).length/\wr.ownsRow w0.heap.size 5 1 v L.length (L.map bv)/\Below w0.heap.size w0 wr/\KeepT W wr) (fun _ i _=>ls.length - (intOf i).toNat)
 case atStart=>exact ⟨0,L3,Nat.zero_le _,rfl,by simp [lvsB,Hid],by omega,hu3,hB3,hK3⟩
 case round =>
  obtain ⟨k,L4,hk,rfl,hL4,hl4,hu4,hB4,hK4⟩:=hrel;have hz4w:=hB4.size;by_cases hlt:k < ls.length
  ·have hr:=own_below HRO.out hB4;obtain ⟨g,cap',e0,_,hgl⟩:=hr.form (by omega);cases e0;have ex:(ls.map sv)[k]?=some (sv ls[k]):=(by simp [hlt]);have cc:=(hr.cellAt k (by omega)).trans ex;unfold sv at cc;have q1:=zn k;have q2:(k:Int) < (ls.length:Int):=(by omega);have htk:Hid (lvsB (ls.take (k+1))=lvsB (ls.take k) ++ (ls[k] ++ [44])):=by
    rw [Hid,List.take_succ_eq_append_getElem hlt,lvsB_append];simp [lvsB]
   have hle:(lvsB (ls.take (k+1))).length<=(lvsB ls).length:=by
    have h1:=congrArg (fun z=>(lvsB z).length) (List.take_append_drop (k+1) ls);simp only [lvsB_append,lA] at h1;omega
   have HL4:=Ld hL4.out;have hLk:L4.length<=L3.length+(lvsB (ls.take k)).length:=(by rw [hL4.out,lA];exact nR _);have htl:=congrArg List.length htk.out;simp only [lA,lC,List.length_nil] at htl;generalize ls[k]=x at cc htk htl;clear ex hr hL4;go_wp2_with (at_builtin;refine Lib.wpList_append_own_string _ rfl _ _ 97 9 rfl w0.heap.size 5 i0 Tryz.underlying97 Tryz.underlying9 hi hz0 hz1 hz2 _ _ _ rfl hu4 ⟨(x).toArray⟩ rfl (by simp only [maxLen,ByteArray.size,List.size_toArray];omega) (by simp only [ByteArray.size,List.size_toArray];omega) (by omega) ?_);intro u5 w5 hx5 hg5 _;obtain ⟨L5,hL5⟩:∃ y0,y0=L4 ++ x:=⟨_,rfl⟩;have hl5:L5.length<=L4.length+(x).length:=(by rw [hL5];simp);have hu5:w5.ownsRow w0.heap.size 5 1 u5 L5.length (L5.map bv):=(by rw [hL5,List.map_append,lA];exact hx5);have hB5:=below_row hB4 hu4 hg5;have hK5:=keep_row hK4 hu4 hg5;have hz5w:=hB5.size;have HL5:=Ld hL5;clear hx5 hg5 hL5 hu4 hB4 hK4;go_wp2_with (at_builtin;refine wpList_append_own _ rfl _ _ 97 rfl w0.heap.size 5 i0 _ 1 1 Tryz.underlying97 hi hz0 hz1 hz2 rfl (by decide) _ _ _ rfl (hu5.alloc _) ⟨w5.heap.size,0,none⟩ 1 1 [.int .u8 44] rfl rfl (oneNew _ _ _) (by simp [Value.oneCell']) (by simp only [maxLen];omega) (by omega) (by simp;omega) ?_);intro u6 w6 hx6 hg6 _;obtain ⟨L6,hL6⟩:∃ y0,y0=L5 ++ [(44:UInt8)]:=⟨_,rfl⟩;have hl6:L6.length<=L5.length+1:=(by rw [hL6];simp);have hu6:w6.ownsRow w0.heap.size 5 1 u6 L6.length (L6.map bv):=by rw [hL6];simpa [bv] using hx6
   have hB6:=below_row (hB5.alloc hB5.size _) (hu5.alloc _) hg6;have hK6:=keep_row (hK5.alloc _) (hu5.alloc _) hg6;have hz6w:=hB6.size;have HL6:=Ld hL6;clear hx6 hg6 hL6 hu5 hB5 hK5;have HN:Hid (L6=L3 ++ lvsB (ls.take (k+1))):=(by rw [Hid,HL6.out,HL5.out,HL4.out,htk.out];simp);have hl6b:L6.length<=L3.length+(lvsB ls).length:=(by omega);clear HL6 HL5 HL4 htk;go_wp2;go_roundw
   case rel=>exact ⟨k+1,L6,by omega,by go_num,HN.out,hl6b,hu6,hB6,hK6⟩
   case measure=>simp [intOf];omega
  ·have hE:L4=L3 ++ lvsB ls:=(by rw [hL4.out,List.take_of_length_le (by omega)]);have HL4:=Ld hE;have d1:decide ((k:Int) < (ls.length:Int))=false:=dF (by omega);clear hE hL4;go_wp2_with (at_builtin;refine wpList_append_own _ rfl _ _ 97 rfl w0.heap.size 5 i0 _ 1 1 Tryz.underlying97 hi hz0 hz1 hz2 rfl (by decide) _ _ _ rfl (hu4.alloc _) ⟨wr.heap.size,0,none⟩ 1 1 [.int .u8 46] rfl rfl (oneNew _ _ _) (by simp [Value.oneCell']) (by simp only [maxLen];omega) (by omega) (by simp;omega) ?_);intro u5 w5 hx5 hg5 _;obtain ⟨L5,hL5⟩:∃ y0,y0=L4 ++ [(46:UInt8)]:=⟨_,rfl⟩;have hl5:L5.length<=L4.length+1:=(by rw [hL5];simp);have hu5:w5.ownsRow w0.heap.size 5 1 u5 L5.length (L5.map bv):=(by rw [hL5];simpa [bv] using hx5);have hB5:=below_row (hB4.alloc hB4.size _) (hu4.alloc _) hg5;have hK5:=keep_row (hK4.alloc _) (hu4.alloc _) hg5;have hz5w:=hB5.size;have HL5:=Ld hL5;clear hx5 hg5 hL5 hu4 hB4 hK4;have HF:Hid (out=L5):=(by rw [Hid,HL.out,HL5.out,HL4.out,HL3.out,HL2.out,HL1.out]);clear HL HL1 HL2 HL3 HL4 HL5;go_wp2;go_ret;rw [HF.out];exact ⟨_,rfl,hu5,hB5,hK5⟩
def MethIs (T:TypeId) (fn:FuncId):Prop :=
 (∀ n x w,(method (n+1) T x "loop.example/g00963/impl.appendTo").run Tryz.prog w=.ok (fn,x) w)/\∀ args w,(callFunc fn args).run Tryz.prog w=.ok (.enter fn args) w
theorem methConst:MethIs 124 320 := ⟨fun n x w=>by kernel_rfl,Go.Proofs.enters_of Tryz.func320 (by kernel_rfl) rfl⟩
theorem implTextOf {w0:World} {T:TypeId} {fn:FuncId} {x:Value} {out:List UInt8} (hm:MethIs T fn) (hc:Calls Tryz.prog fn #[x,.slice none 0 0] w0 (AppAns w0 w0 out)) :
  Rt 130 #[.iface T x] w0 (.string ⟨out.toArray⟩):=by
 obtain ⟨m1,m2⟩:=hm;have f1:=Ld hc;clear hc;go_enter Tryz.func130,Tryz.ntmps130;go_wp2_with fail;(with_reducible refine f1.out.mono ?_);rintro e w1 ⟨u,rfl,hu,hb,_⟩;have hcv:=conv_own (P:=Tryz.prog) w1 Tryz.underlying97 Tryz.underlying5 Tryz.underlying9 hu;have HB:=Ld hb;clear hu hb;go_wp2;go_ret;exact ⟨rfl,HB.out⟩
end Go.Proofs.YtcaahdjhbmmcnaaGreatDoor
