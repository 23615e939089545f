/- TIE TIF TIG TIH EI0 EJ4 EJ5 EJ8A EJ8 EJ1 -/
import Derived.Deep.RegionHeld3
import Derived.RangeFuncKeeps
import Derived.RangeFuncBound
import Derived.RangeFuncLeaves
import Derived.Shelf.Abstract
import Derived.WalkKit
import Derived.OwnWalkIn
import Derived.TacticsInMore
import Derived.LoopNIn
import Derived.LoopIn
import Derived.RangeFuncBox
import Derived.Maps.AppendAt
import Derived.RangeFuncCalls
import Derived.RangeFuncWrites
import Derived.RegionIn
import Derived.Shelf.RegionOpen
import Derived.Test.YtcaahdjhbmmcnaaGreatDoorTP8
import Derived.Test.YtcaahdjhbmmcnaaGreatDoorTP2
import Derived.Test.YtcaahdjhbmmcnaaGreatDoorTE2
import Derived.Test.YtcaahdjhbmmcnaaGreatDoorTP1
import Derived.Test.YtcaahdjhbmmcnaaGreatDoorTP3
import Derived.Test.YtcaahdjhbmmcnaaGreatDoorTE1
import Derived.Test.YtcaahdjhbmmcnaaGreatDoorTA6
import Derived.Test.YtcaahdjhbmmcnaaGreatDoorTA2
import Derived.Test.YtcaahdjhbmmcnaaGreatDoorTP4
set_option maxRecDepth 100000
set_option maxHeartbeats 16000000
set_option linter.unusedSimpArgs false
set_option linter.unusedVariables false
namespace Go.Proofs.YtcaahdjhbmmcnaaGreatDoor
open Go.ChangeShapes Go.WideShapes Go.ChangeAt Go.RowKit
theorem yZ2:lM 202 322 := ⟨fun n x w=>by kernel_rfl,Go.Proofs.enters_of Tryz.func322 (by kernel_rfl) rfl⟩
theorem yQ8:lM 120 318 := ⟨fun n x w=>by kernel_rfl,Go.Proofs.enters_of Tryz.func318 (by kernel_rfl) rfl⟩
theorem yZ6:lM 212 324 := ⟨fun n x w=>by kernel_rfl,Go.Proofs.enters_of Tryz.func324 (by kernel_rfl) rfl⟩
theorem yZ4:lM 215 327 := ⟨fun n x w=>by kernel_rfl,Go.Proofs.enters_of Tryz.func327 (by kernel_rfl) rfl⟩
theorem xD7:lM 218 329 := ⟨fun n x w=>by kernel_rfl,Go.Proofs.enters_of Tryz.func329 (by kernel_rfl) rfl⟩
theorem yZ3:lM 221 331 := ⟨fun n x w=>by kernel_rfl,Go.Proofs.enters_of Tryz.func331 (by kernel_rfl) rfl⟩
theorem xG0(n:Nat)(hn:n<=9999){w0 W:World}{g0:Nat}(hg:w0.heap[g0]?=some (.cells #[.int .i64 (n:Int)] 204 (0,0))){u:Value}{l:List UInt8}(hv:Vars w0)(hb:Below w0.heap.size w0 W)
  (hu:W.ownsRow w0.heap.size 5 1 u l.length (l.map bv)) (hl:l.length+(Tm.var n).bytes.length<=100000000) :
  Calls Tryz.prog 322 #[.pointer (some ⟨g0,0,none⟩),u] W (nK w0 W (l++(Tm.var n).bytes)):=by
 obtain⟨i0,hi,hz0,hz1,hz2⟩:=info_parts rE;have HL:Hid (l++(Tm.var n).bytes=l++[118]++Lib.decDigits n++[46]):=by simp[Hid,Tm.bytes]
 have hd:(Lib.decDigits n).length<=10:=vS (by omega);have hlen:l.length<=100000000:=by omega
 generalize l++(Tm.var n).bytes=out at HL;have hB0:=hb;have hz0w:=hb.size;have hK0:=xV.refl W;have hu0:=hu;have blk0:=yQ hg hb;have f1:=Ld fun W1 (h:Below w0.heap.size w0 W1)=>nY (n:Int) W1 (by omega) (by omega) (hv.below h).tab;rw[Lib.itoa_nonneg] at f1;generalize Lib.decDigits n=d at f1 HL hd;clear hl hb hu hv hg;obtain⟨L0,rfl⟩:∃ x,x=l:=⟨_,rfl⟩;go_enter Tryz.func322,Tryz.ntmps322;go_wp2_with (at_builtin;refine wpList_append_own _ rfl _ _ 97 rfl w0.heap.size 5 i0 _ 1 1 Tryz.underlying97 hi hz0 hz1 hz2 rfl (by decide) _ _ _ rfl (hu0.alloc _) ⟨W.heap.size,0,none⟩ 1 1 [.int .u8 118] rfl rfl (yI _ _ _) (by simp[Value.oneCell']) (by simp only[maxLen];omega) (by omega) (by simp;omega) ?_);intro u1 w1 hx1 hg1 _;obtain⟨L1,hL1⟩:∃ y0,y0=L0++[(118:UInt8)]:=⟨_,rfl⟩;have hl1:L1.length<=L0.length+1:=by rw[hL1];simp
 have hu1:w1.ownsRow w0.heap.size 5 1 u1 L1.length (L1.map bv):=by rw[hL1];simpa [bv] using hx1
 have hB1:=yJ (hB0.alloc hB0.size _) (hu0.alloc _) hg1;have hK1:=yF (hK0.alloc _) (hu0.alloc _) hg1;have blkx:=qP (o':=.cells #[.int .u8 118] 5) blk0;have blk1:=tI hg1 blkx (jF (hu0.alloc _) blkx (by decide));have blky:=trivial;clear blkx blky;have hz1w:=hB1.size;have HL1:=Ld hL1;clear hx1 hg1 hL1 hu0 hB0 hK0 blk0;have c0:w1.cell? ⟨g0,0,none⟩=some (.int .i64 (n:Int)):=by rw[Lib.cell_of_heap blk1];rfl
 clear blk1;go_wp2_with fail;(with_reducible refine mo (f1.out _ hB1) fun w5 hb5=>?_);have hu5:=zA hu1 hb5;have hB5:=hB1.trans (hb5.mono hB1.size);have hl5:L1.length<=L0.length+1:=hl1;have hz5w:=hB5.size;have hK5:=hK1.below hb5;obtain⟨L5,rfl⟩:∃ x,x=L1:=⟨_,rfl⟩;clear hb5 hu1 hB1 hK1 c0;go_wp2_with (at_builtin;refine Lib.wpList_append_own_string _ rfl _ _ 97 9 rfl w0.heap.size 5 i0 Tryz.underlying97 Tryz.underlying9 hi hz0 hz1 hz2 _ _ _ rfl hu5 ⟨(d).toArray⟩ rfl (by simp only[maxLen,ByteArray.size,List.size_toArray];omega) (by simp only[ByteArray.size,List.size_toArray];omega) (by omega) ?_);intro u6 w6 hx6 hg6 _;obtain⟨L6,hL6⟩:∃ y0,y0=L5++d:=⟨_,rfl⟩;have hl6:L6.length<=L5.length+(d).length:=by rw[hL6];simp
 have hu6:w6.ownsRow w0.heap.size 5 1 u6 L6.length (L6.map bv):=by rw[hL6,List.map_append,lA];exact hx6
 have hB6:=yJ hB5 hu5 hg6;have hK6:=yF hK5 hu5 hg6;have hz6w:=hB6.size;have HL6:=Ld hL6;clear hx6 hg6 hL6 hu5 hB5 hK5;go_wp2_with (at_builtin;refine wpList_append_own _ rfl _ _ 97 rfl w0.heap.size 5 i0 _ 1 1 Tryz.underlying97 hi hz0 hz1 hz2 rfl (by decide) _ _ _ rfl (hu6.alloc _) ⟨w6.heap.size,0,none⟩ 1 1 [.int .u8 46] rfl rfl (yI _ _ _) (by simp[Value.oneCell']) (by simp only[maxLen];omega) (by omega) (by simp;omega) ?_);intro u7 w7 hx7 hg7 _;obtain⟨L7,hL7⟩:∃ y0,y0=L6++[(46:UInt8)]:=⟨_,rfl⟩;have hl7:L7.length<=L6.length+1:=by rw[hL7];simp
 have hu7:w7.ownsRow w0.heap.size 5 1 u7 L7.length (L7.map bv):=by rw[hL7];simpa [bv] using hx7
 have hB7:=yJ (hB6.alloc hB6.size _) (hu6.alloc _) hg7;have hK7:=yF (hK6.alloc _) (hu6.alloc _) hg7;have hz7w:=hB7.size;have HL7:=Ld hL7;clear hx7 hg7 hL7 hu6 hB6 hK6;have HF:Hid (out=L7):=by rw[Hid,HL.out,HL7.out,HL6.out,HL1.out]
 clear HL HL1 HL6 HL7;go_wp2;go_ret;rw[HF.out];exact⟨_,rfl,hu7,hB7,hK7⟩
theorem xB7(s:List UInt8){w0 W:World}{g0:Nat}(hg:w0.heap[g0]?=some (.cells #[.string ⟨s.toArray⟩] 123 (0,0))){u:Value}{l:List UInt8}(hb:Below w0.heap.size w0 W)
  (hu:W.ownsRow w0.heap.size 5 1 u l.length (l.map bv)) (hl:l.length+(Tm.sort s).bytes.length<=100000000) :
  Calls Tryz.prog 318 #[.pointer (some ⟨g0,0,none⟩),u] W (nK w0 W (l++(Tm.sort s).bytes)):=by
 obtain⟨i0,hi,hz0,hz1,hz2⟩:=info_parts rE;have HL:Hid (l++(Tm.sort s).bytes=l++[115]++s++[46]):=by simp[Hid,Tm.bytes]
 have hlen:l.length+s.length+2<=100000000:=by
  have:(Tm.sort s).bytes.length=s.length+2:=(by simp[Tm.bytes]);omega
 generalize l++(Tm.sort s).bytes=out at HL;have hB0:=hb;have hz0w:=hb.size;have hK0:=xV.refl W;have hu0:=hu;have blk0:=yQ hg hb;clear hl hb hu hg;obtain⟨L0,rfl⟩:∃ x,x=l:=⟨_,rfl⟩;go_enter Tryz.func318,Tryz.ntmps318;go_wp2_with (at_builtin;refine wpList_append_own _ rfl _ _ 97 rfl w0.heap.size 5 i0 _ 1 1 Tryz.underlying97 hi hz0 hz1 hz2 rfl (by decide) _ _ _ rfl (hu0.alloc _) ⟨W.heap.size,0,none⟩ 1 1 [.int .u8 115] rfl rfl (yI _ _ _) (by simp[Value.oneCell']) (by simp only[maxLen];omega) (by omega) (by simp;omega) ?_);intro u1 w1 hx1 hg1 _;obtain⟨L1,hL1⟩:∃ y0,y0=L0++[(115:UInt8)]:=⟨_,rfl⟩;have hl1:L1.length<=L0.length+1:=by rw[hL1];simp
 have hu1:w1.ownsRow w0.heap.size 5 1 u1 L1.length (L1.map bv):=by rw[hL1];simpa [bv] using hx1
 have hB1:=yJ (hB0.alloc hB0.size _) (hu0.alloc _) hg1;have hK1:=yF (hK0.alloc _) (hu0.alloc _) hg1;have blkx:=qP (o':=.cells #[.int .u8 115] 5) blk0;have blk1:=tI hg1 blkx (jF (hu0.alloc _) blkx (by decide));have blky:=trivial;clear blkx blky;have hz1w:=hB1.size;have HL1:=Ld hL1;clear hx1 hg1 hL1 hu0 hB0 hK0 blk0;have c0:w1.cell? ⟨g0,0,none⟩=some (.string ⟨s.toArray⟩):=by rw[Lib.cell_of_heap blk1];rfl
 go_wp2_with (at_builtin;refine Lib.wpList_append_own_string _ rfl _ _ 97 9 rfl w0.heap.size 5 i0 Tryz.underlying97 Tryz.underlying9 hi hz0 hz1 hz2 _ _ _ rfl hu1 ⟨(s).toArray⟩ rfl (by simp only[maxLen,ByteArray.size,List.size_toArray];omega) (by simp only[ByteArray.size,List.size_toArray];omega) (by omega) ?_);intro u2 w2 hx2 hg2 _;obtain⟨L2,hL2⟩:∃ y0,y0=L1++s:=⟨_,rfl⟩;have hl2:L2.length<=L1.length+(s).length:=by rw[hL2];simp
 have hu2:w2.ownsRow w0.heap.size 5 1 u2 L2.length (L2.map bv):=by rw[hL2,List.map_append,lA];exact hx2
 have hB2:=yJ hB1 hu1 hg2;have hK2:=yF hK1 hu1 hg2;have blk2:=tI hg2 blk1 (jF hu1 blk1 (by decide));have hz2w:=hB2.size;have HL2:=Ld hL2;clear hx2 hg2 hL2 hu1 hB1 hK1 blk1;go_wp2_with (at_builtin;refine wpList_append_own _ rfl _ _ 97 rfl w0.heap.size 5 i0 _ 1 1 Tryz.underlying97 hi hz0 hz1 hz2 rfl (by decide) _ _ _ rfl (hu2.alloc _) ⟨w2.heap.size,0,none⟩ 1 1 [.int .u8 46] rfl rfl (yI _ _ _) (by simp[Value.oneCell']) (by simp only[maxLen];omega) (by omega) (by simp;omega) ?_);intro u3 w3 hx3 hg3 _;obtain⟨L3,hL3⟩:∃ y0,y0=L2++[(46:UInt8)]:=⟨_,rfl⟩;have hl3:L3.length<=L2.length+1:=by rw[hL3];simp
 have hu3:w3.ownsRow w0.heap.size 5 1 u3 L3.length (L3.map bv):=by rw[hL3];simpa [bv] using hx3
 have hB3:=yJ (hB2.alloc hB2.size _) (hu2.alloc _) hg3;have hK3:=yF (hK2.alloc _) (hu2.alloc _) hg3;have blkx:=qP (o':=.cells #[.int .u8 46] 5) blk2;have blk3:=tI hg3 blkx (jF (hu2.alloc _) blkx (by decide));have blky:=trivial;clear blkx blky;have hz3w:=hB3.size;have HL3:=Ld hL3;clear hx3 hg3 hL3 hu2 hB2 hK2 blk2;have HF:Hid (out=L3):=by rw[Hid,HL.out,HL3.out,HL2.out,HL1.out]
 clear HL HL1 HL2 HL3 blk3 c0;go_wp2;go_ret;rw[HF.out];exact⟨_,rfl,hu3,hB3,hK3⟩
def xJ5 (ts:List Tm):List UInt8:=(ts.map Tm.bytes).flatten
theorem dP(a b:List Tm):xJ5 (a++b)=xJ5 a++xJ5 b:=by
 unfold xJ5;rw[List.map_append,List.flatten_append]
theorem yU4{ts:List Tm}{k:Nat}(h:k<ts.length):xJ5 (ts.take (k+1))=xJ5 (ts.take k)++ts[k].bytes:=by
 rw[List.take_succ_eq_append_getElem h,dP];simp[xJ5]
theorem zP5(ts:List Tm)(k:Nat):(xJ5 (ts.take k)).length<=(xJ5 ts).length:=by
 have h:=congrArg List.length (dP (ts.take k) (ts.drop k));rw[List.take_append_drop,lA] at h;omega
def mC (w0:World) (t:Tm) (v:Value):Prop :=
 ∃ T x fn,v=.iface T x/\lM T fn/\∀ (W:World) (u:Value) (l:List UInt8),Below w0.heap.size w0 W->W.ownsRow w0.heap.size 5 1 u l.length (l.map bv)->l.length+t.bytes.length<=100000000 ->
  Calls Tryz.prog fn #[x,u] W (nK w0 W (l++t.bytes))
theorem jT{w0:World}{ts:List Tm}{vs:List Value}(hn:vs.length=ts.length)(hn3:ts.length<=3)(hall:∀ k (h:k<ts.length) (h2:k<vs.length),mC w0 ts[k] vs[k]){W:World}{b:Nat}{s u:Value}{l:List UInt8}
  (hb:Below w0.heap.size w0 W) (hs:W.ownsRow b 115 1 s vs.length vs) (hu:W.ownsRow w0.heap.size 5 1 u l.length (l.map bv)) (hl:l.length+(xJ5 ts).length<=100000000) :
  Calls Tryz.prog 326 #[u,s] W (nK w0 W (l++xJ5 ts)):=by
 obtain⟨sa,sc,rfl⟩:=zP hs;have HS:=Ld hs;have HU:=Ld hu;have HB:=Ld hb;have HA:=Ld hall;have hn1:vs.length<=ts.length:=by omega
 have hn2:ts.length<=vs.length:=by omega
 clear hs hu hb hall hn;go_enter Tryz.func326,Tryz.ntmps326;go_wp2;go_loopw [0,9] (fun v i wr=>∃ (k:Nat) (L:List UInt8),k<=vs.length/\i=.int .i64 k/\Hid (L=l++xJ5 (ts.take k))/\wr.ownsRow w0.heap.size 5 1 v L.length (L.map bv)/\Below w0.heap.size w0 wr/\xV W wr) (fun _ i _=>vs.length - (intOf i).toNat)
 case atStart=>exact⟨0,l,Nat.zero_le _,rfl,by simp[xJ5,Hid],HU.out,HB.out,xV.refl _⟩
 case round =>
  obtain⟨k,L,hk,rfl,HL,hur,hbr,hkr⟩:=hrel;by_cases hlt:k<vs.length
  ·have hr:=hkr.row HS.out (by decide);obtain⟨g,cap',e0,_,hgl⟩:=hr.form (by omega);cases e0;have ex:vs[k]?=some vs[k]:=(by simp[hlt]);have cc:=(hr.cellAt k (by omega)).trans ex;have hle:=zP5 ts (k+1);have htk:=yU4 (ts:=ts) (k:=k) (by omega);have hLL:L.length=l.length+(xJ5 (ts.take k)).length:=(by rw[HL.out,lA]);have htl:=congrArg List.length htk;rw[lA] at htl;obtain⟨T,x,fn,hv,⟨m1,m2⟩,hc⟩:=HA.out k (by omega) hlt;rw[hv] at cc;have f1:=Ld (hc wr _ L hbr hur (by omega));have HN:Hid (L++ts[k].bytes=l++xJ5 (ts.take (k+1))):=(by rw[Hid,HL.out,htk,List.append_assoc]);generalize L++ts[k].bytes=L2 at f1 HN;have HK:=Ld hkr;have q1:=zn k;have q2:(k:Int)<(vs.length:Int):=(by omega);clear ex hr hc hv htk HL hur hbr hkr hle htl hLL;go_wp2_with fail;(with_reducible refine f1.out.mono ?_);rintro e w2 ⟨u2,rfl,hu2,hb2,hk2⟩;have HU2:=Ld hu2;have HB2:=Ld hb2;have HK2:=Ld (HK.out.trans hk2);clear hu2 hb2 hk2 f1 HK;go_wp2;go_roundw
   case rel =>
    exact⟨k+1,L2,by omega,by go_num,HN.out,HU2.out,HB2.out,HK2.out⟩
   case measure=>simp[intOf];omega
  ·have HE:Hid (l++xJ5 ts=L):=(by rw[Hid,HL.out,List.take_of_length_le (by omega)]);have HUR:=Ld hur;have HBR:=Ld hbr;have HKR:=Ld hkr;have d1:decide ((k:Int)<(vs.length:Int))=false:=dF (by omega);clear hur hbr hkr HL;go_wp2;go_ret;rw[HE.out];exact⟨_,rfl,HUR.out,HBR.out,HKR.out⟩
theorem zP4(a b:Tm):xJ5 [a,b]=a.bytes++b.bytes:=by simp[xJ5]
theorem yK4(a b c:Tm):xJ5 [a,b,c]=a.bytes++(b.bytes++c.bytes):=by simp[xJ5]
theorem yA5(a b:Tm):[a,b].length<=3:=by simp
theorem yN5(a b c:Tm):[a,b,c].length<=3:=by simp
theorem xV.drew{W w:World}(h:xV W w):xV W w.drew:=h
theorem xG3{w0 W:World}{g0:Nat}{t0 t1:Tm}{T0 T1:TypeId}{x0 x1:Value}{u:Value}{l:List UInt8}
  (hg:w0.heap[g0]?=some (.cells #[.iface T0 x0,.iface T1 x1] 214 (0,0))) (qa0:mC w0 t0 (.iface T0 x0)) (qa1:mC w0 t1 (.iface T1 x1)) (hb:Below w0.heap.size w0 W) (hu:W.ownsRow w0.heap.size 5 1 u l.length (l.map bv)) (hl:l.length+((xJ5 [t0,t1]).length+1)<=100000000) :
  Calls Tryz.prog 324 #[.pointer (some ⟨g0,0,none⟩),u] W (nK w0 W (l++64::xJ5 [t0,t1])):=by
 obtain⟨i0,hi,hz0,hz1,hz2⟩:=info_parts rE;have HL:Hid (l++64::xJ5 [t0,t1]=(l++[64])++xJ5 [t0,t1]):=by simp[Hid]
 have HA:∀ k (h:k<[t0,t1].length) (h2:k<([.iface T0 x0,.iface T1 x1]:List Value).length),mC w0 [t0,t1][k] ([.iface T0 x0,.iface T1 x1]:List Value)[k]:=fun k h h2=>by
  match k,h,h2 with
 |0,_,_=>exact qa0
 |1,_,_=>exact qa1
 |k+2,h,_=>exact absurd h (by simp only[lC,List.length_nil];omega)
 have f1:=Ld fun (Wc:World) (b:Nat) (s u2:Value) (hbc:Below w0.heap.size w0 Wc) (hs:Wc.ownsRow b 115 1 s 2 [.iface T0 x0,.iface T1 x1]) (hu2:Wc.ownsRow w0.heap.size 5 1 u2 (l.length+1) (l.map bv++[.int .u8 64])) =>
  jT (w0:=w0) (ts:=[t0,t1]) (vs:=[.iface T0 x0,.iface T1 x1]) (l:=l++[64]) rfl (yA5 t0 t1) HA hbc hs (by simpa [bv] using hu2) (by simp;omega)
 rw[HL.out];generalize (l++[64])++xJ5 [t0,t1]=out at f1;have hB0:=hb;have hK0:=xV.refl W;have hu0:=hu;have blk0:=yQ hg hb;clear qa0 qa1 hb hu HL HA hg;go_enter Tryz.func324,Tryz.ntmps324;go_wp2_with fail;refine wp_region_held_drew (S:=fun w'=>xV W w') (by kernel_rfl) (xV.refl W).drew (fun hS0=>?_);have hB1:Below w0.heap.size w0 W.drew:=hB0.drew;have hu1:=tR hu0 1;have hu1:W.drew.ownsRow w0.heap.size 5 1 u l.length (l.map bv):=hu0;generalize W.drew=w1 at hS0 hB1 hu1 |-;clear hB0 hu0;refine qT 0 5 (u) hS0 (fun wz hSW=>?_) ?_
 ·skip;(try go_simp)<;>(try omega)
 refine qT 3 8 (.pointer (some ⟨g0,0,none⟩)) hS0 (fun wz hSW=>?_) ?_
 ·skip;(try go_simp)<;>(try omega)
 refine qT 4 9 (.pointer (some ⟨g0,0,none⟩)) hS0 (fun wz hSW=>?_) ?_
 ·skip;(try go_simp)<;>(try omega)
 refine qT 5 10 (.pointer (some ⟨g0,0,none⟩)) hS0 (fun wz hSW=>?_) ?_
 ·skip;(try go_simp)<;>(try omega)
 refine qT 6 11 (.iface T0 x0) hS0 (fun wz hSW=>?_) ?_
 ·have y0:wz.cell? ⟨g0,0,none⟩=some (.iface T0 x0):=(by rw[Lib.cell_of_heap (hSW _ _ _ _ (by decide) blk0)];rfl);(try go_simp)<;>(try omega)
 refine qT 7 12 (.pointer (some ⟨g0,0,none⟩)) hS0 (fun wz hSW=>?_) ?_
 ·skip;(try go_simp)<;>(try omega)
 refine qT 8 13 (.pointer (some ⟨g0,0,none⟩)) hS0 (fun wz hSW=>?_) ?_
 ·skip;(try go_simp)<;>(try omega)
 refine qT 9 14 (.pointer (some ⟨g0,1,none⟩)) hS0 (fun wz hSW=>?_) ?_
 ·skip;(try go_simp)<;>(try omega)
 refine qT 10 15 (.iface T1 x1) hS0 (fun wz hSW=>?_) ?_
 ·have y1:wz.cell? ⟨g0,1,none⟩=some (.iface T1 x1):=(by rw[Lib.cell_of_heap (hSW _ _ _ _ (by decide) blk0)];rfl);(try go_simp)<;>(try omega)
 try simp only[Act.put,eA,eB,eC]
 refine wpAnyH_ready (rs:=[1,11]) (by kernel_rfl) (by simp) (AllReadyH.cons rfl (fun K hK=>?_) (AllReadyH.cons rfl (fun K hK=>?_) AllReadyH.nil))
 ·rw[iP (by rfl)];go_simp;refine hK.out _ _ (hS0.alloc _) (fun hSwy1=>?_);clear hK K;have hBwy1:=hB1.alloc hB1.size (.cells #[.int .u8 64] 5);have huwy1:=hu1.alloc (.cells #[.int .u8 64] 5);have rb:=World.ownsRow_lit (base:=0) (e:=5) (size:=1) w1 #[.int .u8 64] 1 (Nat.zero_le _) (by decide) (by simp);obtain⟨gb,hgb⟩:∃ gb,w1.heap.size=gb:=⟨_,rfl⟩;rw[hgb] at rb |-;generalize w1.alloc (.cells #[.int .u8 64] 5)=wy1 at rb hSwy1 hBwy1 huwy1 |-
  try simp only[Act.put,eA,eB,eC]
  refine wpAnyH_ready (rs:=[2,11]) (by kernel_rfl) (by simp) (AllReadyH.cons rfl (fun K hK=>?_) (AllReadyH.cons rfl (fun K hK=>?_) AllReadyH.nil))
  ·rw[iP (by rfl)];refine wp_append_own _ _ _ 97 rfl w0.heap.size 5 i0 _ 1 1 Tryz.underlying97 hi hz0 hz1 hz2 rfl (by decide) u l.length (l.map bv) rfl huwy1 ⟨gb,0,none⟩ 1 1 [.int .u8 64] rfl rfl (rb.cells rfl) (by simp[Value.oneCell']) (by unfold maxLen;omega) (by omega) hBwy1.size ?_;intro u2 wy2 hnwy2 hgwy2 _;change K (Act.put _ (some 7) u2) wy2;have hBwy2:=yJ hBwy1 huwy1 hgwy2;have hKwy2:=yF hSwy1 huwy1 hgwy2;refine hK.out _ _ hKwy2 (fun _=>?_);clear hK K hgwy2
   try dsimp only
   try simp only[Act.put,eA,eB,eC]
   refine qR 11 fun K hK=>?_;go_simp;refine hK.out _ _ (hKwy2.alloc _) (fun hSwy3=>?_);clear hK K;have hBwy3:=hBwy2.alloc hBwy2.size (.cells #[.iface T0 x0,.iface T1 x1] 115);have hswy3:=World.ownsRow_lit (base:=0) (e:=115) (size:=1) wy2 #[.iface T0 x0,.iface T1 x1] 2 (Nat.zero_le _) (by decide) (by simp);have hnwy3:=hnwy2.alloc (.cells #[.iface T0 x0,.iface T1 x1] 115);obtain⟨gt,hgt⟩:∃ gt,wy2.heap.size=gt:=⟨_,rfl⟩;rw[hgt] at hswy3 |-;generalize wy2.alloc (.cells #[.iface T0 x0,.iface T1 x1] 115)=wy3 at hswy3 hSwy3 hBwy3 hnwy3 |-
   try simp only[Act.put,eA,eB,eC]
   refine qR 12 fun K hK=>?_;go_simp;(with_reducible refine(f1.out _ _ _ _ hBwy3 hswy3 hnwy3).mono ?_);rintro e w3 ⟨u3,rfl,hu3,hb3,hk3⟩;refine hK.out _ _ (hSwy3.trans hk3) (fun hS3=>?_);have hKK:=(hSwy3).trans hk3;clear hK K;refine qT 13 4 (u3) hS3 (fun wz hSW=>?_) ?_
   ·skip;(try go_simp)<;>(try omega)
   try simp only[Act.put,eA,eB,eC]
   refine wpAnyH_done (by kernel_rfl) ?_ _;go_wp2;go_ret;exact⟨_,rfl,hu3,hb3,hK0.trans hKK⟩
  ·rw[iP (by rfl)];go_simp;refine hK.out _ _ (hSwy1.alloc _) (fun hSwy4=>?_);clear hK K;have hBwy4:=hBwy1.alloc hBwy1.size (.cells #[.iface T0 x0,.iface T1 x1] 115);have hswy4:=World.ownsRow_lit (base:=0) (e:=115) (size:=1) wy1 #[.iface T0 x0,.iface T1 x1] 2 (Nat.zero_le _) (by decide) (by simp);have huwy4:=huwy1.alloc (.cells #[.iface T0 x0,.iface T1 x1] 115);have rbwy4:=rb.alloc (.cells #[.iface T0 x0,.iface T1 x1] 115);obtain⟨gt,hgt⟩:∃ gt,wy1.heap.size=gt:=⟨_,rfl⟩;rw[hgt] at hswy4 |-;generalize wy1.alloc (.cells #[.iface T0 x0,.iface T1 x1] 115)=wy4 at hswy4 hSwy4 hBwy4 huwy4 rbwy4 |-
   try simp only[Act.put,eA,eB,eC]
   refine qR 2 fun K hK=>?_;refine wp_append_own _ _ _ 97 rfl w0.heap.size 5 i0 _ 1 1 Tryz.underlying97 hi hz0 hz1 hz2 rfl (by decide) u l.length (l.map bv) rfl huwy4 ⟨gb,0,none⟩ 1 1 [.int .u8 64] rfl rfl (rbwy4.cells rfl) (by simp[Value.oneCell']) (by unfold maxLen;omega) (by omega) hBwy4.size ?_;intro u2 wy5 hnwy5 hgwy5 _;change K (Act.put _ (some 7) u2) wy5;have hBwy5:=yJ hBwy4 huwy4 hgwy5;have hKwy5:=yF hSwy4 huwy4 hgwy5;have hswy5:=(yF (xV.refl _) huwy4 hgwy5).row hswy4 (by decide);refine hK.out _ _ hKwy5 (fun _=>?_);clear hK K hgwy5
   try dsimp only
   try simp only[Act.put,eA,eB,eC]
   refine qR 12 fun K hK=>?_;go_simp;(with_reducible refine(f1.out _ _ _ _ hBwy5 hswy5 hnwy5).mono ?_);rintro e w3 ⟨u3,rfl,hu3,hb3,hk3⟩;refine hK.out _ _ (hKwy5.trans hk3) (fun hS3=>?_);have hKK:=(hKwy5).trans hk3;clear hK K;refine qT 13 4 (u3) hS3 (fun wz hSW=>?_) ?_
   ·skip;(try go_simp)<;>(try omega)
   try simp only[Act.put,eA,eB,eC]
   refine wpAnyH_done (by kernel_rfl) ?_ _;go_wp2;go_ret;exact⟨_,rfl,hu3,hb3,hK0.trans hKK⟩
 ·rw[iP (by rfl)];go_simp;refine hK.out _ _ (hS0.alloc _) (fun hSwy6=>?_);clear hK K;have hBwy6:=hB1.alloc hB1.size (.cells #[.iface T0 x0,.iface T1 x1] 115);have hswy6:=World.ownsRow_lit (base:=0) (e:=115) (size:=1) w1 #[.iface T0 x0,.iface T1 x1] 2 (Nat.zero_le _) (by decide) (by simp);have huwy6:=hu1.alloc (.cells #[.iface T0 x0,.iface T1 x1] 115);obtain⟨gt,hgt⟩:∃ gt,w1.heap.size=gt:=⟨_,rfl⟩;rw[hgt] at hswy6 |-;generalize w1.alloc (.cells #[.iface T0 x0,.iface T1 x1] 115)=wy6 at hswy6 hSwy6 hBwy6 huwy6 |-
  try simp only[Act.put,eA,eB,eC]
  refine qR 1 fun K hK=>?_;go_simp;refine hK.out _ _ (hSwy6.alloc _) (fun hSwy7=>?_);clear hK K;have hBwy7:=hBwy6.alloc hBwy6.size (.cells #[.int .u8 64] 5);have huwy7:=huwy6.alloc (.cells #[.int .u8 64] 5);have rb:=World.ownsRow_lit (base:=0) (e:=5) (size:=1) wy6 #[.int .u8 64] 1 (Nat.zero_le _) (by decide) (by simp);have hswy7:=hswy6.alloc (.cells #[.int .u8 64] 5);obtain⟨gb,hgb⟩:∃ gb,wy6.heap.size=gb:=⟨_,rfl⟩;rw[hgb] at rb |-;generalize wy6.alloc (.cells #[.int .u8 64] 5)=wy7 at rb hSwy7 hBwy7 huwy7 hswy7 |-
  try simp only[Act.put,eA,eB,eC]
  refine qR 2 fun K hK=>?_;refine wp_append_own _ _ _ 97 rfl w0.heap.size 5 i0 _ 1 1 Tryz.underlying97 hi hz0 hz1 hz2 rfl (by decide) u l.length (l.map bv) rfl huwy7 ⟨gb,0,none⟩ 1 1 [.int .u8 64] rfl rfl (rb.cells rfl) (by simp[Value.oneCell']) (by unfold maxLen;omega) (by omega) hBwy7.size ?_;intro u2 wy8 hnwy8 hgwy8 _;change K (Act.put _ (some 7) u2) wy8;have hBwy8:=yJ hBwy7 huwy7 hgwy8;have hKwy8:=yF hSwy7 huwy7 hgwy8;have hswy8:=(yF (xV.refl _) huwy7 hgwy8).row hswy7 (by decide);refine hK.out _ _ hKwy8 (fun _=>?_);clear hK K hgwy8
  try dsimp only
  try simp only[Act.put,eA,eB,eC]
  refine qR 12 fun K hK=>?_;go_simp;(with_reducible refine(f1.out _ _ _ _ hBwy8 hswy8 hnwy8).mono ?_);rintro e w3 ⟨u3,rfl,hu3,hb3,hk3⟩;refine hK.out _ _ (hKwy8.trans hk3) (fun hS3=>?_);have hKK:=(hKwy8).trans hk3;clear hK K;refine qT 13 4 (u3) hS3 (fun wz hSW=>?_) ?_
  ·skip;(try go_simp)<;>(try omega)
  try simp only[Act.put,eA,eB,eC]
  refine wpAnyH_done (by kernel_rfl) ?_ _;go_wp2;go_ret;exact⟨_,rfl,hu3,hb3,hK0.trans hKK⟩
theorem xG2{w0 W:World}{g0:Nat}{t0 t1:Tm}{T0 T1:TypeId}{x0 x1:Value}{u:Value}{l:List UInt8}
  (hg:w0.heap[g0]?=some (.cells #[.iface T0 x0,.iface T1 x1] 217 (0,0))) (qa0:mC w0 t0 (.iface T0 x0)) (qa1:mC w0 t1 (.iface T1 x1)) (hb:Below w0.heap.size w0 W) (hu:W.ownsRow w0.heap.size 5 1 u l.length (l.map bv)) (hl:l.length+((xJ5 [t0,t1]).length+1)<=100000000) :
  Calls Tryz.prog 327 #[.pointer (some ⟨g0,0,none⟩),u] W (nK w0 W (l++108::xJ5 [t0,t1])):=by
 obtain⟨i0,hi,hz0,hz1,hz2⟩:=info_parts rE;have HL:Hid (l++108::xJ5 [t0,t1]=(l++[108])++xJ5 [t0,t1]):=by simp[Hid]
 have HA:∀ k (h:k<[t0,t1].length) (h2:k<([.iface T0 x0,.iface T1 x1]:List Value).length),mC w0 [t0,t1][k] ([.iface T0 x0,.iface T1 x1]:List Value)[k]:=fun k h h2=>by
  match k,h,h2 with
 |0,_,_=>exact qa0
 |1,_,_=>exact qa1
 |k+2,h,_=>exact absurd h (by simp only[lC,List.length_nil];omega)
 have f1:=Ld fun (Wc:World) (b:Nat) (s u2:Value) (hbc:Below w0.heap.size w0 Wc) (hs:Wc.ownsRow b 115 1 s 2 [.iface T0 x0,.iface T1 x1]) (hu2:Wc.ownsRow w0.heap.size 5 1 u2 (l.length+1) (l.map bv++[.int .u8 108])) =>
  jT (w0:=w0) (ts:=[t0,t1]) (vs:=[.iface T0 x0,.iface T1 x1]) (l:=l++[108]) rfl (yA5 t0 t1) HA hbc hs (by simpa [bv] using hu2) (by simp;omega)
 rw[HL.out];generalize (l++[108])++xJ5 [t0,t1]=out at f1;have hB0:=hb;have hK0:=xV.refl W;have hu0:=hu;have blk0:=yQ hg hb;clear qa0 qa1 hb hu HL HA hg;go_enter Tryz.func327,Tryz.ntmps327;go_wp2_with fail;refine wp_region_held_drew (S:=fun w'=>xV W w') (by kernel_rfl) (xV.refl W).drew (fun hS0=>?_);have hB1:Below w0.heap.size w0 W.drew:=hB0.drew;have hu1:=tR hu0 1;have hu1:W.drew.ownsRow w0.heap.size 5 1 u l.length (l.map bv):=hu0;generalize W.drew=w1 at hS0 hB1 hu1 |-;clear hB0 hu0;refine qT 0 5 (u) hS0 (fun wz hSW=>?_) ?_
 ·skip;(try go_simp)<;>(try omega)
 refine qT 3 8 (.pointer (some ⟨g0,0,none⟩)) hS0 (fun wz hSW=>?_) ?_
 ·skip;(try go_simp)<;>(try omega)
 refine qT 4 9 (.pointer (some ⟨g0,0,none⟩)) hS0 (fun wz hSW=>?_) ?_
 ·skip;(try go_simp)<;>(try omega)
 refine qT 5 10 (.pointer (some ⟨g0,0,none⟩)) hS0 (fun wz hSW=>?_) ?_
 ·skip;(try go_simp)<;>(try omega)
 refine qT 6 11 (.iface T0 x0) hS0 (fun wz hSW=>?_) ?_
 ·have y0:wz.cell? ⟨g0,0,none⟩=some (.iface T0 x0):=(by rw[Lib.cell_of_heap (hSW _ _ _ _ (by decide) blk0)];rfl);(try go_simp)<;>(try omega)
 refine qT 7 12 (.pointer (some ⟨g0,0,none⟩)) hS0 (fun wz hSW=>?_) ?_
 ·skip;(try go_simp)<;>(try omega)
 refine qT 8 13 (.pointer (some ⟨g0,0,none⟩)) hS0 (fun wz hSW=>?_) ?_
 ·skip;(try go_simp)<;>(try omega)
 refine qT 9 14 (.pointer (some ⟨g0,1,none⟩)) hS0 (fun wz hSW=>?_) ?_
 ·skip;(try go_simp)<;>(try omega)
 refine qT 10 15 (.iface T1 x1) hS0 (fun wz hSW=>?_) ?_
 ·have y1:wz.cell? ⟨g0,1,none⟩=some (.iface T1 x1):=(by rw[Lib.cell_of_heap (hSW _ _ _ _ (by decide) blk0)];rfl);(try go_simp)<;>(try omega)
 try simp only[Act.put,eA,eB,eC]
 refine wpAnyH_ready (rs:=[1,11]) (by kernel_rfl) (by simp) (AllReadyH.cons rfl (fun K hK=>?_) (AllReadyH.cons rfl (fun K hK=>?_) AllReadyH.nil))
 ·rw[iP (by rfl)];go_simp;refine hK.out _ _ (hS0.alloc _) (fun hSwy1=>?_);clear hK K;have hBwy1:=hB1.alloc hB1.size (.cells #[.int .u8 108] 5);have huwy1:=hu1.alloc (.cells #[.int .u8 108] 5);have rb:=World.ownsRow_lit (base:=0) (e:=5) (size:=1) w1 #[.int .u8 108] 1 (Nat.zero_le _) (by decide) (by simp);obtain⟨gb,hgb⟩:∃ gb,w1.heap.size=gb:=⟨_,rfl⟩;rw[hgb] at rb |-;generalize w1.alloc (.cells #[.int .u8 108] 5)=wy1 at rb hSwy1 hBwy1 huwy1 |-
  try simp only[Act.put,eA,eB,eC]
  refine wpAnyH_ready (rs:=[2,11]) (by kernel_rfl) (by simp) (AllReadyH.cons rfl (fun K hK=>?_) (AllReadyH.cons rfl (fun K hK=>?_) AllReadyH.nil))
  ·rw[iP (by rfl)];refine wp_append_own _ _ _ 97 rfl w0.heap.size 5 i0 _ 1 1 Tryz.underlying97 hi hz0 hz1 hz2 rfl (by decide) u l.length (l.map bv) rfl huwy1 ⟨gb,0,none⟩ 1 1 [.int .u8 108] rfl rfl (rb.cells rfl) (by simp[Value.oneCell']) (by unfold maxLen;omega) (by omega) hBwy1.size ?_;intro u2 wy2 hnwy2 hgwy2 _;change K (Act.put _ (some 7) u2) wy2;have hBwy2:=yJ hBwy1 huwy1 hgwy2;have hKwy2:=yF hSwy1 huwy1 hgwy2;refine hK.out _ _ hKwy2 (fun _=>?_);clear hK K hgwy2
   try dsimp only
   try simp only[Act.put,eA,eB,eC]
   refine qR 11 fun K hK=>?_;go_simp;refine hK.out _ _ (hKwy2.alloc _) (fun hSwy3=>?_);clear hK K;have hBwy3:=hBwy2.alloc hBwy2.size (.cells #[.iface T0 x0,.iface T1 x1] 115);have hswy3:=World.ownsRow_lit (base:=0) (e:=115) (size:=1) wy2 #[.iface T0 x0,.iface T1 x1] 2 (Nat.zero_le _) (by decide) (by simp);have hnwy3:=hnwy2.alloc (.cells #[.iface T0 x0,.iface T1 x1] 115);obtain⟨gt,hgt⟩:∃ gt,wy2.heap.size=gt:=⟨_,rfl⟩;rw[hgt] at hswy3 |-;generalize wy2.alloc (.cells #[.iface T0 x0,.iface T1 x1] 115)=wy3 at hswy3 hSwy3 hBwy3 hnwy3 |-
   try simp only[Act.put,eA,eB,eC]
   refine qR 12 fun K hK=>?_;go_simp;(with_reducible refine(f1.out _ _ _ _ hBwy3 hswy3 hnwy3).mono ?_);rintro e w3 ⟨u3,rfl,hu3,hb3,hk3⟩;refine hK.out _ _ (hSwy3.trans hk3) (fun hS3=>?_);have hKK:=(hSwy3).trans hk3;clear hK K;refine qT 13 4 (u3) hS3 (fun wz hSW=>?_) ?_
   ·skip;(try go_simp)<;>(try omega)
   try simp only[Act.put,eA,eB,eC]
   refine wpAnyH_done (by kernel_rfl) ?_ _;go_wp2;go_ret;exact⟨_,rfl,hu3,hb3,hK0.trans hKK⟩
  ·rw[iP (by rfl)];go_simp;refine hK.out _ _ (hSwy1.alloc _) (fun hSwy4=>?_);clear hK K;have hBwy4:=hBwy1.alloc hBwy1.size (.cells #[.iface T0 x0,.iface T1 x1] 115);have hswy4:=World.ownsRow_lit (base:=0) (e:=115) (size:=1) wy1 #[.iface T0 x0,.iface T1 x1] 2 (Nat.zero_le _) (by decide) (by simp);have huwy4:=huwy1.alloc (.cells #[.iface T0 x0,.iface T1 x1] 115);have rbwy4:=rb.alloc (.cells #[.iface T0 x0,.iface T1 x1] 115);obtain⟨gt,hgt⟩:∃ gt,wy1.heap.size=gt:=⟨_,rfl⟩;rw[hgt] at hswy4 |-;generalize wy1.alloc (.cells #[.iface T0 x0,.iface T1 x1] 115)=wy4 at hswy4 hSwy4 hBwy4 huwy4 rbwy4 |-
   try simp only[Act.put,eA,eB,eC]
   refine qR 2 fun K hK=>?_;refine wp_append_own _ _ _ 97 rfl w0.heap.size 5 i0 _ 1 1 Tryz.underlying97 hi hz0 hz1 hz2 rfl (by decide) u l.length (l.map bv) rfl huwy4 ⟨gb,0,none⟩ 1 1 [.int .u8 108] rfl rfl (rbwy4.cells rfl) (by simp[Value.oneCell']) (by unfold maxLen;omega) (by omega) hBwy4.size ?_;intro u2 wy5 hnwy5 hgwy5 _;change K (Act.put _ (some 7) u2) wy5;have hBwy5:=yJ hBwy4 huwy4 hgwy5;have hKwy5:=yF hSwy4 huwy4 hgwy5;have hswy5:=(yF (xV.refl _) huwy4 hgwy5).row hswy4 (by decide);refine hK.out _ _ hKwy5 (fun _=>?_);clear hK K hgwy5
   try dsimp only
   try simp only[Act.put,eA,eB,eC]
   refine qR 12 fun K hK=>?_;go_simp;(with_reducible refine(f1.out _ _ _ _ hBwy5 hswy5 hnwy5).mono ?_);rintro e w3 ⟨u3,rfl,hu3,hb3,hk3⟩;refine hK.out _ _ (hKwy5.trans hk3) (fun hS3=>?_);have hKK:=(hKwy5).trans hk3;clear hK K;refine qT 13 4 (u3) hS3 (fun wz hSW=>?_) ?_
   ·skip;(try go_simp)<;>(try omega)
   try simp only[Act.put,eA,eB,eC]
   refine wpAnyH_done (by kernel_rfl) ?_ _;go_wp2;go_ret;exact⟨_,rfl,hu3,hb3,hK0.trans hKK⟩
 ·rw[iP (by rfl)];go_simp;refine hK.out _ _ (hS0.alloc _) (fun hSwy6=>?_);clear hK K;have hBwy6:=hB1.alloc hB1.size (.cells #[.iface T0 x0,.iface T1 x1] 115);have hswy6:=World.ownsRow_lit (base:=0) (e:=115) (size:=1) w1 #[.iface T0 x0,.iface T1 x1] 2 (Nat.zero_le _) (by decide) (by simp);have huwy6:=hu1.alloc (.cells #[.iface T0 x0,.iface T1 x1] 115);obtain⟨gt,hgt⟩:∃ gt,w1.heap.size=gt:=⟨_,rfl⟩;rw[hgt] at hswy6 |-;generalize w1.alloc (.cells #[.iface T0 x0,.iface T1 x1] 115)=wy6 at hswy6 hSwy6 hBwy6 huwy6 |-
  try simp only[Act.put,eA,eB,eC]
  refine qR 1 fun K hK=>?_;go_simp;refine hK.out _ _ (hSwy6.alloc _) (fun hSwy7=>?_);clear hK K;have hBwy7:=hBwy6.alloc hBwy6.size (.cells #[.int .u8 108] 5);have huwy7:=huwy6.alloc (.cells #[.int .u8 108] 5);have rb:=World.ownsRow_lit (base:=0) (e:=5) (size:=1) wy6 #[.int .u8 108] 1 (Nat.zero_le _) (by decide) (by simp);have hswy7:=hswy6.alloc (.cells #[.int .u8 108] 5);obtain⟨gb,hgb⟩:∃ gb,wy6.heap.size=gb:=⟨_,rfl⟩;rw[hgb] at rb |-;generalize wy6.alloc (.cells #[.int .u8 108] 5)=wy7 at rb hSwy7 hBwy7 huwy7 hswy7 |-
  try simp only[Act.put,eA,eB,eC]
  refine qR 2 fun K hK=>?_;refine wp_append_own _ _ _ 97 rfl w0.heap.size 5 i0 _ 1 1 Tryz.underlying97 hi hz0 hz1 hz2 rfl (by decide) u l.length (l.map bv) rfl huwy7 ⟨gb,0,none⟩ 1 1 [.int .u8 108] rfl rfl (rb.cells rfl) (by simp[Value.oneCell']) (by unfold maxLen;omega) (by omega) hBwy7.size ?_;intro u2 wy8 hnwy8 hgwy8 _;change K (Act.put _ (some 7) u2) wy8;have hBwy8:=yJ hBwy7 huwy7 hgwy8;have hKwy8:=yF hSwy7 huwy7 hgwy8;have hswy8:=(yF (xV.refl _) huwy7 hgwy8).row hswy7 (by decide);refine hK.out _ _ hKwy8 (fun _=>?_);clear hK K hgwy8
  try dsimp only
  try simp only[Act.put,eA,eB,eC]
  refine qR 12 fun K hK=>?_;go_simp;(with_reducible refine(f1.out _ _ _ _ hBwy8 hswy8 hnwy8).mono ?_);rintro e w3 ⟨u3,rfl,hu3,hb3,hk3⟩;refine hK.out _ _ (hKwy8.trans hk3) (fun hS3=>?_);have hKK:=(hKwy8).trans hk3;clear hK K;refine qT 13 4 (u3) hS3 (fun wz hSW=>?_) ?_
  ·skip;(try go_simp)<;>(try omega)
  try simp only[Act.put,eA,eB,eC]
  refine wpAnyH_done (by kernel_rfl) ?_ _;go_wp2;go_ret;exact⟨_,rfl,hu3,hb3,hK0.trans hKK⟩
theorem xH9{w0 W:World}{g0:Nat}{t0 t1:Tm}{T0 T1:TypeId}{x0 x1:Value}{u:Value}{l:List UInt8}
  (hg:w0.heap[g0]?=some (.cells #[.iface T0 x0,.iface T1 x1] 220 (0,0))) (qa0:mC w0 t0 (.iface T0 x0)) (qa1:mC w0 t1 (.iface T1 x1)) (hb:Below w0.heap.size w0 W) (hu:W.ownsRow w0.heap.size 5 1 u l.length (l.map bv)) (hl:l.length+((xJ5 [t0,t1]).length+1)<=100000000) :
  Calls Tryz.prog 329 #[.pointer (some ⟨g0,0,none⟩),u] W (nK w0 W (l++112::xJ5 [t0,t1])):=by
 obtain⟨i0,hi,hz0,hz1,hz2⟩:=info_parts rE;have HL:Hid (l++112::xJ5 [t0,t1]=(l++[112])++xJ5 [t0,t1]):=by simp[Hid]
 have HA:∀ k (h:k<[t0,t1].length) (h2:k<([.iface T0 x0,.iface T1 x1]:List Value).length),mC w0 [t0,t1][k] ([.iface T0 x0,.iface T1 x1]:List Value)[k]:=fun k h h2=>by
  match k,h,h2 with
 |0,_,_=>exact qa0
 |1,_,_=>exact qa1
 |k+2,h,_=>exact absurd h (by simp only[lC,List.length_nil];omega)
 have f1:=Ld fun (Wc:World) (b:Nat) (s u2:Value) (hbc:Below w0.heap.size w0 Wc) (hs:Wc.ownsRow b 115 1 s 2 [.iface T0 x0,.iface T1 x1]) (hu2:Wc.ownsRow w0.heap.size 5 1 u2 (l.length+1) (l.map bv++[.int .u8 112])) =>
  jT (w0:=w0) (ts:=[t0,t1]) (vs:=[.iface T0 x0,.iface T1 x1]) (l:=l++[112]) rfl (yA5 t0 t1) HA hbc hs (by simpa [bv] using hu2) (by simp;omega)
 rw[HL.out];generalize (l++[112])++xJ5 [t0,t1]=out at f1;have hB0:=hb;have hK0:=xV.refl W;have hu0:=hu;have blk0:=yQ hg hb;clear qa0 qa1 hb hu HL HA hg;go_enter Tryz.func329,Tryz.ntmps329;go_wp2_with fail;refine wp_region_held_drew (S:=fun w'=>xV W w') (by kernel_rfl) (xV.refl W).drew (fun hS0=>?_);have hB1:Below w0.heap.size w0 W.drew:=hB0.drew;have hu1:=tR hu0 1;have hu1:W.drew.ownsRow w0.heap.size 5 1 u l.length (l.map bv):=hu0;generalize W.drew=w1 at hS0 hB1 hu1 |-;clear hB0 hu0;refine qT 0 5 (u) hS0 (fun wz hSW=>?_) ?_
 ·skip;(try go_simp)<;>(try omega)
 refine qT 3 8 (.pointer (some ⟨g0,0,none⟩)) hS0 (fun wz hSW=>?_) ?_
 ·skip;(try go_simp)<;>(try omega)
 refine qT 4 9 (.pointer (some ⟨g0,0,none⟩)) hS0 (fun wz hSW=>?_) ?_
 ·skip;(try go_simp)<;>(try omega)
 refine qT 5 10 (.pointer (some ⟨g0,0,none⟩)) hS0 (fun wz hSW=>?_) ?_
 ·skip;(try go_simp)<;>(try omega)
 refine qT 6 11 (.iface T0 x0) hS0 (fun wz hSW=>?_) ?_
 ·have y0:wz.cell? ⟨g0,0,none⟩=some (.iface T0 x0):=(by rw[Lib.cell_of_heap (hSW _ _ _ _ (by decide) blk0)];rfl);(try go_simp)<;>(try omega)
 refine qT 7 12 (.pointer (some ⟨g0,0,none⟩)) hS0 (fun wz hSW=>?_) ?_
 ·skip;(try go_simp)<;>(try omega)
 refine qT 8 13 (.pointer (some ⟨g0,0,none⟩)) hS0 (fun wz hSW=>?_) ?_
 ·skip;(try go_simp)<;>(try omega)
 refine qT 9 14 (.pointer (some ⟨g0,1,none⟩)) hS0 (fun wz hSW=>?_) ?_
 ·skip;(try go_simp)<;>(try omega)
 refine qT 10 15 (.iface T1 x1) hS0 (fun wz hSW=>?_) ?_
 ·have y1:wz.cell? ⟨g0,1,none⟩=some (.iface T1 x1):=(by rw[Lib.cell_of_heap (hSW _ _ _ _ (by decide) blk0)];rfl);(try go_simp)<;>(try omega)
 try simp only[Act.put,eA,eB,eC]
 refine wpAnyH_ready (rs:=[1,11]) (by kernel_rfl) (by simp) (AllReadyH.cons rfl (fun K hK=>?_) (AllReadyH.cons rfl (fun K hK=>?_) AllReadyH.nil))
 ·rw[iP (by rfl)];go_simp;refine hK.out _ _ (hS0.alloc _) (fun hSwy1=>?_);clear hK K;have hBwy1:=hB1.alloc hB1.size (.cells #[.int .u8 112] 5);have huwy1:=hu1.alloc (.cells #[.int .u8 112] 5);have rb:=World.ownsRow_lit (base:=0) (e:=5) (size:=1) w1 #[.int .u8 112] 1 (Nat.zero_le _) (by decide) (by simp);obtain⟨gb,hgb⟩:∃ gb,w1.heap.size=gb:=⟨_,rfl⟩;rw[hgb] at rb |-;generalize w1.alloc (.cells #[.int .u8 112] 5)=wy1 at rb hSwy1 hBwy1 huwy1 |-
  try simp only[Act.put,eA,eB,eC]
  refine wpAnyH_ready (rs:=[2,11]) (by kernel_rfl) (by simp) (AllReadyH.cons rfl (fun K hK=>?_) (AllReadyH.cons rfl (fun K hK=>?_) AllReadyH.nil))
  ·rw[iP (by rfl)];refine wp_append_own _ _ _ 97 rfl w0.heap.size 5 i0 _ 1 1 Tryz.underlying97 hi hz0 hz1 hz2 rfl (by decide) u l.length (l.map bv) rfl huwy1 ⟨gb,0,none⟩ 1 1 [.int .u8 112] rfl rfl (rb.cells rfl) (by simp[Value.oneCell']) (by unfold maxLen;omega) (by omega) hBwy1.size ?_;intro u2 wy2 hnwy2 hgwy2 _;change K (Act.put _ (some 7) u2) wy2;have hBwy2:=yJ hBwy1 huwy1 hgwy2;have hKwy2:=yF hSwy1 huwy1 hgwy2;refine hK.out _ _ hKwy2 (fun _=>?_);clear hK K hgwy2
   try dsimp only
   try simp only[Act.put,eA,eB,eC]
   refine qR 11 fun K hK=>?_;go_simp;refine hK.out _ _ (hKwy2.alloc _) (fun hSwy3=>?_);clear hK K;have hBwy3:=hBwy2.alloc hBwy2.size (.cells #[.iface T0 x0,.iface T1 x1] 115);have hswy3:=World.ownsRow_lit (base:=0) (e:=115) (size:=1) wy2 #[.iface T0 x0,.iface T1 x1] 2 (Nat.zero_le _) (by decide) (by simp);have hnwy3:=hnwy2.alloc (.cells #[.iface T0 x0,.iface T1 x1] 115);obtain⟨gt,hgt⟩:∃ gt,wy2.heap.size=gt:=⟨_,rfl⟩;rw[hgt] at hswy3 |-;generalize wy2.alloc (.cells #[.iface T0 x0,.iface T1 x1] 115)=wy3 at hswy3 hSwy3 hBwy3 hnwy3 |-
   try simp only[Act.put,eA,eB,eC]
   refine qR 12 fun K hK=>?_;go_simp;(with_reducible refine(f1.out _ _ _ _ hBwy3 hswy3 hnwy3).mono ?_);rintro e w3 ⟨u3,rfl,hu3,hb3,hk3⟩;refine hK.out _ _ (hSwy3.trans hk3) (fun hS3=>?_);have hKK:=(hSwy3).trans hk3;clear hK K;refine qT 13 4 (u3) hS3 (fun wz hSW=>?_) ?_
   ·skip;(try go_simp)<;>(try omega)
   try simp only[Act.put,eA,eB,eC]
   refine wpAnyH_done (by kernel_rfl) ?_ _;go_wp2;go_ret;exact⟨_,rfl,hu3,hb3,hK0.trans hKK⟩
  ·rw[iP (by rfl)];go_simp;refine hK.out _ _ (hSwy1.alloc _) (fun hSwy4=>?_);clear hK K;have hBwy4:=hBwy1.alloc hBwy1.size (.cells #[.iface T0 x0,.iface T1 x1] 115);have hswy4:=World.ownsRow_lit (base:=0) (e:=115) (size:=1) wy1 #[.iface T0 x0,.iface T1 x1] 2 (Nat.zero_le _) (by decide) (by simp);have huwy4:=huwy1.alloc (.cells #[.iface T0 x0,.iface T1 x1] 115);have rbwy4:=rb.alloc (.cells #[.iface T0 x0,.iface T1 x1] 115);obtain⟨gt,hgt⟩:∃ gt,wy1.heap.size=gt:=⟨_,rfl⟩;rw[hgt] at hswy4 |-;generalize wy1.alloc (.cells #[.iface T0 x0,.iface T1 x1] 115)=wy4 at hswy4 hSwy4 hBwy4 huwy4 rbwy4 |-
   try simp only[Act.put,eA,eB,eC]
   refine qR 2 fun K hK=>?_;refine wp_append_own _ _ _ 97 rfl w0.heap.size 5 i0 _ 1 1 Tryz.underlying97 hi hz0 hz1 hz2 rfl (by decide) u l.length (l.map bv) rfl huwy4 ⟨gb,0,none⟩ 1 1 [.int .u8 112] rfl rfl (rbwy4.cells rfl) (by simp[Value.oneCell']) (by unfold maxLen;omega) (by omega) hBwy4.size ?_;intro u2 wy5 hnwy5 hgwy5 _;change K (Act.put _ (some 7) u2) wy5;have hBwy5:=yJ hBwy4 huwy4 hgwy5;have hKwy5:=yF hSwy4 huwy4 hgwy5;have hswy5:=(yF (xV.refl _) huwy4 hgwy5).row hswy4 (by decide);refine hK.out _ _ hKwy5 (fun _=>?_);clear hK K hgwy5
   try dsimp only
   try simp only[Act.put,eA,eB,eC]
   refine qR 12 fun K hK=>?_;go_simp;(with_reducible refine(f1.out _ _ _ _ hBwy5 hswy5 hnwy5).mono ?_);rintro e w3 ⟨u3,rfl,hu3,hb3,hk3⟩;refine hK.out _ _ (hKwy5.trans hk3) (fun hS3=>?_);have hKK:=(hKwy5).trans hk3;clear hK K;refine qT 13 4 (u3) hS3 (fun wz hSW=>?_) ?_
   ·skip;(try go_simp)<;>(try omega)
   try simp only[Act.put,eA,eB,eC]
   refine wpAnyH_done (by kernel_rfl) ?_ _;go_wp2;go_ret;exact⟨_,rfl,hu3,hb3,hK0.trans hKK⟩
 ·rw[iP (by rfl)];go_simp;refine hK.out _ _ (hS0.alloc _) (fun hSwy6=>?_);clear hK K;have hBwy6:=hB1.alloc hB1.size (.cells #[.iface T0 x0,.iface T1 x1] 115);have hswy6:=World.ownsRow_lit (base:=0) (e:=115) (size:=1) w1 #[.iface T0 x0,.iface T1 x1] 2 (Nat.zero_le _) (by decide) (by simp);have huwy6:=hu1.alloc (.cells #[.iface T0 x0,.iface T1 x1] 115);obtain⟨gt,hgt⟩:∃ gt,w1.heap.size=gt:=⟨_,rfl⟩;rw[hgt] at hswy6 |-;generalize w1.alloc (.cells #[.iface T0 x0,.iface T1 x1] 115)=wy6 at hswy6 hSwy6 hBwy6 huwy6 |-
  try simp only[Act.put,eA,eB,eC]
  refine qR 1 fun K hK=>?_;go_simp;refine hK.out _ _ (hSwy6.alloc _) (fun hSwy7=>?_);clear hK K;have hBwy7:=hBwy6.alloc hBwy6.size (.cells #[.int .u8 112] 5);have huwy7:=huwy6.alloc (.cells #[.int .u8 112] 5);have rb:=World.ownsRow_lit (base:=0) (e:=5) (size:=1) wy6 #[.int .u8 112] 1 (Nat.zero_le _) (by decide) (by simp);have hswy7:=hswy6.alloc (.cells #[.int .u8 112] 5);obtain⟨gb,hgb⟩:∃ gb,wy6.heap.size=gb:=⟨_,rfl⟩;rw[hgb] at rb |-;generalize wy6.alloc (.cells #[.int .u8 112] 5)=wy7 at rb hSwy7 hBwy7 huwy7 hswy7 |-
  try simp only[Act.put,eA,eB,eC]
  refine qR 2 fun K hK=>?_;refine wp_append_own _ _ _ 97 rfl w0.heap.size 5 i0 _ 1 1 Tryz.underlying97 hi hz0 hz1 hz2 rfl (by decide) u l.length (l.map bv) rfl huwy7 ⟨gb,0,none⟩ 1 1 [.int .u8 112] rfl rfl (rb.cells rfl) (by simp[Value.oneCell']) (by unfold maxLen;omega) (by omega) hBwy7.size ?_;intro u2 wy8 hnwy8 hgwy8 _;change K (Act.put _ (some 7) u2) wy8;have hBwy8:=yJ hBwy7 huwy7 hgwy8;have hKwy8:=yF hSwy7 huwy7 hgwy8;have hswy8:=(yF (xV.refl _) huwy7 hgwy8).row hswy7 (by decide);refine hK.out _ _ hKwy8 (fun _=>?_);clear hK K hgwy8
  try dsimp only
  try simp only[Act.put,eA,eB,eC]
  refine qR 12 fun K hK=>?_;go_simp;(with_reducible refine(f1.out _ _ _ _ hBwy8 hswy8 hnwy8).mono ?_);rintro e w3 ⟨u3,rfl,hu3,hb3,hk3⟩;refine hK.out _ _ (hKwy8.trans hk3) (fun hS3=>?_);have hKK:=(hKwy8).trans hk3;clear hK K;refine qT 13 4 (u3) hS3 (fun wz hSW=>?_) ?_
  ·skip;(try go_simp)<;>(try omega)
  try simp only[Act.put,eA,eB,eC]
  refine wpAnyH_done (by kernel_rfl) ?_ _;go_wp2;go_ret;exact⟨_,rfl,hu3,hb3,hK0.trans hKK⟩
theorem xG1{w0 W:World}{g0:Nat}{t0 t1 t2:Tm}{T0 T1 T2:TypeId}{x0 x1 x2:Value}{u:Value}{l:List UInt8}
  (hg:w0.heap[g0]?=some (.cells #[.iface T0 x0,.iface T1 x1,.iface T2 x2] 223 (0,0))) (qa0:mC w0 t0 (.iface T0 x0)) (qa1:mC w0 t1 (.iface T1 x1)) (qa2:mC w0 t2 (.iface T2 x2)) (hb:Below w0.heap.size w0 W) (hu:W.ownsRow w0.heap.size 5 1 u l.length (l.map bv)) (hl:l.length+((xJ5 [t0,t1,t2]).length+1)<=100000000) :
  Calls Tryz.prog 331 #[.pointer (some ⟨g0,0,none⟩),u] W (nK w0 W (l++116::xJ5 [t0,t1,t2])):=by
 obtain⟨i0,hi,hz0,hz1,hz2⟩:=info_parts rE;have HL:Hid (l++116::xJ5 [t0,t1,t2]=(l++[116])++xJ5 [t0,t1,t2]):=by simp[Hid]
 have HA:∀ k (h:k<[t0,t1,t2].length) (h2:k<([.iface T0 x0,.iface T1 x1,.iface T2 x2]:List Value).length),mC w0 [t0,t1,t2][k] ([.iface T0 x0,.iface T1 x1,.iface T2 x2]:List Value)[k]:=fun k h h2=>by
  match k,h,h2 with
 |0,_,_=>exact qa0
 |1,_,_=>exact qa1
 |2,_,_=>exact qa2
 |k+3,h,_=>exact absurd h (by simp only[lC,List.length_nil];omega)
 have f1:=Ld fun (Wc:World) (b:Nat) (s u2:Value) (hbc:Below w0.heap.size w0 Wc) (hs:Wc.ownsRow b 115 1 s 3 [.iface T0 x0,.iface T1 x1,.iface T2 x2]) (hu2:Wc.ownsRow w0.heap.size 5 1 u2 (l.length+1) (l.map bv++[.int .u8 116])) =>
  jT (w0:=w0) (ts:=[t0,t1,t2]) (vs:=[.iface T0 x0,.iface T1 x1,.iface T2 x2]) (l:=l++[116]) rfl (yN5 t0 t1 t2) HA hbc hs (by simpa [bv] using hu2) (by simp;omega)
 rw[HL.out];generalize (l++[116])++xJ5 [t0,t1,t2]=out at f1;have hB0:=hb;have hK0:=xV.refl W;have hu0:=hu;have blk0:=yQ hg hb;clear qa0 qa1 qa2 hb hu HL HA hg;go_enter Tryz.func331,Tryz.ntmps331;go_wp2_with fail;refine wp_region_held_drew (S:=fun w'=>xV W w') (by kernel_rfl) (xV.refl W).drew (fun hS0=>?_);have hB1:Below w0.heap.size w0 W.drew:=hB0.drew;have hu1:=tR hu0 1;have hu1:W.drew.ownsRow w0.heap.size 5 1 u l.length (l.map bv):=hu0;generalize W.drew=w1 at hS0 hB1 hu1 |-;clear hB0 hu0;refine qT 0 5 (u) hS0 (fun wz hSW=>?_) ?_
 ·skip;(try go_simp)<;>(try omega)
 refine qT 3 8 (.pointer (some ⟨g0,0,none⟩)) hS0 (fun wz hSW=>?_) ?_
 ·skip;(try go_simp)<;>(try omega)
 refine qT 4 9 (.pointer (some ⟨g0,0,none⟩)) hS0 (fun wz hSW=>?_) ?_
 ·skip;(try go_simp)<;>(try omega)
 refine qT 5 10 (.pointer (some ⟨g0,0,none⟩)) hS0 (fun wz hSW=>?_) ?_
 ·skip;(try go_simp)<;>(try omega)
 refine qT 6 11 (.iface T0 x0) hS0 (fun wz hSW=>?_) ?_
 ·have y0:wz.cell? ⟨g0,0,none⟩=some (.iface T0 x0):=(by rw[Lib.cell_of_heap (hSW _ _ _ _ (by decide) blk0)];rfl);(try go_simp)<;>(try omega)
 refine qT 7 12 (.pointer (some ⟨g0,0,none⟩)) hS0 (fun wz hSW=>?_) ?_
 ·skip;(try go_simp)<;>(try omega)
 refine qT 8 13 (.pointer (some ⟨g0,0,none⟩)) hS0 (fun wz hSW=>?_) ?_
 ·skip;(try go_simp)<;>(try omega)
 refine qT 9 14 (.pointer (some ⟨g0,1,none⟩)) hS0 (fun wz hSW=>?_) ?_
 ·skip;(try go_simp)<;>(try omega)
 refine qT 10 15 (.iface T1 x1) hS0 (fun wz hSW=>?_) ?_
 ·have y1:wz.cell? ⟨g0,1,none⟩=some (.iface T1 x1):=(by rw[Lib.cell_of_heap (hSW _ _ _ _ (by decide) blk0)];rfl);(try go_simp)<;>(try omega)
 refine qT 11 16 (.pointer (some ⟨g0,0,none⟩)) hS0 (fun wz hSW=>?_) ?_
 ·skip;(try go_simp)<;>(try omega)
 refine qT 12 17 (.pointer (some ⟨g0,0,none⟩)) hS0 (fun wz hSW=>?_) ?_
 ·skip;(try go_simp)<;>(try omega)
 refine qT 13 18 (.pointer (some ⟨g0,2,none⟩)) hS0 (fun wz hSW=>?_) ?_
 ·skip;(try go_simp)<;>(try omega)
 refine qT 14 19 (.iface T2 x2) hS0 (fun wz hSW=>?_) ?_
 ·have y2:wz.cell? ⟨g0,2,none⟩=some (.iface T2 x2):=(by rw[Lib.cell_of_heap (hSW _ _ _ _ (by decide) blk0)];rfl);(try go_simp)<;>(try omega)
 try simp only[Act.put,eA,eB,eC]
 refine wpAnyH_ready (rs:=[1,15]) (by kernel_rfl) (by simp) (AllReadyH.cons rfl (fun K hK=>?_) (AllReadyH.cons rfl (fun K hK=>?_) AllReadyH.nil))
 ·rw[iP (by rfl)];go_simp;refine hK.out _ _ (hS0.alloc _) (fun hSwy1=>?_);clear hK K;have hBwy1:=hB1.alloc hB1.size (.cells #[.int .u8 116] 5);have huwy1:=hu1.alloc (.cells #[.int .u8 116] 5);have rb:=World.ownsRow_lit (base:=0) (e:=5) (size:=1) w1 #[.int .u8 116] 1 (Nat.zero_le _) (by decide) (by simp);obtain⟨gb,hgb⟩:∃ gb,w1.heap.size=gb:=⟨_,rfl⟩;rw[hgb] at rb |-;generalize w1.alloc (.cells #[.int .u8 116] 5)=wy1 at rb hSwy1 hBwy1 huwy1 |-
  try simp only[Act.put,eA,eB,eC]
  refine wpAnyH_ready (rs:=[2,15]) (by kernel_rfl) (by simp) (AllReadyH.cons rfl (fun K hK=>?_) (AllReadyH.cons rfl (fun K hK=>?_) AllReadyH.nil))
  ·rw[iP (by rfl)];refine wp_append_own _ _ _ 97 rfl w0.heap.size 5 i0 _ 1 1 Tryz.underlying97 hi hz0 hz1 hz2 rfl (by decide) u l.length (l.map bv) rfl huwy1 ⟨gb,0,none⟩ 1 1 [.int .u8 116] rfl rfl (rb.cells rfl) (by simp[Value.oneCell']) (by unfold maxLen;omega) (by omega) hBwy1.size ?_;intro u2 wy2 hnwy2 hgwy2 _;change K (Act.put _ (some 7) u2) wy2;have hBwy2:=yJ hBwy1 huwy1 hgwy2;have hKwy2:=yF hSwy1 huwy1 hgwy2;refine hK.out _ _ hKwy2 (fun _=>?_);clear hK K hgwy2
   try dsimp only
   try simp only[Act.put,eA,eB,eC]
   refine qR 15 fun K hK=>?_;go_simp;refine hK.out _ _ (hKwy2.alloc _) (fun hSwy3=>?_);clear hK K;have hBwy3:=hBwy2.alloc hBwy2.size (.cells #[.iface T0 x0,.iface T1 x1,.iface T2 x2] 115);have hswy3:=World.ownsRow_lit (base:=0) (e:=115) (size:=1) wy2 #[.iface T0 x0,.iface T1 x1,.iface T2 x2] 3 (Nat.zero_le _) (by decide) (by simp);have hnwy3:=hnwy2.alloc (.cells #[.iface T0 x0,.iface T1 x1,.iface T2 x2] 115);obtain⟨gt,hgt⟩:∃ gt,wy2.heap.size=gt:=⟨_,rfl⟩;rw[hgt] at hswy3 |-;generalize wy2.alloc (.cells #[.iface T0 x0,.iface T1 x1,.iface T2 x2] 115)=wy3 at hswy3 hSwy3 hBwy3 hnwy3 |-
   try simp only[Act.put,eA,eB,eC]
   refine qR 16 fun K hK=>?_;go_simp;(with_reducible refine(f1.out _ _ _ _ hBwy3 hswy3 hnwy3).mono ?_);rintro e w3 ⟨u3,rfl,hu3,hb3,hk3⟩;refine hK.out _ _ (hSwy3.trans hk3) (fun hS3=>?_);have hKK:=(hSwy3).trans hk3;clear hK K;refine qT 17 4 (u3) hS3 (fun wz hSW=>?_) ?_
   ·skip;(try go_simp)<;>(try omega)
   try simp only[Act.put,eA,eB,eC]
   refine wpAnyH_done (by kernel_rfl) ?_ _;go_wp2;go_ret;exact⟨_,rfl,hu3,hb3,hK0.trans hKK⟩
  ·rw[iP (by rfl)];go_simp;refine hK.out _ _ (hSwy1.alloc _) (fun hSwy4=>?_);clear hK K;have hBwy4:=hBwy1.alloc hBwy1.size (.cells #[.iface T0 x0,.iface T1 x1,.iface T2 x2] 115);have hswy4:=World.ownsRow_lit (base:=0) (e:=115) (size:=1) wy1 #[.iface T0 x0,.iface T1 x1,.iface T2 x2] 3 (Nat.zero_le _) (by decide) (by simp);have huwy4:=huwy1.alloc (.cells #[.iface T0 x0,.iface T1 x1,.iface T2 x2] 115);have rbwy4:=rb.alloc (.cells #[.iface T0 x0,.iface T1 x1,.iface T2 x2] 115);obtain⟨gt,hgt⟩:∃ gt,wy1.heap.size=gt:=⟨_,rfl⟩;rw[hgt] at hswy4 |-;generalize wy1.alloc (.cells #[.iface T0 x0,.iface T1 x1,.iface T2 x2] 115)=wy4 at hswy4 hSwy4 hBwy4 huwy4 rbwy4 |-
   try simp only[Act.put,eA,eB,eC]
   refine qR 2 fun K hK=>?_;refine wp_append_own _ _ _ 97 rfl w0.heap.size 5 i0 _ 1 1 Tryz.underlying97 hi hz0 hz1 hz2 rfl (by decide) u l.length (l.map bv) rfl huwy4 ⟨gb,0,none⟩ 1 1 [.int .u8 116] rfl rfl (rbwy4.cells rfl) (by simp[Value.oneCell']) (by unfold maxLen;omega) (by omega) hBwy4.size ?_;intro u2 wy5 hnwy5 hgwy5 _;change K (Act.put _ (some 7) u2) wy5;have hBwy5:=yJ hBwy4 huwy4 hgwy5;have hKwy5:=yF hSwy4 huwy4 hgwy5;have hswy5:=(yF (xV.refl _) huwy4 hgwy5).row hswy4 (by decide);refine hK.out _ _ hKwy5 (fun _=>?_);clear hK K hgwy5
   try dsimp only
   try simp only[Act.put,eA,eB,eC]
   refine qR 16 fun K hK=>?_;go_simp;(with_reducible refine(f1.out _ _ _ _ hBwy5 hswy5 hnwy5).mono ?_);rintro e w3 ⟨u3,rfl,hu3,hb3,hk3⟩;refine hK.out _ _ (hKwy5.trans hk3) (fun hS3=>?_);have hKK:=(hKwy5).trans hk3;clear hK K;refine qT 17 4 (u3) hS3 (fun wz hSW=>?_) ?_
   ·skip;(try go_simp)<;>(try omega)
   try simp only[Act.put,eA,eB,eC]
   refine wpAnyH_done (by kernel_rfl) ?_ _;go_wp2;go_ret;exact⟨_,rfl,hu3,hb3,hK0.trans hKK⟩
 ·rw[iP (by rfl)];go_simp;refine hK.out _ _ (hS0.alloc _) (fun hSwy6=>?_);clear hK K;have hBwy6:=hB1.alloc hB1.size (.cells #[.iface T0 x0,.iface T1 x1,.iface T2 x2] 115);have hswy6:=World.ownsRow_lit (base:=0) (e:=115) (size:=1) w1 #[.iface T0 x0,.iface T1 x1,.iface T2 x2] 3 (Nat.zero_le _) (by decide) (by simp);have huwy6:=hu1.alloc (.cells #[.iface T0 x0,.iface T1 x1,.iface T2 x2] 115);obtain⟨gt,hgt⟩:∃ gt,w1.heap.size=gt:=⟨_,rfl⟩;rw[hgt] at hswy6 |-;generalize w1.alloc (.cells #[.iface T0 x0,.iface T1 x1,.iface T2 x2] 115)=wy6 at hswy6 hSwy6 hBwy6 huwy6 |-
  try simp only[Act.put,eA,eB,eC]
  refine qR 1 fun K hK=>?_;go_simp;refine hK.out _ _ (hSwy6.alloc _) (fun hSwy7=>?_);clear hK K;have hBwy7:=hBwy6.alloc hBwy6.size (.cells #[.int .u8 116] 5);have huwy7:=huwy6.alloc (.cells #[.int .u8 116] 5);have rb:=World.ownsRow_lit (base:=0) (e:=5) (size:=1) wy6 #[.int .u8 116] 1 (Nat.zero_le _) (by decide) (by simp);have hswy7:=hswy6.alloc (.cells #[.int .u8 116] 5);obtain⟨gb,hgb⟩:∃ gb,wy6.heap.size=gb:=⟨_,rfl⟩;rw[hgb] at rb |-;generalize wy6.alloc (.cells #[.int .u8 116] 5)=wy7 at rb hSwy7 hBwy7 huwy7 hswy7 |-
  try simp only[Act.put,eA,eB,eC]
  refine qR 2 fun K hK=>?_;refine wp_append_own _ _ _ 97 rfl w0.heap.size 5 i0 _ 1 1 Tryz.underlying97 hi hz0 hz1 hz2 rfl (by decide) u l.length (l.map bv) rfl huwy7 ⟨gb,0,none⟩ 1 1 [.int .u8 116] rfl rfl (rb.cells rfl) (by simp[Value.oneCell']) (by unfold maxLen;omega) (by omega) hBwy7.size ?_;intro u2 wy8 hnwy8 hgwy8 _;change K (Act.put _ (some 7) u2) wy8;have hBwy8:=yJ hBwy7 huwy7 hgwy8;have hKwy8:=yF hSwy7 huwy7 hgwy8;have hswy8:=(yF (xV.refl _) huwy7 hgwy8).row hswy7 (by decide);refine hK.out _ _ hKwy8 (fun _=>?_);clear hK K hgwy8
  try dsimp only
  try simp only[Act.put,eA,eB,eC]
  refine qR 16 fun K hK=>?_;go_simp;(with_reducible refine(f1.out _ _ _ _ hBwy8 hswy8 hnwy8).mono ?_);rintro e w3 ⟨u3,rfl,hu3,hb3,hk3⟩;refine hK.out _ _ (hKwy8.trans hk3) (fun hS3=>?_);have hKK:=(hKwy8).trans hk3;clear hK K;refine qT 17 4 (u3) hS3 (fun wz hSW=>?_) ?_
  ·skip;(try go_simp)<;>(try omega)
  try simp only[Act.put,eA,eB,eC]
  refine wpAnyH_done (by kernel_rfl) ?_ _;go_wp2;go_ret;exact⟨_,rfl,hu3,hb3,hK0.trans hKK⟩
theorem eL{w0:World}(hv:Vars w0):∀ (t:Tm) (v:Value),t.Lim 9999->yG w0 t v->mC w0 t v
|.var n,_,hok,⟨g,rfl,hg⟩=>⟨_,_,_,rfl,yZ2,fun _ _ _ hb hu hl=>xG0 n hok hg hv hb hu hl⟩
|.sort s,_,_,⟨g,rfl,hg⟩=>⟨_,_,_,rfl,yQ8,fun _ _ _ hb hu hl=>xB7 s hg hb hu hl⟩
|.const s ls,_,_,⟨g,c,rfl,hg,hc⟩=>⟨_,_,_,rfl,zB9,fun _ _ _ hb hu hl=>zT7 s hg hc hb hu hl⟩
|.app f a,_,hok,⟨g,x,y,rfl,hg,hx,hy⟩=>by
  have h1:=eL hv f x hok.1 hx;have h2:=eL hv a y hok.2 hy;obtain⟨T1,x1,rfl⟩:=hx.iface;obtain⟨T2,y1,rfl⟩:=hy.iface;refine⟨_,_,_,rfl,yZ6,fun W u l hb hu hl=>?_⟩;have e:(Tm.app f a).bytes=64::xJ5 [f,a]:=(by rw[zP4];rfl);rw[e] at hl |-;exact xG3 hg h1 h2 hb hu (by simpa using hl)
|.lam f a,_,hok,⟨g,x,y,rfl,hg,hx,hy⟩=>by
  have h1:=eL hv f x hok.1 hx;have h2:=eL hv a y hok.2 hy;obtain⟨T1,x1,rfl⟩:=hx.iface;obtain⟨T2,y1,rfl⟩:=hy.iface;refine⟨_,_,_,rfl,yZ4,fun W u l hb hu hl=>?_⟩;have e:(Tm.lam f a).bytes=108::xJ5 [f,a]:=(by rw[zP4];rfl);rw[e] at hl |-;exact xG2 hg h1 h2 hb hu (by simpa using hl)
|.pi f a,_,hok,⟨g,x,y,rfl,hg,hx,hy⟩=>by
  have h1:=eL hv f x hok.1 hx;have h2:=eL hv a y hok.2 hy;obtain⟨T1,x1,rfl⟩:=hx.iface;obtain⟨T2,y1,rfl⟩:=hy.iface;refine⟨_,_,_,rfl,xD7,fun W u l hb hu hl=>?_⟩;have e:(Tm.pi f a).bytes=112::xJ5 [f,a]:=(by rw[zP4];rfl);rw[e] at hl |-;exact xH9 hg h1 h2 hb hu (by simpa using hl)
|.lett f a b,_,hok,⟨g,x,y,z,rfl,hg,hx,hy,hz⟩=>by
  have h1:=eL hv f x hok.1 hx;have h2:=eL hv a y hok.2.1 hy;have h3:=eL hv b z hok.2.2 hz;obtain⟨T1,x1,rfl⟩:=hx.iface;obtain⟨T2,y1,rfl⟩:=hy.iface;obtain⟨T3,z1,rfl⟩:=hz.iface;refine⟨_,_,_,rfl,yZ3,fun W u l hb hu hl=>?_⟩;have e:(Tm.lett f a b).bytes=116::xJ5 [f,a,b]:=(by rw[yK4];rfl);rw[e] at hl |-;exact xG1 hg h1 h2 h3 hb hu (by simpa using hl)
theorem pG{w0:World}(hv:Vars w0){t:Tm}{v:Value}(hok:t.Lim 9999)(hr:yG w0 t v)(hl:t.bytes.length<=100000000) :
  Rt 130 #[v] w0 (.string ⟨t.bytes.toArray⟩):=by
 obtain⟨T,x,fn,rfl,hm,hc⟩:=eL hv t v hok hr;exact dD hm (hc w0 (.slice none 0 0) [] (bR _ _) (World.ownsRow_nil _ _ _ _) (by simpa using hl))
theorem yZ9{p:Nat->Prop}(h:∃ n,p n):∃ n,p n/\∀ m,p m->n<=m:=by
 obtain⟨n,hn⟩:=h
 induction n using Nat.strongRecOn with
|ind n ih =>
  by_cases hx:∃ m,m<n/\p m
  ·obtain⟨m,h1,h2⟩:=hx;exact ih m h1 h2
  ·exact⟨n,hn,fun m hm=>Nat.le_of_not_lt fun h=>hx ⟨m,h,hm⟩⟩
def yM1 (W:World) (v:Value) (n:Nat):Prop:=∃ u:Tm,yG W u v/\u.size=n
open Classical in
noncomputable def xI9 (W:World) (v:Value):Nat:=if h:∃ n,yM1 W v n then Classical.choose (yZ9 h) else 0
theorem xD5{W:World}{u:Tm}{v:Value}(h:yG W u v):xI9 W v<=u.size:=by
 have he:∃ n,yM1 W v n:=⟨_,u,h,rfl⟩;rw[xI9,dif_pos he];exact(Classical.choose_spec (yZ9 he)).2 _ ⟨u,h,rfl⟩
theorem xD6{W:World}{u:Tm}{v:Value}(h:yG W u v):∃ u0,yG W u0 v/\u0.size=xI9 W v:=by
 have he:∃ n,yM1 W v n:=⟨_,u,h,rfl⟩;rw[xI9,dif_pos he];exact(Classical.choose_spec (yZ9 he)).1
theorem yF4{W:World}{u:Tm}{g:Nat}{x y:Value}(h:yG W u (.iface 218 (.pointer (some ⟨g,0,none⟩))))(hg:W.heap[g]?=some (.cells #[x,y] 220 (0,0))):xI9 W y<xI9 W (.iface 218 (.pointer (some ⟨g,0,none⟩))):=by
 obtain⟨u0,h0,hz⟩:=xD6 h;rw[← hz];cases u0 with
|pi f a =>
  obtain⟨g',x',y',e,hh,hf,ha⟩:=h0;simp only[Value.iface.injEq,Value.pointer.injEq,Option.some.injEq,Addr.mk.injEq,true_and,and_true] at e;subst e;rw[hg] at hh;simp only[Option.some.injEq,Obj.cells.injEq,and_true,Array.mk.injEq,List.cons.injEq] at hh;obtain⟨rfl,rfl⟩:=hh;have:=xD5 ha;have:=f.size_pos;simp only[Tm.size];omega
|var n=>obtain⟨g',e,_⟩:=h0;simp at e
|sort n=>obtain⟨g',e,_⟩:=h0;simp at e
|const n ls=>obtain⟨g',u',e,_⟩:=h0;simp at e
|lam f a=>obtain⟨g',x',y',e,_⟩:=h0;simp at e
|app f a=>obtain⟨g',x',y',e,_⟩:=h0;simp at e
|lett f a b=>obtain⟨g',x',y',z',e,_⟩:=h0;simp at e
theorem bZ{W:World}{u:Tm}{v:Value}(h:yG W u v)(hk:u.kind≠112)(w:World):(Instr.typeAssert v 115 218 true).run Tryz.prog w=.ok (.tuple #[.pointer none,.bool false]) w:=by
 cases u with
|pi f a=>exact absurd rfl hk
|var n=>obtain⟨g',rfl,_⟩:=h;rw[jX,iN (by decide)]
|sort n=>obtain⟨g',rfl,_⟩:=h;rw[jX,iN (by decide)]
|const n ls=>obtain⟨g',u',rfl,_⟩:=h;rw[jX,iN (by decide)]
|lam f a=>obtain⟨g',x',y',rfl,_⟩:=h;rw[jX,iN (by decide)]
|app f a=>obtain⟨g',x',y',rfl,_⟩:=h;rw[jX,iN (by decide)]
|lett f a b=>obtain⟨g',x',y',z',rfl,_⟩:=h;rw[jX,iN (by decide)]
end Go.Proofs.YtcaahdjhbmmcnaaGreatDoor
namespace Go.Proofs.YtcaahdjhbmmcnaaGreatDoor
open Go.ChangeShapes Go.WideShapes Go.ChangeAt Go.RowKit Go.Shelf
attribute [local go_sem] Oper.semAt_some
abbrev Pt (W0:World):={ p:Tm × Value // yG W0 p.1 p.2/\p.1.Ok/\p.1.bytes.length<=2000 }
def nN {W0:World} (l:List (Pt W0)):List Tm:=l.map fun x=>x.1.1
theorem zU2{W0:World}(l:List (Pt W0))(x:Pt W0):nN (l++[x])=nN l++[x.1.1]:=by simp[nN]
theorem aL{W0:World}(l:List (Pt W0)):(nN l).length=l.length:=by simp[nN]
theorem sO(T:TypeId)(x:Value)(w:World) :
  Calls Tryz.prog 190 #[.iface T x] w fun e w'=>e=.returned (.func (.func 227) #[] #[.pointer (some ⟨w.heap.size,0,none⟩)])/\w'=w.alloc (.cells #[.iface T x] 115):=by
 go_enter Tryz.func190,Tryz.ntmps190;go_wp2;go_ret;exact⟨rfl,rfl⟩
theorem zT0(F:Fence)(n:Nat)(hF1:F.fn 227)(hro:F.round=none)(l Bt:Nat)(W0:World)(v:Value)(T:Tm)(J Jx:List (Pt W0)->World->Prop)(hn:1<=n)
  (hY:∀ pre (x:Pt W0) W,J pre W->pre.length<T.doms.length->YieldAt F (n - 1) Tryz.prog l #[x.1.2] W fun e W' =>
   (e=.returned (.bool true)/\J (pre++[x]) W'/\Below W0.heap.size W W')\/(e=.returned (.bool false)/\Jx (pre++[x]) W'))
  (W:World) (hBt:W.cell? ⟨Bt,0,none⟩=some v) (hr:yG W0 T v) (hok:T.Ok) (hlen:T.bytes.length<=2000) (hB:Below W0.heap.size W0 W) (h0:J [] W) :
  CallsIn F n Tryz.prog 227 #[.func (.yield l) #[] #[],.pointer (some ⟨Bt,0,none⟩)] W fun e W'=>(∃ v,e=.returned v) /\
   ((∃ ys,nN ys=T.doms/\J ys W')\/(∃ pre,nN pre <+: T.doms/\Jx pre W')):=by
 have HR:=Ld hr;obtain⟨T0,x0,rfl⟩:=hr.iface;clear hr;refine callsIn_of_wp Tryz.func227 rfl hF1 ?_ hro;simp only[Tryz.ntmps227,List.size_toArray,lC,List.length_nil,Nat.reduceAdd,Nat.reduceSub,Array.replicate_succ,Array.replicate_zero,List.push_toArray,List.append_toArray,List.nil_append,List.cons_append]
 gi_wp2
 gi_loopw [3] (fun p wr=>∃ (pre:List (Pt W0)) (u:Tm) (oo:Value),oo=p/\Hid (yG W0 u oo/\u.Ok/\u.bytes.length<=2000/\nN pre++u.doms=T.doms)/\Below W0.heap.size W0 wr/\J pre wr) (fun p _=>xI9 W0 p)
 case atStart=>exact⟨[],T,_,rfl,⟨HR.out,hok,hlen,rfl⟩,hB,h0⟩
 case round =>
  obtain⟨pre,u,oo,rfl,HU,hBr,hJs⟩:=hrel;by_cases hk:u.kind=112
  ·obtain⟨p,q,rfl⟩:=hJ hk;obtain⟨h1,h2,h3,h4⟩:=HU.out;obtain⟨g,x,y,rfl,hg,hx,hy⟩:=id h1;have HM:=Ld (yF4 h1 hg);have hgl:g<W0.heap.size:=(Array.getElem?_eq_some_iff.1 hg).1;have c0:wr.cell? ⟨g,0,none⟩=some x:=(hBr.cell (p:=⟨g,0,none⟩) hgl).trans (by rw[Lib.cell_of_heap hg];rfl);have C1:Hid (∀ W1,Below W0.heap.size wr W1->W1.cell? ⟨g,1,none⟩=some y):=fun W1 h=>((hBr.trans h).cell (p:=⟨g,1,none⟩) hgl).trans (by rw[Lib.cell_of_heap hg];rfl);simp only[Tm.bytes,lC,lA] at h3;have tA:=(jX 218 (.pointer (some ⟨g,0,none⟩)) wr).trans (by rw[iP rfl]);obtain⟨pt,hp1,hp2⟩:∃ pt:Pt W0,pt.1.1=p/\pt.1.2=x:=⟨⟨(p,x),hx,h2.1,by show p.bytes.length<=2000;omega⟩,rfl,rfl⟩
   obtain⟨fn,tmps,assign,body,hyy,hR⟩:=hY pre pt wr hJs (by
    rw[← h4,lA,aL];simp only[Tm.doms,lC];omega)
   have HN:Hid (yG W0 q y/\q.Ok/\q.bytes.length<=2000/\nN (pre++[pt])++q.doms=T.doms):=⟨hy,h2.2,by omega,by rw[zU2,← h4,hp1];simp[Tm.doms]⟩;have HB:=Ld hBr;rw[hp2] at hyy;obtain⟨T1,x1,rfl⟩:=hx.iface;obtain⟨T2,y1,rfl⟩:=hy.iface;clear HU h1 h2 h3 h4 hg hgl hk hx hy hY hBr hB h0 HR hp1 hp2
   gi_wp2
   refine hR.mono ?_;rintro e W3 (⟨rfl,hJ3,hk3⟩|⟨rfl,hJx3⟩)
   ·have c1:=C1.out W3 hk3
    gi_wp2
    go_roundw
    case rel=>exact⟨_,q,_,rfl,HN.out,HB.out.trans hk3,hJ3⟩
    case measure=>exact HM.out
   ·gi_wp2
    refine bodyPost_ret (results_none rfl _ _ _) rfl ?_;exact⟨⟨_,rfl⟩,.inr ⟨_,⟨q.doms,HN.out.2.2.2⟩,hJx3⟩⟩
  ·have tA:=bZ HU.out.1 hk wr;have HE:Hid (nN pre=T.doms):=(by have:=HU.out.2.2.2;rw[(zB1 hk).2,List.append_nil] at this;exact this);clear HU hk hY HR
   gi_wp2
   refine⟨fun _ h=>(by cases h),?_⟩
   gi_wp2
   refine bodyPost_ret (results_none rfl _ _ _) rfl ?_;exact⟨⟨_,rfl⟩,.inl ⟨pre,HE.out,hJs⟩⟩
theorem zZ4(F:Fence)(n:Nat)(hn:1<=n)(hF1:F.fn 227)(hro:F.round=none)(Bt:Nat)(v:Value)(T:Tm)(w:World)(hBt:Bt<w.heap.size)
  (hc:w.cell? ⟨Bt,0,none⟩=some v) (hr:yG w T v) (hok:T.Ok) (hlen:T.bytes.length<=2000) :
  SeqStopsK F n Tryz.prog 227 #[.pointer (some ⟨Bt,0,none⟩)] (fun x:Pt w=>#[x.1.2]) (Below w.heap.size) (fun ys=>nN ys=T.doms) (fun pre=>nN pre <+: T.doms) T.doms.length w:=fun l J Jx W hW _ _ hY h0 =>
 zT0 F n hF1 hro l Bt w v T J Jx hn hY W ((hW.cell (p:=⟨Bt,0,none⟩) hBt).trans hc) hr hok hlen hW h0
theorem yJ1(F:Fence)(n:Nat)(hn:1<=n)(hF1:F.fn 227)(hro:F.round=none)(Bt:Nat)(v:Value)(T:Tm)(w:World)(hBt:Bt<w.heap.size)
  (hc:w.cell? ⟨Bt,0,none⟩=some v) (hr:yG w T v) (hok:T.Ok) (hlen:T.bytes.length<=2000) :
  SeqStopsK F n Tryz.prog 227 #[.pointer (some ⟨Bt,0,none⟩)] (fun x:Pt w=>#[x.1.2]) (Below w.heap.size) (fun ys=>nN ys=T.doms) (fun _=>True) T.doms.length w:=fun l J Jx W hW _ _ hY h0 =>
 (zT0 F n hF1 hro l Bt w v T J Jx hn hY W ((hW.cell (p:=⟨Bt,0,none⟩) hBt).trans hc) hr hok hlen hW h0).mono fun e W' h=>⟨h.1,h.2.elim .inl fun ⟨pre,_,h2⟩=>.inr ⟨pre,trivial,h2⟩⟩
theorem jS{F:Fence}{n:Nat}{P:Program}{o:Oper}{a:Act}{K:Act->World->Prop}{Q:Exit->Act->World->Prop}(w:World)(s x:Operand)(t:TypeId)
  (ho:o.op=.call { callee:=.builtin .append,args:=#[s,x],argTypes:=#[t,t] })
  (b:Nat) (e:TypeId) (i:TypeInfo) (z:Value) (size bytes:Nat) (ht:P.underlying t=some (.slice e)) (hi:P.info? e=some i) (hz:i.zero=some z) (hs1:i.size=size) (hb1:i.bytes=bytes) (hzs:z.cells.size=size) (hsz:0<size)
  (v:Value) (k:Nat) (xs:List Value) (hs:a.eval s=v) (hown:w.ownsRow b e size v k xs) (ad:Addr) (m c:Nat) (news:List Value) (hx:a.eval x=.slice (some ad) m c) (hl:news.length=m*size)
  (hnews:∀ j u,news[j]?=some u->w.cell? (ad.add j)=some u) (h1:∀ u∈news,u.oneCell'=true) (h63:k+m<=maxLen) (hby:(k+m)*bytes<=140737488355328) (hbase:b<=w.heap.size)
  (h:∀ v' w',w'.ownsRow b e size v' (k+m) (xs++news)->w.grownBy w' v.ownBlock->K (a.put o.dst v') w'):o.wpIn F n P a w K Q:=by
 obtain⟨v',w',hr,h2,h3,_⟩:=run_append_own (P:=P) w b t o.type e i z size bytes ht hi hz hs1 hb1 hzs hsz v k xs hown ad m c news hl hnews h1 h63 hby hbase;unfold Oper.wpIn;constructor
 ·simp[Oper.about,ho,resolve,Target.leads,Sem.run_pure]
 ·rw[Oper.semAt_plain F _ _ (fun d hd=>by rw[ho] at hd;cases hd)];simp only[execOp,ho,resolve,invoke,builtin,Sem.run_bind,Sem.run_pure,Result.andThen_ok,List.map_toArray,List.map_cons,List.map_nil,hs,hx,hr];exact h v' w' h2 h3
theorem zM3(gf:Nat)(lb:Array Value)(ts:List Tm)(w:World)(hv:Vars w)(eg:∀ args w,(callFunc gf args).run Tryz.prog w=.ok (.enter gf args) w)(hn:ts.length<=2000)
  (hseq:∀ n,1<=n->SeqStopsK Fence.wide n Tryz.prog gf lb (fun x:Pt w=>#[x.1.2]) (Below w.heap.size) (fun ys=>nN ys=ts) (fun _=>True) ts.length w) :
  Calls Tryz.prog 259 #[.func (.func gf) #[] lb] w (oS (ts.map Tm.bytes) w):=by
 obtain⟨i0,hi,hz0,hz1',hz2⟩:=info_parts rZ;refine(callsIn_wide (n:=3)).1 ?_;refine callsIn_of_wp_marks Tryz.func259 rfl trivial ?_ rfl;simp only[Tryz.ntmps259,List.size_toArray,lC,List.length_nil,Nat.reduceAdd,Nat.reduceSub,Array.replicate_succ,Array.replicate_zero,List.push_toArray,List.append_toArray,List.nil_append,List.cons_append]
 gi_wp2
 have bO:=Boxed.new w 31 (.slice none 0 0);have hB0:Below w.heap.size w (w.alloc (.cells #[.slice none 0 0] 31)):=(bR _ w).alloc (nR _) _;refine wpIn_rangeFunc_ownG rfl (by omega) (gf:=gf) (lb:=lb) rfl trivial eg (hseq _ (by omega)) belowK_t (belowK_b (by simp)) hB0 (fun _=>rfl)
  (fun (pre:List (Pt w)) W=>(∃ v,Boxed W w.heap.size 31 v/\W.ownsRow w.heap.size 9 1 v pre.length (pre.map fun x=>sv x.1.1.bytes)/\True)/\Below w.heap.size w W)
  (fun _ _ _=>False)
  (OwnFrom.and (Own.from (holdsRow_own w.heap.size w.heap.size 31 9 1 (fun pre:List (Pt w)=>pre.length) (fun pre:List (Pt w)=>pre.map fun x=>sv x.1.1.bytes) (fun _ _=>True)) _) (ownFrom_below (nR _) (by simp)))
  (fun _ _ _ _ _ hs _ _=>hs) ⟨⟨_,bO,World.ownsRow_nil _ _ _ _,trivial⟩,hB0⟩
  (fun x:Pt w=>{ tmps:=#[.func (.func gf) #[] lb,undef,.slice none 0 0,.pointer (some ⟨w.heap.size,0,none⟩),x.1.2,.func (.func gf) #[] lb,x.1.2,undef,undef,undef,undef,undef,undef],defers:=[] }) ?assign ?body ?done ?stop
 case assign =>
  intro l x W K hK
  gi_wp2
  exact hK
 case body =>
  rintro l pre ⟨⟨tm,tv⟩,hr0,hok,hlen⟩ W ⟨⟨v,hv1,hrow,-⟩,hB⟩ hlt;obtain⟨T0,x0,rfl⟩:=yG.iface hr0;have hc:=hv1.cell;have hBd:=hB.drew;have f1:=Ld (pG (hv.below hBd) (Tm.Ok.lim9 hok) (yG.below hBd hr0) (by show tm.bytes.length<=100000000;have:tm.bytes.length<=2000:=hlen;omega));dsimp only at f1;have hmx:Tryz.prog.follows .mixedOrders=true:=(by kernel_rfl);have hlt2:pre.length<2000:=by omega
  gi_wp2
  refine wpIn_region_any hmx ?_;change wpAnyIn _ _ _ _ _ _ 6 #[false,false,false,false,false,false] _ W.drew;refine wpAnyIn_ready (rs:=[0,1]) (by kernel_rfl) (by simp) ?_;refine AllReadyIn.cons rfl (fun K hK=>?_) (AllReadyIn.cons rfl (fun K hK=>?_) AllReadyIn.nil)
  ·go_simp;refine hK _ _ ?_;clear hK K;refine wpAnyIn_ready (rs:=[1]) (by kernel_rfl) (by simp) ?_;refine AllReadyIn.cons rfl (fun K hK=>?_) AllReadyIn.nil;go_simp;refine hK _ _ ?_;clear hK K;refine wpAnyIn_ready (rs:=[2]) (by kernel_rfl) (by simp) ?_;refine AllReadyIn.cons rfl (fun K hK=>?_) AllReadyIn.nil;go_simp;refine⟨trivial,?_⟩
   gi_at_call 130
   refine(CallsIn.inRound l (callsIn_wide.2 f1.out)).mono ?_;rintro e w1 ⟨rfl,hb1⟩;refine hK _ _ ?_;clear hK K;have bx1:Boxed w1 w.heap.size 31 v:=(hb1.block _ hv1.lt).trans hv1;have hc1:=bx1.cell;have hc1a:=(bx1.alloc (.cells #[.string ⟨tm.bytes.toArray⟩] 9)).cell;refine wpAnyIn_ready (rs:=[3]) (by kernel_rfl) (by simp) ?_;refine AllReadyIn.cons rfl (fun K hK=>?_) AllReadyIn.nil;go_simp;refine hK _ _ ?_;clear hK K;have row1:w1.ownsRow w.heap.size 9 1 v pre.length (pre.map fun x=>sv x.1.1.bytes):=zA (w:=W.drew) hrow hb1;have hz1:w.heap.size<=w1.heap.size:=Nat.le_trans hBd.size hb1.size;refine wpAnyIn_ready (rs:=[4]) (by kernel_rfl) (by simp) ?_;refine AllReadyIn.cons rfl (fun K hK=>?_) AllReadyIn.nil;rw[iP (by rfl)];refine jS _ _ _ 31 rfl w.heap.size 9 i0 (.string ⟨#[]⟩) 1 16 Tryz.underlying31 hi hz0 hz1' hz2 rfl (by decide) v pre.length _ rfl (row1.alloc _) ⟨w1.heap.size,0,none⟩ 1 1 [.string ⟨tm.bytes.toArray⟩] rfl rfl (yI _ _ _) (by simp[Value.oneCell']) (by simp only[maxLen];omega) (by omega) (by simp;omega) ?_;intro v' w' r1 r2;refine hK _ _ ?_;clear hK K;obtain⟨p1,p2,p3,p4,p5⟩:=bx1.appended (by decide) row1 hz1 (nR _) r1 r2;have hc2:=p1.cell;have hf2:=p1.frozen;obtain⟨va,vc,rfl⟩:=zP r1;refine wpAnyIn_ready (rs:=[5]) (by kernel_rfl) (by simp) ?_;refine AllReadyIn.cons rfl (fun K hK=>?_) AllReadyIn.nil;go_simp;refine hK _ _ ?_;clear hK K;refine wpAnyIn_done (by kernel_rfl) ?_ _;have hb1W:Below W.heap.size W w1:=((bR W.heap.size W).drew).trans hb1
   refine⟨((KeepsOthers.of_grownBy (zC hb1W none) (fun j o e=>by cases e)).trans p4).from _,(hb1W.mono hB.size).trans p5,⟨_,p2,?_,trivial⟩,(bu hB hb1W).trans p5⟩;rw[lA,List.map_append];exact p3
  ·go_simp;refine hK _ _ ?_;clear hK K;refine wpAnyIn_ready (rs:=[0,2]) (by kernel_rfl) (by simp) ?_;refine AllReadyIn.cons rfl (fun K hK=>?_) (AllReadyIn.cons rfl (fun K hK=>?_) AllReadyIn.nil)
   ·go_simp;refine hK _ _ ?_;clear hK K;refine wpAnyIn_ready (rs:=[2]) (by kernel_rfl) (by simp) ?_;refine AllReadyIn.cons rfl (fun K hK=>?_) AllReadyIn.nil;go_simp;refine⟨trivial,?_⟩
    gi_at_call 130
    refine(CallsIn.inRound l (callsIn_wide.2 f1.out)).mono ?_;rintro e w1 ⟨rfl,hb1⟩;refine hK _ _ ?_;clear hK K;have bx1:Boxed w1 w.heap.size 31 v:=(hb1.block _ hv1.lt).trans hv1;have hc1:=bx1.cell;have hc1a:=(bx1.alloc (.cells #[.string ⟨tm.bytes.toArray⟩] 9)).cell;refine wpAnyIn_ready (rs:=[3]) (by kernel_rfl) (by simp) ?_;refine AllReadyIn.cons rfl (fun K hK=>?_) AllReadyIn.nil;go_simp;refine hK _ _ ?_;clear hK K;have row1:w1.ownsRow w.heap.size 9 1 v pre.length (pre.map fun x=>sv x.1.1.bytes):=zA (w:=W.drew) hrow hb1;have hz1:w.heap.size<=w1.heap.size:=Nat.le_trans hBd.size hb1.size;refine wpAnyIn_ready (rs:=[4]) (by kernel_rfl) (by simp) ?_;refine AllReadyIn.cons rfl (fun K hK=>?_) AllReadyIn.nil;rw[iP (by rfl)];refine jS _ _ _ 31 rfl w.heap.size 9 i0 (.string ⟨#[]⟩) 1 16 Tryz.underlying31 hi hz0 hz1' hz2 rfl (by decide) v pre.length _ rfl (row1.alloc _) ⟨w1.heap.size,0,none⟩ 1 1 [.string ⟨tm.bytes.toArray⟩] rfl rfl (yI _ _ _) (by simp[Value.oneCell']) (by simp only[maxLen];omega) (by omega) (by simp;omega) ?_;intro v' w' r1 r2;refine hK _ _ ?_;clear hK K;obtain⟨p1,p2,p3,p4,p5⟩:=bx1.appended (by decide) row1 hz1 (nR _) r1 r2;have hc2:=p1.cell;have hf2:=p1.frozen;obtain⟨va,vc,rfl⟩:=zP r1;refine wpAnyIn_ready (rs:=[5]) (by kernel_rfl) (by simp) ?_;refine AllReadyIn.cons rfl (fun K hK=>?_) AllReadyIn.nil;go_simp;refine hK _ _ ?_;clear hK K;refine wpAnyIn_done (by kernel_rfl) ?_ _;have hb1W:Below W.heap.size W w1:=((bR W.heap.size W).drew).trans hb1
    refine⟨((KeepsOthers.of_grownBy (zC hb1W none) (fun j o e=>by cases e)).trans p4).from _,(hb1W.mono hB.size).trans p5,⟨_,p2,?_,trivial⟩,(bu hB hb1W).trans p5⟩;rw[lA,List.map_append];exact p3
   ·go_simp;refine⟨trivial,?_⟩
    gi_at_call 130
    refine(CallsIn.inRound l (callsIn_wide.2 f1.out)).mono ?_;rintro e w1 ⟨rfl,hb1⟩;refine hK _ _ ?_;clear hK K;have bx1:Boxed w1 w.heap.size 31 v:=(hb1.block _ hv1.lt).trans hv1;have hc1:=bx1.cell;have hc1a:=(bx1.alloc (.cells #[.string ⟨tm.bytes.toArray⟩] 9)).cell;refine wpAnyIn_ready (rs:=[0,3]) (by kernel_rfl) (by simp) ?_;refine AllReadyIn.cons rfl (fun K hK=>?_) (AllReadyIn.cons rfl (fun K hK=>?_) AllReadyIn.nil)
    ·go_simp;refine hK _ _ ?_;clear hK K;refine wpAnyIn_ready (rs:=[3]) (by kernel_rfl) (by simp) ?_;refine AllReadyIn.cons rfl (fun K hK=>?_) AllReadyIn.nil;go_simp;refine hK _ _ ?_;clear hK K;have row1:w1.ownsRow w.heap.size 9 1 v pre.length (pre.map fun x=>sv x.1.1.bytes):=zA (w:=W.drew) hrow hb1;have hz1:w.heap.size<=w1.heap.size:=Nat.le_trans hBd.size hb1.size;refine wpAnyIn_ready (rs:=[4]) (by kernel_rfl) (by simp) ?_;refine AllReadyIn.cons rfl (fun K hK=>?_) AllReadyIn.nil;rw[iP (by rfl)];refine jS _ _ _ 31 rfl w.heap.size 9 i0 (.string ⟨#[]⟩) 1 16 Tryz.underlying31 hi hz0 hz1' hz2 rfl (by decide) v pre.length _ rfl (row1.alloc _) ⟨w1.heap.size,0,none⟩ 1 1 [.string ⟨tm.bytes.toArray⟩] rfl rfl (yI _ _ _) (by simp[Value.oneCell']) (by simp only[maxLen];omega) (by omega) (by simp;omega) ?_;intro v' w' r1 r2;refine hK _ _ ?_;clear hK K;obtain⟨p1,p2,p3,p4,p5⟩:=bx1.appended (by decide) row1 hz1 (nR _) r1 r2;have hc2:=p1.cell;have hf2:=p1.frozen;obtain⟨va,vc,rfl⟩:=zP r1;refine wpAnyIn_ready (rs:=[5]) (by kernel_rfl) (by simp) ?_;refine AllReadyIn.cons rfl (fun K hK=>?_) AllReadyIn.nil;go_simp;refine hK _ _ ?_;clear hK K;refine wpAnyIn_done (by kernel_rfl) ?_ _;have hb1W:Below W.heap.size W w1:=((bR W.heap.size W).drew).trans hb1;refine⟨((KeepsOthers.of_grownBy (zC hb1W none) (fun j o e=>by cases e)).trans p4).from _,(hb1W.mono hB.size).trans p5,⟨_,p2,?_,trivial⟩,(bu hB hb1W).trans p5⟩;rw[lA,List.map_append];exact p3
    ·go_simp;refine hK _ _ ?_;clear hK K;refine wpAnyIn_ready (rs:=[0]) (by kernel_rfl) (by simp) ?_;refine AllReadyIn.cons rfl (fun K hK=>?_) AllReadyIn.nil;go_simp;refine hK _ _ ?_;clear hK K;have row1:w1.ownsRow w.heap.size 9 1 v pre.length (pre.map fun x=>sv x.1.1.bytes):=zA (w:=W.drew) hrow hb1;have hz1:w.heap.size<=w1.heap.size:=Nat.le_trans hBd.size hb1.size;refine wpAnyIn_ready (rs:=[4]) (by kernel_rfl) (by simp) ?_;refine AllReadyIn.cons rfl (fun K hK=>?_) AllReadyIn.nil;rw[iP (by rfl)];refine jS _ _ _ 31 rfl w.heap.size 9 i0 (.string ⟨#[]⟩) 1 16 Tryz.underlying31 hi hz0 hz1' hz2 rfl (by decide) v pre.length _ rfl (row1.alloc _) ⟨w1.heap.size,0,none⟩ 1 1 [.string ⟨tm.bytes.toArray⟩] rfl rfl (yI _ _ _) (by simp[Value.oneCell']) (by simp only[maxLen];omega) (by omega) (by simp;omega) ?_;intro v' w' r1 r2;refine hK _ _ ?_;clear hK K;obtain⟨p1,p2,p3,p4,p5⟩:=bx1.appended (by decide) row1 hz1 (nR _) r1 r2;have hc2:=p1.cell;have hf2:=p1.frozen;obtain⟨va,vc,rfl⟩:=zP r1;refine wpAnyIn_ready (rs:=[5]) (by kernel_rfl) (by simp) ?_;refine AllReadyIn.cons rfl (fun K hK=>?_) AllReadyIn.nil;go_simp;refine hK _ _ ?_;clear hK K;refine wpAnyIn_done (by kernel_rfl) ?_ _;have hb1W:Below W.heap.size W w1:=((bR W.heap.size W).drew).trans hb1;refine⟨((KeepsOthers.of_grownBy (zC hb1W none) (fun j o e=>by cases e)).trans p4).from _,(hb1W.mono hB.size).trans p5,⟨_,p2,?_,trivial⟩,(bu hB hb1W).trans p5⟩;rw[lA,List.map_append];exact p3
 case done =>
  rintro D ys W hD hys ⟨⟨v,hv1,hrow,-⟩,hB⟩ hK;have hc:=hv1.cell
  gi_wp2
  refine⟨by simp,.inl ⟨_,_,rfl,run_takeDeferred hK,?_⟩⟩;refine⟨_,results_tmp rfl _ _ _,v,rfl,?_,hB.trans (belowK_b (w:=w) (nR _) W D _ _ (by simp at hD;omega) hK rfl rfl)⟩;have h1:=ownsRow_putObj hrow (.deferred none) hK rfl;rw[List.length_map,← hys,aL,List.map_map,nN,List.map_map];exact h1
 case stop =>
  rintro D c pre W _ _ h _;exact h.elim
theorem zN7(s:ByteArray)(W:World)(hv:Vars W)(hs:s.size<=maxLen) :
  Calls Tryz.prog 241 #[.string s] W (oS (zJ s.data.toList) W):=by
 have f1:=Ld (xH s W hv hs);have hn:=vP s.data.toList;have HV:=Ld hv;clear hv hs;go_enter Tryz.func241,Tryz.ntmps241;go_wp2_with fail;(with_reducible refine f1.out.mono ?_);rintro e W1 ⟨hb,⟨t,v,ht,rfl,hr⟩|⟨hno,rfl⟩⟩;rotate_left
 ·have HE:Hid (zJ s.data.toList=[]):=(by rw[Hid,zJ,yR hno]);have HB:=Ld hb;clear hno hb f1 hn;go_wp2;go_ret;rw[HE.out];exact⟨_,rfl,World.ownsRow_nil _ _ _ _,HB.out⟩
 have HE:Hid (zJ s.data.toList=t.doms.map Tm.bytes):=by rw[Hid,zJ,zY ht]
 rw[HE.out,List.length_map] at hn;have hle:=ht.2.2;rw[← ht.2.1] at hle;obtain⟨T0,x0,rfl⟩:=hr.iface;have hb2:Below W1.heap.size W1 (W1.alloc (.cells #[.iface T0 x0] 115)):=(bR _ _).alloc (nR _) _;have f2:=Ld (sO T0 x0 W1)
 have f3:=Ld (zM3 227 #[.pointer (some ⟨W1.heap.size,0,none⟩)] t.doms (W1.alloc (.cells #[.iface T0 x0] 115)) ((HV.out.below hb).below hb2) (enters_of Tryz.func227 (by kernel_rfl) rfl) hn
  (fun n hn1=>yJ1 Fence.wide n hn1 trivial rfl W1.heap.size (.iface T0 x0) t _ (by simp) (by simp) (hr.below hb2) ht.1 hle))
 have HB:Hid (Below W.heap.size W (W1.alloc (.cells #[.iface T0 x0] 115))):=hb.trans (hb2.mono hb.size);clear hb hb2 hr ht hle hn f1 HV;generalize t.doms.map Tm.bytes=lt at f3 HE;go_wp2_with fail;(with_reducible refine mo f2.out ?_);rintro w2 rfl;clear f2;generalize W1.alloc (.cells #[.iface T0 x0] 115)=w2 at f3 HB;go_wp2_with fail;(with_reducible refine f3.out.mono ?_);rintro e w3 ⟨u,rfl,hu,hb3⟩;have HO:Hid (w3.ownsRow W.heap.size 9 1 u (zJ s.data.toList).length ((zJ s.data.toList).map sv)):=by
  rw[Hid,HE.out];exact iO hu HB.out.size
 have HB3:=bt HB.out hb3;obtain⟨ua,uc,rfl⟩:=zP hu;clear hu hb3 f3;go_wp2;go_ret;exact⟨_,rfl,HO.out,HB3.out⟩
end Go.Proofs.YtcaahdjhbmmcnaaGreatDoor
namespace Go.Proofs.YtcaahdjhbmmcnaaGreatDoor
open Go.ChangeShapes Go.WideShapes Go.ChangeAt Go.RowKit
def yM3 (W0:World) (t:Tm) (W:World) (e:Ending) (W':World):Prop :=
 ∃ v vs,e=.returned v/\W'.ownsRow W.heap.size 115 1 v t.parts.length vs/\xX W0 t.parts vs/\Below W.heap.size W W'
theorem zM8{W0:World}{t:Tm}{v:Value}{W:World}(h:yG W0 t v)(hB:Below W0.heap.size W0 W):Calls Tryz.prog 200 #[v] W (yM3 W0 t W):=by
 cases t with
|var n =>
  obtain⟨g,rfl,hg⟩:=h;clear hg hB;have aApp:∀ v w,(Instr.typeAssert (.iface 202 v) 115 212 true).run Tryz.prog w=.ok (.tuple #[.pointer none,.bool false]) w:=fun v w=>by rw[qF,iN (by decide)]
  have aLam:∀ v w,(Instr.typeAssert (.iface 202 v) 115 215 true).run Tryz.prog w=.ok (.tuple #[.pointer none,.bool false]) w:=fun v w=>by rw[pV,iN (by decide)]
  have aPi:∀ v w,(Instr.typeAssert (.iface 202 v) 115 218 true).run Tryz.prog w=.ok (.tuple #[.pointer none,.bool false]) w:=fun v w=>by rw[jX,iN (by decide)]
  have aLet:∀ v w,(Instr.typeAssert (.iface 202 v) 115 221 true).run Tryz.prog w=.ok (.tuple #[.pointer none,.bool false]) w:=fun v w=>by rw[jY,iN (by decide)]
  go_enter Tryz.func200,Tryz.ntmps200;go_wp2;go_ret;exact⟨_,[],rfl,World.ownsRow_nil _ _ _ _,trivial,bR _ _⟩
|sort n =>
  obtain⟨g,rfl,hg⟩:=h;clear hg hB;have aApp:∀ v w,(Instr.typeAssert (.iface 120 v) 115 212 true).run Tryz.prog w=.ok (.tuple #[.pointer none,.bool false]) w:=fun v w=>by rw[qF,iN (by decide)]
  have aLam:∀ v w,(Instr.typeAssert (.iface 120 v) 115 215 true).run Tryz.prog w=.ok (.tuple #[.pointer none,.bool false]) w:=fun v w=>by rw[pV,iN (by decide)]
  have aPi:∀ v w,(Instr.typeAssert (.iface 120 v) 115 218 true).run Tryz.prog w=.ok (.tuple #[.pointer none,.bool false]) w:=fun v w=>by rw[jX,iN (by decide)]
  have aLet:∀ v w,(Instr.typeAssert (.iface 120 v) 115 221 true).run Tryz.prog w=.ok (.tuple #[.pointer none,.bool false]) w:=fun v w=>by rw[jY,iN (by decide)]
  go_enter Tryz.func200,Tryz.ntmps200;go_wp2;go_ret;exact⟨_,[],rfl,World.ownsRow_nil _ _ _ _,trivial,bR _ _⟩
|const n ls =>
  obtain⟨g,u,rfl,hg,hu⟩:=h;clear hu hg hB;have aApp:∀ v w,(Instr.typeAssert (.iface 124 v) 115 212 true).run Tryz.prog w=.ok (.tuple #[.pointer none,.bool false]) w:=fun v w=>by rw[qF,iN (by decide)]
  have aLam:∀ v w,(Instr.typeAssert (.iface 124 v) 115 215 true).run Tryz.prog w=.ok (.tuple #[.pointer none,.bool false]) w:=fun v w=>by rw[pV,iN (by decide)]
  have aPi:∀ v w,(Instr.typeAssert (.iface 124 v) 115 218 true).run Tryz.prog w=.ok (.tuple #[.pointer none,.bool false]) w:=fun v w=>by rw[jX,iN (by decide)]
  have aLet:∀ v w,(Instr.typeAssert (.iface 124 v) 115 221 true).run Tryz.prog w=.ok (.tuple #[.pointer none,.bool false]) w:=fun v w=>by rw[jY,iN (by decide)]
  go_enter Tryz.func200,Tryz.ntmps200;go_wp2;go_ret;exact⟨_,[],rfl,World.ownsRow_nil _ _ _ _,trivial,bR _ _⟩
|app a b =>
  obtain⟨g,x,y,rfl,hg,hx,hy⟩:=h;have HX:=Ld hx;have HY:=Ld hy;obtain⟨T0,x0,rfl⟩:=hx.iface;obtain⟨T1,y0,rfl⟩:=hy.iface;have c0:W.cell? ⟨g,0,none⟩=some (.iface T0 x0):=(hB.cell (p:=⟨g,0,none⟩) (Array.getElem?_eq_some_iff.1 hg).1).trans (by rw[Lib.cell_of_heap hg];rfl);have c1:W.cell? ⟨g,1,none⟩=some (.iface T1 y0):=(hB.cell (p:=⟨g,1,none⟩) (Array.getElem?_eq_some_iff.1 hg).1).trans (by rw[Lib.cell_of_heap hg];rfl);clear hx hy hg hB;have aApp:∀ v w,(Instr.typeAssert (.iface 212 v) 115 212 true).run Tryz.prog w=.ok (.tuple #[v,.bool true]) w:=fun v w=>by rw[qF,iP rfl]
  go_enter Tryz.func200,Tryz.ntmps200;go_wp2;go_region
  all_goals
   go_wp2;go_ret;have hb2:=(zH (bR W.heap.size W) 1).alloc (nR _) (.cells #[.iface T0 x0,.iface T1 y0] 115);have hrow:=World.ownsRow_lit (size:=1) (base:=W.heap.size) (e:=115) (W.drewN 1) #[.iface T0 x0,.iface T1 y0] 2 (nR _) (by decide) (by simp);exact⟨_,[.iface T0 x0,.iface T1 y0],rfl,hrow,⟨HX.out,HY.out,trivial⟩,hb2⟩
|lam a b =>
  obtain⟨g,x,y,rfl,hg,hx,hy⟩:=h;have HX:=Ld hx;have HY:=Ld hy;obtain⟨T0,x0,rfl⟩:=hx.iface;obtain⟨T1,y0,rfl⟩:=hy.iface;have c0:W.cell? ⟨g,0,none⟩=some (.iface T0 x0):=(hB.cell (p:=⟨g,0,none⟩) (Array.getElem?_eq_some_iff.1 hg).1).trans (by rw[Lib.cell_of_heap hg];rfl);have c1:W.cell? ⟨g,1,none⟩=some (.iface T1 y0):=(hB.cell (p:=⟨g,1,none⟩) (Array.getElem?_eq_some_iff.1 hg).1).trans (by rw[Lib.cell_of_heap hg];rfl);clear hx hy hg hB;have aApp:∀ v w,(Instr.typeAssert (.iface 215 v) 115 212 true).run Tryz.prog w=.ok (.tuple #[.pointer none,.bool false]) w:=fun v w=>by rw[qF,iN (by decide)]
  have aLam:∀ v w,(Instr.typeAssert (.iface 215 v) 115 215 true).run Tryz.prog w=.ok (.tuple #[v,.bool true]) w:=fun v w=>by rw[pV,iP rfl]
  go_enter Tryz.func200,Tryz.ntmps200;go_wp2;go_region
  all_goals
   go_wp2;go_ret;have hb2:=(zH (bR W.heap.size W) 1).alloc (nR _) (.cells #[.iface T0 x0,.iface T1 y0] 115);have hrow:=World.ownsRow_lit (size:=1) (base:=W.heap.size) (e:=115) (W.drewN 1) #[.iface T0 x0,.iface T1 y0] 2 (nR _) (by decide) (by simp);exact⟨_,[.iface T0 x0,.iface T1 y0],rfl,hrow,⟨HX.out,HY.out,trivial⟩,hb2⟩
|pi a b =>
  obtain⟨g,x,y,rfl,hg,hx,hy⟩:=h;have HX:=Ld hx;have HY:=Ld hy;obtain⟨T0,x0,rfl⟩:=hx.iface;obtain⟨T1,y0,rfl⟩:=hy.iface;have c0:W.cell? ⟨g,0,none⟩=some (.iface T0 x0):=(hB.cell (p:=⟨g,0,none⟩) (Array.getElem?_eq_some_iff.1 hg).1).trans (by rw[Lib.cell_of_heap hg];rfl);have c1:W.cell? ⟨g,1,none⟩=some (.iface T1 y0):=(hB.cell (p:=⟨g,1,none⟩) (Array.getElem?_eq_some_iff.1 hg).1).trans (by rw[Lib.cell_of_heap hg];rfl);clear hx hy hg hB;have aApp:∀ v w,(Instr.typeAssert (.iface 218 v) 115 212 true).run Tryz.prog w=.ok (.tuple #[.pointer none,.bool false]) w:=fun v w=>by rw[qF,iN (by decide)]
  have aLam:∀ v w,(Instr.typeAssert (.iface 218 v) 115 215 true).run Tryz.prog w=.ok (.tuple #[.pointer none,.bool false]) w:=fun v w=>by rw[pV,iN (by decide)]
  have aPi:∀ v w,(Instr.typeAssert (.iface 218 v) 115 218 true).run Tryz.prog w=.ok (.tuple #[v,.bool true]) w:=fun v w=>by rw[jX,iP rfl]
  go_enter Tryz.func200,Tryz.ntmps200;go_wp2;go_region
  all_goals
   go_wp2;go_ret;have hb2:=(zH (bR W.heap.size W) 1).alloc (nR _) (.cells #[.iface T0 x0,.iface T1 y0] 115);have hrow:=World.ownsRow_lit (size:=1) (base:=W.heap.size) (e:=115) (W.drewN 1) #[.iface T0 x0,.iface T1 y0] 2 (nR _) (by decide) (by simp);exact⟨_,[.iface T0 x0,.iface T1 y0],rfl,hrow,⟨HX.out,HY.out,trivial⟩,hb2⟩
|lett a b c =>
  obtain⟨g,x,y,z,rfl,hg,hx,hy,hz⟩:=h;have HX:=Ld hx;have HY:=Ld hy;have HZ:=Ld hz;obtain⟨T0,x0,rfl⟩:=hx.iface;obtain⟨T1,y0,rfl⟩:=hy.iface;obtain⟨T2,z0,rfl⟩:=hz.iface;have c0:W.cell? ⟨g,0,none⟩=some (.iface T0 x0):=(hB.cell (p:=⟨g,0,none⟩) (Array.getElem?_eq_some_iff.1 hg).1).trans (by rw[Lib.cell_of_heap hg];rfl);have c1:W.cell? ⟨g,1,none⟩=some (.iface T1 y0):=(hB.cell (p:=⟨g,1,none⟩) (Array.getElem?_eq_some_iff.1 hg).1).trans (by rw[Lib.cell_of_heap hg];rfl);have c2:W.cell? ⟨g,2,none⟩=some (.iface T2 z0):=(hB.cell (p:=⟨g,2,none⟩) (Array.getElem?_eq_some_iff.1 hg).1).trans (by rw[Lib.cell_of_heap hg];rfl);clear hx hy hz hg hB;have aApp:∀ v w,(Instr.typeAssert (.iface 221 v) 115 212 true).run Tryz.prog w=.ok (.tuple #[.pointer none,.bool false]) w:=fun v w=>by rw[qF,iN (by decide)]
  have aLam:∀ v w,(Instr.typeAssert (.iface 221 v) 115 215 true).run Tryz.prog w=.ok (.tuple #[.pointer none,.bool false]) w:=fun v w=>by rw[pV,iN (by decide)]
  have aPi:∀ v w,(Instr.typeAssert (.iface 221 v) 115 218 true).run Tryz.prog w=.ok (.tuple #[.pointer none,.bool false]) w:=fun v w=>by rw[jX,iN (by decide)]
  have aLet:∀ v w,(Instr.typeAssert (.iface 221 v) 115 221 true).run Tryz.prog w=.ok (.tuple #[v,.bool true]) w:=fun v w=>by rw[jY,iP rfl]
  go_enter Tryz.func200,Tryz.ntmps200;go_wp2;go_region
  all_goals
   go_wp2;go_ret;have hb2:=(zH (bR W.heap.size W) 1).alloc (nR _) (.cells #[.iface T0 x0,.iface T1 y0,.iface T2 z0] 115);have hrow:=World.ownsRow_lit (size:=1) (base:=W.heap.size) (e:=115) (W.drewN 1) #[.iface T0 x0,.iface T1 y0,.iface T2 z0] 3 (nR _) (by decide) (by simp);exact⟨_,[.iface T0 x0,.iface T1 y0,.iface T2 z0],rfl,hrow,⟨HX.out,HY.out,HZ.out,trivial⟩,hb2⟩
theorem yE3(t:Tm):t.parts.length<=3:=by cases t<;>simp[Tm.parts]
theorem zP8{W:World}{u:Tm}{v:Value}(h:yG W u v)(hk:u.kind≠99)(w:World):(Instr.typeAssert v 115 124 true).run Tryz.prog w=.ok (.tuple #[.pointer none,.bool false]) w:=by
 cases u with
|const n ls=>exact absurd rfl hk
|var n=>obtain⟨g',rfl,_⟩:=h;rw[sW,iN (by decide)]
|sort n=>obtain⟨g',rfl,_⟩:=h;rw[sW,iN (by decide)]
|app f a=>obtain⟨g',x',y',rfl,_⟩:=h;rw[sW,iN (by decide)]
|lam f a=>obtain⟨g',x',y',rfl,_⟩:=h;rw[sW,iN (by decide)]
|pi f a=>obtain⟨g',x',y',rfl,_⟩:=h;rw[sW,iN (by decide)]
|lett f a b=>obtain⟨g',x',y',z',rfl,_⟩:=h;rw[sW,iN (by decide)]
theorem zL2{t:Tm}(h:t.kind≠99):t.parts.flatMap Tm.cnames=t.cnames:=by
 cases t with
|const n ls=>exact absurd rfl h
|_=>simp[Tm.parts,Tm.cnames]
theorem zW5:∀ (t:Tm),∀ p∈t.parts,p.size<t.size
|.var _,p,h=>by simp[Tm.parts] at h
|.sort _,p,h=>by simp[Tm.parts] at h
|.const _ _,p,h=>by simp[Tm.parts] at h
|.app a b,p,h=>by
  have:=a.size_pos;have:=b.size_pos;simp only[Tm.parts,List.mem_cons,List.not_mem_nil,or_false] at h;rcases h with rfl|rfl<;>simp only[Tm.size]<;>omega
|.lam a b,p,h=>by
  have:=a.size_pos;have:=b.size_pos;simp only[Tm.parts,List.mem_cons,List.not_mem_nil,or_false] at h;rcases h with rfl|rfl<;>simp only[Tm.size]<;>omega
|.pi a b,p,h=>by
  have:=a.size_pos;have:=b.size_pos;simp only[Tm.parts,List.mem_cons,List.not_mem_nil,or_false] at h;rcases h with rfl|rfl<;>simp only[Tm.size]<;>omega
|.lett a b c,p,h=>by
  have:=a.size_pos;have:=b.size_pos;have:=c.size_pos;simp only[Tm.parts,List.mem_cons,List.not_mem_nil,or_false] at h;rcases h with rfl|rfl|rfl<;>simp only[Tm.size]<;>omega
def pN (W W':World):Prop:=∀ {b:Nat} {e:TypeId} {z n:Nat} {v:Value} {xs:List Value},e≠9->W.ownsRow b e z v n xs->W'.ownsRow b e z v n xs
theorem pN.below{W W':World}(h:Below W.heap.size W W'):pN W W':=fun _ k=>zA k h
theorem pN.trans{A B C:World}(h:pN A B)(k:pN B C):pN A C:=fun he r=>k he (h he r)
theorem pN.grown{W W':World}{b n:Nat}{v:Value}{xs:List Value}(h:W.ownsRow b 9 1 v n xs)(hg:W.grownBy W' v.ownBlock):pN W W':=fun he r=>sZ r h he hg
def zQ3 (B:Nat) (l:List (List UInt8)) (W:World) (e:Ending) (W':World):Prop :=
 ∃ u,e=.returned u/\W'.ownsRow B 9 1 u l.length (l.map sv)/\Below B W W'/\pN W W'
theorem eH{W0:World}:∀ (N:Nat) (T:Tm),T.size<=N->∀ (v u:Value) (W:World) (l:List (List UInt8)),yG W0 T v->Below W0.heap.size W0 W->W.ownsRow W0.heap.size 9 1 u l.length (l.map sv)->l.length+T.cnames.length<=100000 ->
  Calls Tryz.prog 302 #[u,v] W (zQ3 W0.heap.size (l++T.cnames) W):=by
 obtain⟨i0,hi,hz0,hz1,hz2⟩:=info_parts rZ;intro N
 induction N with
|zero=>intro T hT;have:=T.size_pos;omega
|succ N ih =>
  intro T hT v u W l hr hB hu hlen;obtain⟨ua,uc,rfl⟩:=zP hu;by_cases hk:T.kind=99
  ·obtain⟨n,ls,rfl⟩:=kB hk;obtain⟨g,uu,rfl,hg,_⟩:=hr;have c0:W.cell? ⟨g,0,none⟩=some (.string ⟨n.toArray⟩):=(hB.cell (p:=⟨g,0,none⟩) (Array.getElem?_eq_some_iff.1 hg).1).trans (by rw[Lib.cell_of_heap hg];rfl);have tC:=(sW 124 (.pointer (some ⟨g,0,none⟩)) W).trans (by rw[iP rfl]);have hz:=hB.size;simp only[Tm.cnames,lC,List.length_nil] at hlen;have HU:=Ld hu;clear ih hg hk hT;go_enter Tryz.func302,Tryz.ntmps302;go_wp2_with (at_builtin;refine wpList_append_own _ rfl _ _ 31 rfl W0.heap.size 9 i0 _ 1 16 Tryz.underlying31 hi hz0 hz1 hz2 rfl (by decide) _ _ _ rfl (HU.out.alloc _) ⟨W.heap.size,0,none⟩ 1 1 [.string ⟨n.toArray⟩] rfl rfl (yI _ _ _) (by simp[Value.oneCell']) (by simp only[maxLen];omega) (by omega) (by simp;omega) ?_;intro v2 w2 hown2 hgrow hnil2);have HB2:Hid (Below W0.heap.size W w2):=((bR _ W).alloc hz _).grown hgrow (by simp;omega) (fun q hq=>(HU.out.lt q hq).1);have HO2:Hid (w2.ownsRow W0.heap.size 9 1 v2 (l++[n]).length ((l++[n]).map sv)):=by
    rw[Hid,lA,List.map_append];exact hown2
   have HK2:Hid (∀ {b:Nat} {e:TypeId} {z n:Nat} {v:Value} {xs:List Value},e≠9->W.ownsRow b e z v n xs->w2.ownsRow b e z v n xs):=pN.trans (pN.below ((bR _ _).alloc (nR _) _)) (pN.grown (HU.out.alloc _) hgrow);clear hown2 hgrow hu;go_wp2;go_ret;exact⟨_,rfl,HO2.out,HB2.out,HK2.out⟩
  ·have tC:=zP8 hr hk W;have f1:=Ld (zM8 hr hB);unfold yM3 at f1;have HE:=Ld (zL2 hk);have HL:=Ld (zW5 T);have HU:=Ld hu;have HB:=Ld hB;have hps:=yE3 T;have hcl:(T.parts.flatMap Tm.cnames).length=T.cnames.length:=(by rw[HE.out]);obtain⟨T0,x0,rfl⟩:=hr.iface;generalize T.parts=ps at f1 HE HL hps hcl;have hl2:l.length+(ps.flatMap Tm.cnames).length<=100000:=(by omega);clear hr hk hB hu hcl;go_enter Tryz.func302,Tryz.ntmps302;go_wp2_with fail;(with_reducible refine f1.out.mono ?_);rintro e w2 ⟨pv,vs,rfl,hpv,hvs,hb2⟩;obtain⟨pa,pc,rfl⟩:=zP hpv;have hvl:=hvs.len;have hv1:vs.length<=ps.length:=(by omega);have hv2:ps.length<=vs.length:=(by omega);have HPV:=Ld hpv;have HVS:=Ld hvs;have HU2:=Ld (zA HU.out hb2);have HB2:Hid (Below W0.heap.size W w2):=hb2.mono HB.out.size;have HK2:Hid (pN W w2):=pN.below hb2;clear hpv hvs hvl hb2 f1 HU;go_wp2;go_loopw [0,25] (fun o i wr=>∃ (k:Nat) (oo:Value),k<=ps.length/\i=.int .i64 k/\oo=o/\Hid (wr.ownsRow W0.heap.size 9 1 oo (l++(ps.take k).flatMap Tm.cnames).length ((l++(ps.take k).flatMap Tm.cnames).map sv))/\Hid (Below W0.heap.size W wr/\pN w2 wr)) (fun _ i _=>ps.length - (intOf i).toNat)
   case atStart=>exact⟨0,_,Nat.zero_le _,rfl,rfl,by simpa [Hid] using HU2.out,HB2.out,pN.below (bR _ _)⟩
   case round =>
    obtain⟨k,oo,hk,rfl,rfl,HO,HW⟩:=hrel;by_cases hlt:k<ps.length
    ·have hu2:=HW.out.2 (by decide) HPV.out;obtain⟨g,cap',e0,_,hgl⟩:=hu2.form (by omega);cases e0;have ex:vs[k]?=some vs[k]:=(by simp);have cc:=(hu2.cellAt k (by omega)).trans ex;have hr:=HVS.out.at k hlt (by omega);obtain⟨T3,x3,e3⟩:=hr.iface;have hbw:Below W0.heap.size W0 wr:=HB.out.trans HW.out.1;have htk:(ps.take (k+1)).flatMap Tm.cnames=(ps.take k).flatMap Tm.cnames++ps[k].cnames:=by
      rw[List.take_succ_eq_append_getElem hlt,List.flatMap_append];simp
     have hle:l.length+((ps.take (k+1)).flatMap Tm.cnames).length<=100000:=by
      have h1:=congrArg List.length (congrArg (List.flatMap Tm.cnames) (List.take_append_drop (k+1) ps));rw[List.flatMap_append,lA] at h1;omega
     have f3:=Ld (ih ps[k] (by have:=HL.out ps[k] (List.getElem_mem hlt);omega) vs[k] oo wr (l++(ps.take k).flatMap Tm.cnames) hr hbw HO.out (by rw[lA];rw[htk,lA] at hle;omega));rw[List.append_assoc,← htk] at f3;unfold zQ3 at f3;rw[e3] at f3 cc;obtain⟨oa,oc,rfl⟩:=zP HO.out;have q1:=zn k;have q2:(k:Int)<(ps.length:Int):=(by omega);clear ex hu2 hr hbw htk hle e3;generalize (l++(ps.take k).flatMap Tm.cnames).length=ol at f3 HO;go_wp2_with fail;(with_reducible refine f3.out.mono ?_);rintro e w3 ⟨u3,rfl,ho3,hb3,hk3⟩;have HO3:=Ld ho3;have HW3:Hid (Below W0.heap.size W w3/\pN w2 w3):=⟨HW.out.1.trans hb3,pN.trans HW.out.2 hk3⟩;clear ho3 hb3 hk3 f3;go_wp2;go_roundw
     case rel=>exact⟨k+1,_,by omega,by go_num,rfl,HO3.out,HW3.out⟩
     case measure=>simp[intOf];omega
    ·obtain rfl:k=ps.length:=(by omega);have HO2:Hid (wr.ownsRow W0.heap.size 9 1 oo (l++T.cnames).length ((l++T.cnames).map sv)):=by
      have h1:=HO.out;rw[List.take_length,HE.out] at h1;exact h1
     clear HO;go_wp2;go_ret;exact⟨_,rfl,HO2.out,HW.out.1,pN.trans HK2.out HW.out.2⟩
theorem xA1(l:List (List UInt8))(y:List UInt8):xJ2 (xI6 l) y=xJ2 l y:=by
 unfold xJ2;exact decide_eq_decide.2 ((mG l.length l (nR _)).2.1 y)
theorem kX{T:Tm}{v:Value}{W:World}(hr:yG W T v)(hc:T.cnames.length<=100000)(y:ByteArray) :
  Rt 298 #[v,.string y] W (.bool (xJ2 T.cnames y.data.toList)):=by
 have f1:=Ld (eH T.size T (nR _) v (.slice none 0 0) W [] hr (bR _ _) (World.ownsRow_nil _ _ _ _) (by simp only[List.length_nil];omega));rw[List.nil_append] at f1;unfold zQ3 at f1;obtain⟨T0,x0,rfl⟩:=hr.iface;clear hr;generalize T.cnames=l at f1 hc;go_enter Tryz.func298,Tryz.ntmps298;go_wp2_with fail;(with_reducible refine f1.out.mono ?_);rintro e w1 ⟨u,rfl,hu,hb,-⟩;have f2:=Ld (dG hu y.data.toList (by omega));obtain⟨ua,uc,rfl⟩:=zP hu;have HB:=Ld hb;clear f1 hu hb;obtain⟨r,hr⟩:∃ r,xJ2 l y.data.toList=r:=⟨_,rfl⟩;rw[hr] at f2;have HR:=Ld hr;clear hr;rw[show (⟨y.data.toList.toArray⟩:ByteArray)=y from rfl] at f2;go_wp2_with fail;(with_reducible refine mo f2.out ?_);rintro w2 rfl;go_wp2;go_ret;rw[HR.out];exact⟨rfl,HB.out⟩
theorem gB{t:Tm}{v:Value}{W:World}(h:yG W t v) :
  Calls Tryz.prog 243 #[v] W fun e W'=>W'=W/\∃ v',e=.returned v'/\yG W t.targ v':=by
 have HT:=Ld h;clear h;go_enter Tryz.func243,Tryz.ntmps243;go_wp2;go_loopw [0] (fun o wr=>∃ (u:Tm) (oo:Value),oo=o/\wr=W/\Hid (yG W u oo/\u.targ=t.targ)) (fun o _=>xI9 W o)
 case atStart=>exact⟨t,_,rfl,rfl,⟨HT.out,rfl⟩⟩
 case round =>
  obtain⟨u,oo,rfl,rfl,HU⟩:=hrel;clear HT;by_cases hk:u.kind=112
  ·obtain⟨p,q,rfl⟩:=hJ hk;obtain⟨h1,h2⟩:=HU.out;obtain⟨g,x,y,rfl,hg,hx,hy⟩:=id h1;have HM:=Ld (yF4 h1 hg);have HN:Hid (yG wr q y/\q.targ=t.targ):=⟨hy,h2⟩;have cc:wr.cell? ⟨g,1,none⟩=some y:=(by rw[Lib.cell_of_heap hg];rfl);have tA:=(jX 218 (.pointer (some ⟨g,0,none⟩)) wr).trans (by rw[iP rfl]);clear HU h1 h2 hg hx hy hk;go_wp2;go_roundw
   case rel=>exact⟨_,_,rfl,trivial,HN⟩
   case measure=>exact HM.out
  ·have tA:=bZ HU.out.1 hk wr;have HR:Hid (yG wr t.targ oo):=(by rw[Hid,← HU.out.2,(zB1 hk).1];exact HU.out.1);clear HU hk;go_wp2;go_ret;exact⟨rfl,_,rfl,HR.out⟩
theorem zY6(s:ByteArray)(W:World)(hv:Vars W)(hs:s.size<=maxLen) :
  Rt 220 #[.string s] W (.string ⟨(yN s.data.toList).toArray⟩):=by
 have f1:=Ld (xH s W hv hs);go_enter Tryz.func220,Tryz.ntmps220;go_wp2_with fail;(with_reducible refine f1.out.mono ?_);rintro e W1 ⟨hb,⟨t,v,ht,rfl,hr⟩|⟨hno,rfl⟩⟩;rotate_left
 ·have HE:Hid (yN s.data.toList=[]):=(by rw[Hid,yN,yR hno]);have HB:=Ld hb;clear hno hb f1;go_wp2;go_ret;rw[HE.out];exact⟨rfl,HB.out⟩
 have HE:Hid (yN s.data.toList=t.targ.bytes):=by rw[Hid,yN,zY ht]
 have hle:=ht.2.2;rw[← ht.2.1] at hle;have HB:=Ld hb;have HV:=Ld (hv.below hb);have f2:=Ld (gB hr);have f3:=Ld fun v' (h:yG W1 t.targ v')=>pG HV.out (Tm.targ_ok ht.1).lim9 h (by have:=t.targ_len;omega);obtain⟨T0,x0,rfl⟩:=hr.iface;clear f1 ht hle hr hb;go_wp2_with fail;(with_reducible refine f2.out.mono ?_);rintro e w2 ⟨rfl,v',rfl,hr2⟩;have f4:=Ld (f3.out v' hr2);obtain⟨T1,x1,rfl⟩:=hr2.iface;clear f2 f3 hr2;go_wp2_with fail;(with_reducible refine mo f4.out fun W3 hb2=>?_);have HB2:=bt HB.out hb2;clear hb2;go_wp2;go_ret;rw[HE.out];exact⟨rfl,HB2.out⟩
end Go.Proofs.YtcaahdjhbmmcnaaGreatDoor
