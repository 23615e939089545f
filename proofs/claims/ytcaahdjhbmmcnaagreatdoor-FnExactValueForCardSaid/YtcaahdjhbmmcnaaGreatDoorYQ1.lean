/- TIE TIF TIG TIH -/
import Derived.Deep.RegionHeld3
import Derived.Test.YtcaahdjhbmmcnaaGreatDoorYP8
import Derived.Test.YtcaahdjhbmmcnaaGreatDoorYP2
import Derived.Test.YtcaahdjhbmmcnaaGreatDoorYE2
set_option maxRecDepth 100000
set_option maxHeartbeats 16000000
set_option linter.unusedSimpArgs false
set_option linter.unusedVariables false
namespace Go.Proofs.YtcaahdjhbmmcnaaGreatDoor
open Go.ChangeShapes Go.WideShapes Go.ChangeAt Go.RowKit
theorem methVar:MethIs 202 322 := ⟨fun n x w=>by kernel_rfl,Go.Proofs.enters_of Tryz.func322 (by kernel_rfl) rfl⟩
theorem methSort:MethIs 120 318 := ⟨fun n x w=>by kernel_rfl,Go.Proofs.enters_of Tryz.func318 (by kernel_rfl) rfl⟩
theorem methApp:MethIs 212 324 := ⟨fun n x w=>by kernel_rfl,Go.Proofs.enters_of Tryz.func324 (by kernel_rfl) rfl⟩
theorem methLam:MethIs 215 327 := ⟨fun n x w=>by kernel_rfl,Go.Proofs.enters_of Tryz.func327 (by kernel_rfl) rfl⟩
theorem methPi:MethIs 218 329 := ⟨fun n x w=>by kernel_rfl,Go.Proofs.enters_of Tryz.func329 (by kernel_rfl) rfl⟩
theorem methLet:MethIs 221 331 := ⟨fun n x w=>by kernel_rfl,Go.Proofs.enters_of Tryz.func331 (by kernel_rfl) rfl⟩
theorem appVar (n:Nat) (hn:n<=9999) {w0 W:World} {g0:Nat} (hg:w0.heap[g0]?=some (.cells #[.int .i64 (n:Int)] 204 (0,0))) {u:Value} {l:List UInt8} (hv:Vars w0) (hb:Below w0.heap.size w0 W)
  (hu:W.ownsRow w0.heap.size 5 1 u l.length (l.map bv)) (hl:l.length+(Tm.var n).bytes.length<=100000000) :
  Calls Tryz.prog 322 #[.pointer (some ⟨g0,0,none⟩),u] W (AppAns w0 W (l ++ (Tm.var n).bytes)):=by
 obtain ⟨i0,hi,hz0,hz1,hz2⟩:=info_parts infoByteT;have HL:Hid (l ++ (Tm.var n).bytes=l ++ [118] ++ Lib.decDigits n ++ [46]):=by simp [Hid,Tm.bytes]
 have hd:(Lib.decDigits n).length<=10:=digits_len (by omega);have hlen:l.length<=100000000:=by omega
 generalize l ++ (Tm.var n).bytes=out at HL;have hB0:=hb;have hz0w:=hb.size;have hK0:=KeepT.refl W;have hu0:=hu;have blk0:=blk_below hg hb;have f1:=Ld fun W1 (h:Below w0.heap.size w0 W1)=>implDecimal (n:Int) W1 (by omega) (by omega) (hv.below h).tab;rw [Lib.itoa_nonneg] at f1;generalize Lib.decDigits n=d at f1 HL hd;clear hl hb hu hv hg;obtain ⟨L0,rfl⟩:∃ x,x=l:=⟨_,rfl⟩;go_enter Tryz.func322,Tryz.ntmps322;go_wp2_with (at_builtin;refine wpList_append_own _ rfl _ _ 97 rfl w0.heap.size 5 i0 _ 1 1 Tryz.underlying97 hi hz0 hz1 hz2 rfl (by decide) _ _ _ rfl (hu0.alloc _) ⟨W.heap.size,0,none⟩ 1 1 [.int .u8 118] rfl rfl (oneNew _ _ _) (by simp [Value.oneCell']) (by simp only [maxLen];omega) (by omega) (by simp;omega) ?_);intro u1 w1 hx1 hg1 _;obtain ⟨L1,hL1⟩:∃ y0,y0=L0 ++ [(118:UInt8)]:=⟨_,rfl⟩;have hl1:L1.length<=L0.length+1:=by rw [hL1];simp
 have hu1:w1.ownsRow w0.heap.size 5 1 u1 L1.length (L1.map bv):=by rw [hL1];simpa [bv] using hx1
 have hB1:=below_row (hB0.alloc hB0.size _) (hu0.alloc _) hg1;have hK1:=keep_row (hK0.alloc _) (hu0.alloc _) hg1;have blkx:=blk_alloc (o':=.cells #[.int .u8 118] 5) blk0;have blk1:=blk_grown hg1 blkx (blk_ne (hu0.alloc _) blkx (by decide));have blky:=trivial;clear blkx blky;have hz1w:=hB1.size;have HL1:=Ld hL1;clear hx1 hg1 hL1 hu0 hB0 hK0 blk0;have c0:w1.cell? ⟨g0,0,none⟩=some (.int .i64 (n:Int)):=by rw [Lib.cell_of_heap blk1];rfl
 clear blk1;go_wp2_with fail;(with_reducible refine mo (f1.out _ hB1) fun w5 hb5=>?_);have hu5:=own_below hu1 hb5;have hB5:=hB1.trans (hb5.mono hB1.size);have hl5:L1.length<=L0.length+1:=hl1;have hz5w:=hB5.size;have hK5:=hK1.below hb5;obtain ⟨L5,rfl⟩:∃ x,x=L1:=⟨_,rfl⟩;clear hb5 hu1 hB1 hK1 c0;go_wp2_with (at_builtin;refine Lib.wpList_append_own_string _ rfl _ _ 97 9 rfl w0.heap.size 5 i0 Tryz.underlying97 Tryz.underlying9 hi hz0 hz1 hz2 _ _ _ rfl hu5 ⟨(d).toArray⟩ rfl (by simp only [maxLen,ByteArray.size,List.size_toArray];omega) (by simp only [ByteArray.size,List.size_toArray];omega) (by omega) ?_);intro u6 w6 hx6 hg6 _;obtain ⟨L6,hL6⟩:∃ y0,y0=L5 ++ d:=⟨_,rfl⟩;have hl6:L6.length<=L5.length+(d).length:=by rw [hL6];simp
 have hu6:w6.ownsRow w0.heap.size 5 1 u6 L6.length (L6.map bv):=by rw [hL6,List.map_append,lA];exact hx6
 have hB6:=below_row hB5 hu5 hg6;have hK6:=keep_row hK5 hu5 hg6;have hz6w:=hB6.size;have HL6:=Ld hL6;clear hx6 hg6 hL6 hu5 hB5 hK5;go_wp2_with (at_builtin;refine wpList_append_own _ rfl _ _ 97 rfl w0.heap.size 5 i0 _ 1 1 Tryz.underlying97 hi hz0 hz1 hz2 rfl (by decide) _ _ _ rfl (hu6.alloc _) ⟨w6.heap.size,0,none⟩ 1 1 [.int .u8 46] rfl rfl (oneNew _ _ _) (by simp [Value.oneCell']) (by simp only [maxLen];omega) (by omega) (by simp;omega) ?_);intro u7 w7 hx7 hg7 _;obtain ⟨L7,hL7⟩:∃ y0,y0=L6 ++ [(46:UInt8)]:=⟨_,rfl⟩;have hl7:L7.length<=L6.length+1:=by rw [hL7];simp
 have hu7:w7.ownsRow w0.heap.size 5 1 u7 L7.length (L7.map bv):=by rw [hL7];simpa [bv] using hx7
 have hB7:=below_row (hB6.alloc hB6.size _) (hu6.alloc _) hg7;have hK7:=keep_row (hK6.alloc _) (hu6.alloc _) hg7;have hz7w:=hB7.size;have HL7:=Ld hL7;clear hx7 hg7 hL7 hu6 hB6 hK6;have HF:Hid (out=L7):=by rw [Hid,HL.out,HL7.out,HL6.out,HL1.out]
 clear HL HL1 HL6 HL7;go_wp2;go_ret;rw [HF.out];exact ⟨_,rfl,hu7,hB7,hK7⟩
theorem appSort (s:List UInt8) {w0 W:World} {g0:Nat} (hg:w0.heap[g0]?=some (.cells #[.string ⟨s.toArray⟩] 123 (0,0))) {u:Value} {l:List UInt8} (hb:Below w0.heap.size w0 W)
  (hu:W.ownsRow w0.heap.size 5 1 u l.length (l.map bv)) (hl:l.length+(Tm.sort s).bytes.length<=100000000) :
  Calls Tryz.prog 318 #[.pointer (some ⟨g0,0,none⟩),u] W (AppAns w0 W (l ++ (Tm.sort s).bytes)):=by
 obtain ⟨i0,hi,hz0,hz1,hz2⟩:=info_parts infoByteT;have HL:Hid (l ++ (Tm.sort s).bytes=l ++ [115] ++ s ++ [46]):=by simp [Hid,Tm.bytes]
 have hlen:l.length+s.length+2<=100000000:=by
  have:(Tm.sort s).bytes.length=s.length+2:=(by simp [Tm.bytes]);omega
 generalize l ++ (Tm.sort s).bytes=out at HL;have hB0:=hb;have hz0w:=hb.size;have hK0:=KeepT.refl W;have hu0:=hu;have blk0:=blk_below hg hb;clear hl hb hu hg;obtain ⟨L0,rfl⟩:∃ x,x=l:=⟨_,rfl⟩;go_enter Tryz.func318,Tryz.ntmps318;go_wp2_with (at_builtin;refine wpList_append_own _ rfl _ _ 97 rfl w0.heap.size 5 i0 _ 1 1 Tryz.underlying97 hi hz0 hz1 hz2 rfl (by decide) _ _ _ rfl (hu0.alloc _) ⟨W.heap.size,0,none⟩ 1 1 [.int .u8 115] rfl rfl (oneNew _ _ _) (by simp [Value.oneCell']) (by simp only [maxLen];omega) (by omega) (by simp;omega) ?_);intro u1 w1 hx1 hg1 _;obtain ⟨L1,hL1⟩:∃ y0,y0=L0 ++ [(115:UInt8)]:=⟨_,rfl⟩;have hl1:L1.length<=L0.length+1:=by rw [hL1];simp
 have hu1:w1.ownsRow w0.heap.size 5 1 u1 L1.length (L1.map bv):=by rw [hL1];simpa [bv] using hx1
 have hB1:=below_row (hB0.alloc hB0.size _) (hu0.alloc _) hg1;have hK1:=keep_row (hK0.alloc _) (hu0.alloc _) hg1;have blkx:=blk_alloc (o':=.cells #[.int .u8 115] 5) blk0;have blk1:=blk_grown hg1 blkx (blk_ne (hu0.alloc _) blkx (by decide));have blky:=trivial;clear blkx blky;have hz1w:=hB1.size;have HL1:=Ld hL1;clear hx1 hg1 hL1 hu0 hB0 hK0 blk0;have c0:w1.cell? ⟨g0,0,none⟩=some (.string ⟨s.toArray⟩):=by rw [Lib.cell_of_heap blk1];rfl
 go_wp2_with (at_builtin;refine Lib.wpList_append_own_string _ rfl _ _ 97 9 rfl w0.heap.size 5 i0 Tryz.underlying97 Tryz.underlying9 hi hz0 hz1 hz2 _ _ _ rfl hu1 ⟨(s).toArray⟩ rfl (by simp only [maxLen,ByteArray.size,List.size_toArray];omega) (by simp only [ByteArray.size,List.size_toArray];omega) (by omega) ?_);intro u2 w2 hx2 hg2 _;obtain ⟨L2,hL2⟩:∃ y0,y0=L1 ++ s:=⟨_,rfl⟩;have hl2:L2.length<=L1.length+(s).length:=by rw [hL2];simp
 have hu2:w2.ownsRow w0.heap.size 5 1 u2 L2.length (L2.map bv):=by rw [hL2,List.map_append,lA];exact hx2
 have hB2:=below_row hB1 hu1 hg2;have hK2:=keep_row hK1 hu1 hg2;have blk2:=blk_grown hg2 blk1 (blk_ne hu1 blk1 (by decide));have hz2w:=hB2.size;have HL2:=Ld hL2;clear hx2 hg2 hL2 hu1 hB1 hK1 blk1;go_wp2_with (at_builtin;refine wpList_append_own _ rfl _ _ 97 rfl w0.heap.size 5 i0 _ 1 1 Tryz.underlying97 hi hz0 hz1 hz2 rfl (by decide) _ _ _ rfl (hu2.alloc _) ⟨w2.heap.size,0,none⟩ 1 1 [.int .u8 46] rfl rfl (oneNew _ _ _) (by simp [Value.oneCell']) (by simp only [maxLen];omega) (by omega) (by simp;omega) ?_);intro u3 w3 hx3 hg3 _;obtain ⟨L3,hL3⟩:∃ y0,y0=L2 ++ [(46:UInt8)]:=⟨_,rfl⟩;have hl3:L3.length<=L2.length+1:=by rw [hL3];simp
 have hu3:w3.ownsRow w0.heap.size 5 1 u3 L3.length (L3.map bv):=by rw [hL3];simpa [bv] using hx3
 have hB3:=below_row (hB2.alloc hB2.size _) (hu2.alloc _) hg3;have hK3:=keep_row (hK2.alloc _) (hu2.alloc _) hg3;have blkx:=blk_alloc (o':=.cells #[.int .u8 46] 5) blk2;have blk3:=blk_grown hg3 blkx (blk_ne (hu2.alloc _) blkx (by decide));have blky:=trivial;clear blkx blky;have hz3w:=hB3.size;have HL3:=Ld hL3;clear hx3 hg3 hL3 hu2 hB2 hK2 blk2;have HF:Hid (out=L3):=by rw [Hid,HL.out,HL3.out,HL2.out,HL1.out]
 clear HL HL1 HL2 HL3 blk3 c0;go_wp2;go_ret;rw [HF.out];exact ⟨_,rfl,hu3,hB3,hK3⟩
def cat (ts:List Tm):List UInt8:=(ts.map Tm.bytes).flatten
theorem cat_append (a b:List Tm):cat (a ++ b)=cat a ++ cat b:=by
 unfold cat;rw [List.map_append,List.flatten_append]
theorem cat_take {ts:List Tm} {k:Nat} (h:k < ts.length):cat (ts.take (k+1))=cat (ts.take k) ++ ts[k].bytes:=by
 rw [List.take_succ_eq_append_getElem h,cat_append];simp [cat]
theorem cat_take_le (ts:List Tm) (k:Nat):(cat (ts.take k)).length<=(cat ts).length:=by
 have h:=congrArg List.length (cat_append (ts.take k) (ts.drop k));rw [List.take_append_drop,lA] at h;omega
def AppOk (w0:World) (t:Tm) (v:Value):Prop :=
 ∃ T x fn,v=.iface T x/\MethIs T fn/\∀ (W:World) (u:Value) (l:List UInt8),Below w0.heap.size w0 W->W.ownsRow w0.heap.size 5 1 u l.length (l.map bv)->l.length+t.bytes.length<=100000000 ->
  Calls Tryz.prog fn #[x,u] W (AppAns w0 W (l ++ t.bytes))
theorem appTerms {w0:World} {ts:List Tm} {vs:List Value} (hn:vs.length=ts.length) (hn3:ts.length<=3) (hall:∀ k (h:k < ts.length) (h2:k < vs.length),AppOk w0 ts[k] vs[k]) {W:World} {b:Nat} {s u:Value} {l:List UInt8}
  (hb:Below w0.heap.size w0 W) (hs:W.ownsRow b 115 1 s vs.length vs) (hu:W.ownsRow w0.heap.size 5 1 u l.length (l.map bv)) (hl:l.length+(cat ts).length<=100000000) :
  Calls Tryz.prog 326 #[u,s] W (AppAns w0 W (l ++ cat ts)):=by
 obtain ⟨sa,sc,rfl⟩:=row_slice hs;have HS:=Ld hs;have HU:=Ld hu;have HB:=Ld hb;have HA:=Ld hall;have hn1:vs.length<=ts.length:=by omega
 have hn2:ts.length<=vs.length:=by omega
 clear hs hu hb hall hn;go_enter Tryz.func326,Tryz.ntmps326;go_wp2;go_loopw [0,9] (fun v i wr=>∃ (k:Nat) (L:List UInt8),k<=vs.length/\i=.int .i64 k/\Hid (L=l ++ cat (ts.take k))/\wr.ownsRow w0.heap.size 5 1 v L.length (L.map bv)/\Below w0.heap.size w0 wr/\KeepT W wr) (fun _ i _=>vs.length - (intOf i).toNat)
 case atStart=>exact ⟨0,l,Nat.zero_le _,rfl,by simp [cat,Hid],HU.out,HB.out,KeepT.refl _⟩
 case round =>
  obtain ⟨k,L,hk,rfl,HL,hur,hbr,hkr⟩:=hrel;by_cases hlt:k < vs.length
  ·have hr:=hkr.row HS.out (by decide);obtain ⟨g,cap',e0,_,hgl⟩:=hr.form (by omega);cases e0;have ex:vs[k]?=some vs[k]:=(by simp [hlt]);have cc:=(hr.cellAt k (by omega)).trans ex;have hle:=cat_take_le ts (k+1);have htk:=cat_take (ts:=ts) (k:=k) (by omega);have hLL:L.length=l.length+(cat (ts.take k)).length:=(by rw [HL.out,lA]);have htl:=congrArg List.length htk;rw [lA] at htl;obtain ⟨T,x,fn,hv,⟨m1,m2⟩,hc⟩:=HA.out k (by omega) hlt;rw [hv] at cc;have f1:=Ld (hc wr _ L hbr hur (by omega));have HN:Hid (L ++ ts[k].bytes=l ++ cat (ts.take (k+1))):=(by rw [Hid,HL.out,htk,List.append_assoc]);generalize L ++ ts[k].bytes=L2 at f1 HN;have HK:=Ld hkr;have q1:=zn k;have q2:(k:Int) < (vs.length:Int):=(by omega);clear ex hr hc hv htk HL hur hbr hkr hle htl hLL;go_wp2_with fail;(with_reducible refine f1.out.mono ?_);rintro e w2 ⟨u2,rfl,hu2,hb2,hk2⟩;have HU2:=Ld hu2;have HB2:=Ld hb2;have HK2:=Ld (HK.out.trans hk2);clear hu2 hb2 hk2 f1 HK;go_wp2;go_roundw
   case rel =>
    exact ⟨k+1,L2,by omega,by go_num,HN.out,HU2.out,HB2.out,HK2.out⟩
   case measure=>simp [intOf];omega
  ·have HE:Hid (l ++ cat ts=L):=(by rw [Hid,HL.out,List.take_of_length_le (by omega)]);have HUR:=Ld hur;have HBR:=Ld hbr;have HKR:=Ld hkr;have d1:decide ((k:Int) < (vs.length:Int))=false:=dF (by omega);clear hur hbr hkr HL;go_wp2;go_ret;rw [HE.out];exact ⟨_,rfl,HUR.out,HBR.out,HKR.out⟩
theorem cat_two (a b:Tm):cat [a,b]=a.bytes ++ b.bytes:=by simp [cat]
theorem cat_three (a b c:Tm):cat [a,b,c]=a.bytes ++ (b.bytes ++ c.bytes):=by simp [cat]
theorem two_le (a b:Tm):[a,b].length<=3:=by simp
theorem three_le (a b c:Tm):[a,b,c].length<=3:=by simp
theorem KeepT.drew {W w:World} (h:KeepT W w):KeepT W w.drew:=h
theorem appApp {w0 W:World} {g0:Nat} {t0 t1:Tm} {T0 T1:TypeId} {x0 x1:Value} {u:Value} {l:List UInt8}
  (hg:w0.heap[g0]?=some (.cells #[.iface T0 x0,.iface T1 x1] 214 (0,0))) (qa0:AppOk w0 t0 (.iface T0 x0)) (qa1:AppOk w0 t1 (.iface T1 x1)) (hb:Below w0.heap.size w0 W) (hu:W.ownsRow w0.heap.size 5 1 u l.length (l.map bv)) (hl:l.length+((cat [t0,t1]).length+1)<=100000000) :
  Calls Tryz.prog 324 #[.pointer (some ⟨g0,0,none⟩),u] W (AppAns w0 W (l ++ 64 :: cat [t0,t1])):=by
 obtain ⟨i0,hi,hz0,hz1,hz2⟩:=info_parts infoByteT;have HL:Hid (l ++ 64 :: cat [t0,t1]=(l ++ [64]) ++ cat [t0,t1]):=by simp [Hid]
 have HA:∀ k (h:k < [t0,t1].length) (h2:k < ([.iface T0 x0,.iface T1 x1]:List Value).length),AppOk w0 [t0,t1][k] ([.iface T0 x0,.iface T1 x1]:List Value)[k]:=fun k h h2=>by
  match k,h,h2 with
  | 0,_,_=>exact qa0
  | 1,_,_=>exact qa1
  | k+2,h,_=>exact absurd h (by simp only [lC,List.length_nil];omega)
 have f1:=Ld fun (Wc:World) (b:Nat) (s u2:Value) (hbc:Below w0.heap.size w0 Wc) (hs:Wc.ownsRow b 115 1 s 2 [.iface T0 x0,.iface T1 x1]) (hu2:Wc.ownsRow w0.heap.size 5 1 u2 (l.length+1) (l.map bv ++ [.int .u8 64])) =>
  appTerms (w0:=w0) (ts:=[t0,t1]) (vs:=[.iface T0 x0,.iface T1 x1]) (l:=l ++ [64]) rfl (two_le t0 t1) HA hbc hs (by simpa [bv] using hu2) (by simp;omega)
 rw [HL.out];generalize (l ++ [64]) ++ cat [t0,t1]=out at f1;have hB0:=hb;have hK0:=KeepT.refl W;have hu0:=hu;have blk0:=blk_below hg hb;clear qa0 qa1 hb hu HL HA hg;go_enter Tryz.func324,Tryz.ntmps324;go_wp2_with fail;refine wp_region_held_drew (S:=fun w'=>KeepT W w') (by kernel_rfl) (KeepT.refl W).drew (fun hS0=>?_);have hB1:Below w0.heap.size w0 W.drew:=hB0.drew;have hu1:=own_drew hu0 1;have hu1:W.drew.ownsRow w0.heap.size 5 1 u l.length (l.map bv):=hu0;generalize W.drew=w1 at hS0 hB1 hu1 |-;clear hB0 hu0;refine qT 0 5 (u) hS0 (fun wz hSW=>?_) ?_
 ·skip;(try go_simp)<;>(try omega)
 refine qT 3 8 (.pointer (some ⟨g0,0,none⟩)) hS0 (fun wz hSW=>?_) ?_
 ·skip;(try go_simp)<;>(try omega)
 refine qT 4 9 (.pointer (some ⟨g0,0,none⟩)) hS0 (fun wz hSW=>?_) ?_
 ·skip;(try go_simp)<;>(try omega)
 refine qT 5 10 (.pointer (some ⟨g0,0,none⟩)) hS0 (fun wz hSW=>?_) ?_
 ·skip;(try go_simp)<;>(try omega)
 refine qT 6 11 (.iface T0 x0) hS0 (fun wz hSW=>?_) ?_
 ·have y0:wz.cell? ⟨g0,0,none⟩=some (.iface T0 x0):=(by rw [Lib.cell_of_heap (hSW _ _ _ _ (by decide) blk0)];rfl);(try go_simp)<;>(try omega)
 refine qT 7 12 (.pointer (some ⟨g0,0,none⟩)) hS0 (fun wz hSW=>?_) ?_
 ·skip;(try go_simp)<;>(try omega)
 refine qT 8 13 (.pointer (some ⟨g0,0,none⟩)) hS0 (fun wz hSW=>?_) ?_
 ·skip;(try go_simp)<;>(try omega)
 refine qT 9 14 (.pointer (some ⟨g0,1,none⟩)) hS0 (fun wz hSW=>?_) ?_
 ·skip;(try go_simp)<;>(try omega)
 refine qT 10 15 (.iface T1 x1) hS0 (fun wz hSW=>?_) ?_
 ·have y1:wz.cell? ⟨g0,1,none⟩=some (.iface T1 x1):=(by rw [Lib.cell_of_heap (hSW _ _ _ _ (by decide) blk0)];rfl);(try go_simp)<;>(try omega)
 try simp only [Act.put,eA,eB,eC]
 refine wpAnyH_ready (rs:=[1,11]) (by kernel_rfl) (by simp) (AllReadyH.cons rfl (fun K hK=>?_) (AllReadyH.cons rfl (fun K hK=>?_) AllReadyH.nil))
 ·rw [iP (by rfl)];go_simp;refine hK.out _ _ (hS0.alloc _) (fun hSwy1=>?_);clear hK K;have hBwy1:=hB1.alloc hB1.size (.cells #[.int .u8 64] 5);have huwy1:=hu1.alloc (.cells #[.int .u8 64] 5);have rb:=World.ownsRow_lit (base:=0) (e:=5) (size:=1) w1 #[.int .u8 64] 1 (Nat.zero_le _) (by decide) (by simp);obtain ⟨gb,hgb⟩:∃ gb,w1.heap.size=gb:=⟨_,rfl⟩;rw [hgb] at rb |-;generalize w1.alloc (.cells #[.int .u8 64] 5)=wy1 at rb hSwy1 hBwy1 huwy1 |-
  try simp only [Act.put,eA,eB,eC]
  refine wpAnyH_ready (rs:=[2,11]) (by kernel_rfl) (by simp) (AllReadyH.cons rfl (fun K hK=>?_) (AllReadyH.cons rfl (fun K hK=>?_) AllReadyH.nil))
  ·rw [iP (by rfl)];refine wp_append_own _ _ _ 97 rfl w0.heap.size 5 i0 _ 1 1 Tryz.underlying97 hi hz0 hz1 hz2 rfl (by decide) u l.length (l.map bv) rfl huwy1 ⟨gb,0,none⟩ 1 1 [.int .u8 64] rfl rfl (rb.cells rfl) (by simp [Value.oneCell']) (by unfold maxLen;omega) (by omega) hBwy1.size ?_;intro u2 wy2 hnwy2 hgwy2 _;change K (Act.put _ (some 7) u2) wy2;have hBwy2:=below_row hBwy1 huwy1 hgwy2;have hKwy2:=keep_row hSwy1 huwy1 hgwy2;refine hK.out _ _ hKwy2 (fun _=>?_);clear hK K hgwy2
   try dsimp only
   try simp only [Act.put,eA,eB,eC]
   refine qR 11 fun K hK=>?_;go_simp;refine hK.out _ _ (hKwy2.alloc _) (fun hSwy3=>?_);clear hK K;have hBwy3:=hBwy2.alloc hBwy2.size (.cells #[.iface T0 x0,.iface T1 x1] 115);have hswy3:=World.ownsRow_lit (base:=0) (e:=115) (size:=1) wy2 #[.iface T0 x0,.iface T1 x1] 2 (Nat.zero_le _) (by decide) (by simp);have hnwy3:=hnwy2.alloc (.cells #[.iface T0 x0,.iface T1 x1] 115);obtain ⟨gt,hgt⟩:∃ gt,wy2.heap.size=gt:=⟨_,rfl⟩;rw [hgt] at hswy3 |-;generalize wy2.alloc (.cells #[.iface T0 x0,.iface T1 x1] 115)=wy3 at hswy3 hSwy3 hBwy3 hnwy3 |-
   try simp only [Act.put,eA,eB,eC]
   refine qR 12 fun K hK=>?_;go_simp;(with_reducible refine (f1.out _ _ _ _ hBwy3 hswy3 hnwy3).mono ?_);rintro e w3 ⟨u3,rfl,hu3,hb3,hk3⟩;refine hK.out _ _ (hSwy3.trans hk3) (fun hS3=>?_);have hKK:=(hSwy3).trans hk3;clear hK K;refine qT 13 4 (u3) hS3 (fun wz hSW=>?_) ?_
   ·skip;(try go_simp)<;>(try omega)
   try simp only [Act.put,eA,eB,eC]
   refine wpAnyH_done (by kernel_rfl) ?_ _;go_wp2;go_ret;exact ⟨_,rfl,hu3,hb3,hK0.trans hKK⟩
  ·rw [iP (by rfl)];go_simp;refine hK.out _ _ (hSwy1.alloc _) (fun hSwy4=>?_);clear hK K;have hBwy4:=hBwy1.alloc hBwy1.size (.cells #[.iface T0 x0,.iface T1 x1] 115);have hswy4:=World.ownsRow_lit (base:=0) (e:=115) (size:=1) wy1 #[.iface T0 x0,.iface T1 x1] 2 (Nat.zero_le _) (by decide) (by simp);have huwy4:=huwy1.alloc (.cells #[.iface T0 x0,.iface T1 x1] 115);have rbwy4:=rb.alloc (.cells #[.iface T0 x0,.iface T1 x1] 115);obtain ⟨gt,hgt⟩:∃ gt,wy1.heap.size=gt:=⟨_,rfl⟩;rw [hgt] at hswy4 |-;generalize wy1.alloc (.cells #[.iface T0 x0,.iface T1 x1] 115)=wy4 at hswy4 hSwy4 hBwy4 huwy4 rbwy4 |-
   try simp only [Act.put,eA,eB,eC]
   refine qR 2 fun K hK=>?_;refine wp_append_own _ _ _ 97 rfl w0.heap.size 5 i0 _ 1 1 Tryz.underlying97 hi hz0 hz1 hz2 rfl (by decide) u l.length (l.map bv) rfl huwy4 ⟨gb,0,none⟩ 1 1 [.int .u8 64] rfl rfl (rbwy4.cells rfl) (by simp [Value.oneCell']) (by unfold maxLen;omega) (by omega) hBwy4.size ?_;intro u2 wy5 hnwy5 hgwy5 _;change K (Act.put _ (some 7) u2) wy5;have hBwy5:=below_row hBwy4 huwy4 hgwy5;have hKwy5:=keep_row hSwy4 huwy4 hgwy5;have hswy5:=(keep_row (KeepT.refl _) huwy4 hgwy5).row hswy4 (by decide);refine hK.out _ _ hKwy5 (fun _=>?_);clear hK K hgwy5
   try dsimp only
   try simp only [Act.put,eA,eB,eC]
   refine qR 12 fun K hK=>?_;go_simp;(with_reducible refine (f1.out _ _ _ _ hBwy5 hswy5 hnwy5).mono ?_);rintro e w3 ⟨u3,rfl,hu3,hb3,hk3⟩;refine hK.out _ _ (hKwy5.trans hk3) (fun hS3=>?_);have hKK:=(hKwy5).trans hk3;clear hK K;refine qT 13 4 (u3) hS3 (fun wz hSW=>?_) ?_
   ·skip;(try go_simp)<;>(try omega)
   try simp only [Act.put,eA,eB,eC]
   refine wpAnyH_done (by kernel_rfl) ?_ _;go_wp2;go_ret;exact ⟨_,rfl,hu3,hb3,hK0.trans hKK⟩
 ·rw [iP (by rfl)];go_simp;refine hK.out _ _ (hS0.alloc _) (fun hSwy6=>?_);clear hK K;have hBwy6:=hB1.alloc hB1.size (.cells #[.iface T0 x0,.iface T1 x1] 115);have hswy6:=World.ownsRow_lit (base:=0) (e:=115) (size:=1) w1 #[.iface T0 x0,.iface T1 x1] 2 (Nat.zero_le _) (by decide) (by simp);have huwy6:=hu1.alloc (.cells #[.iface T0 x0,.iface T1 x1] 115);obtain ⟨gt,hgt⟩:∃ gt,w1.heap.size=gt:=⟨_,rfl⟩;rw [hgt] at hswy6 |-;generalize w1.alloc (.cells #[.iface T0 x0,.iface T1 x1] 115)=wy6 at hswy6 hSwy6 hBwy6 huwy6 |-
  try simp only [Act.put,eA,eB,eC]
  refine qR 1 fun K hK=>?_;go_simp;refine hK.out _ _ (hSwy6.alloc _) (fun hSwy7=>?_);clear hK K;have hBwy7:=hBwy6.alloc hBwy6.size (.cells #[.int .u8 64] 5);have huwy7:=huwy6.alloc (.cells #[.int .u8 64] 5);have rb:=World.ownsRow_lit (base:=0) (e:=5) (size:=1) wy6 #[.int .u8 64] 1 (Nat.zero_le _) (by decide) (by simp);have hswy7:=hswy6.alloc (.cells #[.int .u8 64] 5);obtain ⟨gb,hgb⟩:∃ gb,wy6.heap.size=gb:=⟨_,rfl⟩;rw [hgb] at rb |-;generalize wy6.alloc (.cells #[.int .u8 64] 5)=wy7 at rb hSwy7 hBwy7 huwy7 hswy7 |-
  try simp only [Act.put,eA,eB,eC]
  refine qR 2 fun K hK=>?_;refine wp_append_own _ _ _ 97 rfl w0.heap.size 5 i0 _ 1 1 Tryz.underlying97 hi hz0 hz1 hz2 rfl (by decide) u l.length (l.map bv) rfl huwy7 ⟨gb,0,none⟩ 1 1 [.int .u8 64] rfl rfl (rb.cells rfl) (by simp [Value.oneCell']) (by unfold maxLen;omega) (by omega) hBwy7.size ?_;intro u2 wy8 hnwy8 hgwy8 _;change K (Act.put _ (some 7) u2) wy8;have hBwy8:=below_row hBwy7 huwy7 hgwy8;have hKwy8:=keep_row hSwy7 huwy7 hgwy8;have hswy8:=(keep_row (KeepT.refl _) huwy7 hgwy8).row hswy7 (by decide);refine hK.out _ _ hKwy8 (fun _=>?_);clear hK K hgwy8
  try dsimp only
  try simp only [Act.put,eA,eB,eC]
  refine qR 12 fun K hK=>?_;go_simp;(with_reducible refine (f1.out _ _ _ _ hBwy8 hswy8 hnwy8).mono ?_);rintro e w3 ⟨u3,rfl,hu3,hb3,hk3⟩;refine hK.out _ _ (hKwy8.trans hk3) (fun hS3=>?_);have hKK:=(hKwy8).trans hk3;clear hK K;refine qT 13 4 (u3) hS3 (fun wz hSW=>?_) ?_
  ·skip;(try go_simp)<;>(try omega)
  try simp only [Act.put,eA,eB,eC]
  refine wpAnyH_done (by kernel_rfl) ?_ _;go_wp2;go_ret;exact ⟨_,rfl,hu3,hb3,hK0.trans hKK⟩
theorem appLam {w0 W:World} {g0:Nat} {t0 t1:Tm} {T0 T1:TypeId} {x0 x1:Value} {u:Value} {l:List UInt8}
  (hg:w0.heap[g0]?=some (.cells #[.iface T0 x0,.iface T1 x1] 217 (0,0))) (qa0:AppOk w0 t0 (.iface T0 x0)) (qa1:AppOk w0 t1 (.iface T1 x1)) (hb:Below w0.heap.size w0 W) (hu:W.ownsRow w0.heap.size 5 1 u l.length (l.map bv)) (hl:l.length+((cat [t0,t1]).length+1)<=100000000) :
  Calls Tryz.prog 327 #[.pointer (some ⟨g0,0,none⟩),u] W (AppAns w0 W (l ++ 108 :: cat [t0,t1])):=by
 obtain ⟨i0,hi,hz0,hz1,hz2⟩:=info_parts infoByteT;have HL:Hid (l ++ 108 :: cat [t0,t1]=(l ++ [108]) ++ cat [t0,t1]):=by simp [Hid]
 have HA:∀ k (h:k < [t0,t1].length) (h2:k < ([.iface T0 x0,.iface T1 x1]:List Value).length),AppOk w0 [t0,t1][k] ([.iface T0 x0,.iface T1 x1]:List Value)[k]:=fun k h h2=>by
  match k,h,h2 with
  | 0,_,_=>exact qa0
  | 1,_,_=>exact qa1
  | k+2,h,_=>exact absurd h (by simp only [lC,List.length_nil];omega)
 have f1:=Ld fun (Wc:World) (b:Nat) (s u2:Value) (hbc:Below w0.heap.size w0 Wc) (hs:Wc.ownsRow b 115 1 s 2 [.iface T0 x0,.iface T1 x1]) (hu2:Wc.ownsRow w0.heap.size 5 1 u2 (l.length+1) (l.map bv ++ [.int .u8 108])) =>
  appTerms (w0:=w0) (ts:=[t0,t1]) (vs:=[.iface T0 x0,.iface T1 x1]) (l:=l ++ [108]) rfl (two_le t0 t1) HA hbc hs (by simpa [bv] using hu2) (by simp;omega)
 rw [HL.out];generalize (l ++ [108]) ++ cat [t0,t1]=out at f1;have hB0:=hb;have hK0:=KeepT.refl W;have hu0:=hu;have blk0:=blk_below hg hb;clear qa0 qa1 hb hu HL HA hg;go_enter Tryz.func327,Tryz.ntmps327;go_wp2_with fail;refine wp_region_held_drew (S:=fun w'=>KeepT W w') (by kernel_rfl) (KeepT.refl W).drew (fun hS0=>?_);have hB1:Below w0.heap.size w0 W.drew:=hB0.drew;have hu1:=own_drew hu0 1;have hu1:W.drew.ownsRow w0.heap.size 5 1 u l.length (l.map bv):=hu0;generalize W.drew=w1 at hS0 hB1 hu1 |-;clear hB0 hu0;refine qT 0 5 (u) hS0 (fun wz hSW=>?_) ?_
 ·skip;(try go_simp)<;>(try omega)
 refine qT 3 8 (.pointer (some ⟨g0,0,none⟩)) hS0 (fun wz hSW=>?_) ?_
 ·skip;(try go_simp)<;>(try omega)
 refine qT 4 9 (.pointer (some ⟨g0,0,none⟩)) hS0 (fun wz hSW=>?_) ?_
 ·skip;(try go_simp)<;>(try omega)
 refine qT 5 10 (.pointer (some ⟨g0,0,none⟩)) hS0 (fun wz hSW=>?_) ?_
 ·skip;(try go_simp)<;>(try omega)
 refine qT 6 11 (.iface T0 x0) hS0 (fun wz hSW=>?_) ?_
 ·have y0:wz.cell? ⟨g0,0,none⟩=some (.iface T0 x0):=(by rw [Lib.cell_of_heap (hSW _ _ _ _ (by decide) blk0)];rfl);(try go_simp)<;>(try omega)
 refine qT 7 12 (.pointer (some ⟨g0,0,none⟩)) hS0 (fun wz hSW=>?_) ?_
 ·skip;(try go_simp)<;>(try omega)
 refine qT 8 13 (.pointer (some ⟨g0,0,none⟩)) hS0 (fun wz hSW=>?_) ?_
 ·skip;(try go_simp)<;>(try omega)
 refine qT 9 14 (.pointer (some ⟨g0,1,none⟩)) hS0 (fun wz hSW=>?_) ?_
 ·skip;(try go_simp)<;>(try omega)
 refine qT 10 15 (.iface T1 x1) hS0 (fun wz hSW=>?_) ?_
 ·have y1:wz.cell? ⟨g0,1,none⟩=some (.iface T1 x1):=(by rw [Lib.cell_of_heap (hSW _ _ _ _ (by decide) blk0)];rfl);(try go_simp)<;>(try omega)
 try simp only [Act.put,eA,eB,eC]
 refine wpAnyH_ready (rs:=[1,11]) (by kernel_rfl) (by simp) (AllReadyH.cons rfl (fun K hK=>?_) (AllReadyH.cons rfl (fun K hK=>?_) AllReadyH.nil))
 ·rw [iP (by rfl)];go_simp;refine hK.out _ _ (hS0.alloc _) (fun hSwy1=>?_);clear hK K;have hBwy1:=hB1.alloc hB1.size (.cells #[.int .u8 108] 5);have huwy1:=hu1.alloc (.cells #[.int .u8 108] 5);have rb:=World.ownsRow_lit (base:=0) (e:=5) (size:=1) w1 #[.int .u8 108] 1 (Nat.zero_le _) (by decide) (by simp);obtain ⟨gb,hgb⟩:∃ gb,w1.heap.size=gb:=⟨_,rfl⟩;rw [hgb] at rb |-;generalize w1.alloc (.cells #[.int .u8 108] 5)=wy1 at rb hSwy1 hBwy1 huwy1 |-
  try simp only [Act.put,eA,eB,eC]
  refine wpAnyH_ready (rs:=[2,11]) (by kernel_rfl) (by simp) (AllReadyH.cons rfl (fun K hK=>?_) (AllReadyH.cons rfl (fun K hK=>?_) AllReadyH.nil))
  ·rw [iP (by rfl)];refine wp_append_own _ _ _ 97 rfl w0.heap.size 5 i0 _ 1 1 Tryz.underlying97 hi hz0 hz1 hz2 rfl (by decide) u l.length (l.map bv) rfl huwy1 ⟨gb,0,none⟩ 1 1 [.int .u8 108] rfl rfl (rb.cells rfl) (by simp [Value.oneCell']) (by unfold maxLen;omega) (by omega) hBwy1.size ?_;intro u2 wy2 hnwy2 hgwy2 _;change K (Act.put _ (some 7) u2) wy2;have hBwy2:=below_row hBwy1 huwy1 hgwy2;have hKwy2:=keep_row hSwy1 huwy1 hgwy2;refine hK.out _ _ hKwy2 (fun _=>?_);clear hK K hgwy2
   try dsimp only
   try simp only [Act.put,eA,eB,eC]
   refine qR 11 fun K hK=>?_;go_simp;refine hK.out _ _ (hKwy2.alloc _) (fun hSwy3=>?_);clear hK K;have hBwy3:=hBwy2.alloc hBwy2.size (.cells #[.iface T0 x0,.iface T1 x1] 115);have hswy3:=World.ownsRow_lit (base:=0) (e:=115) (size:=1) wy2 #[.iface T0 x0,.iface T1 x1] 2 (Nat.zero_le _) (by decide) (by simp);have hnwy3:=hnwy2.alloc (.cells #[.iface T0 x0,.iface T1 x1] 115);obtain ⟨gt,hgt⟩:∃ gt,wy2.heap.size=gt:=⟨_,rfl⟩;rw [hgt] at hswy3 |-;generalize wy2.alloc (.cells #[.iface T0 x0,.iface T1 x1] 115)=wy3 at hswy3 hSwy3 hBwy3 hnwy3 |-
   try simp only [Act.put,eA,eB,eC]
   refine qR 12 fun K hK=>?_;go_simp;(with_reducible refine (f1.out _ _ _ _ hBwy3 hswy3 hnwy3).mono ?_);rintro e w3 ⟨u3,rfl,hu3,hb3,hk3⟩;refine hK.out _ _ (hSwy3.trans hk3) (fun hS3=>?_);have hKK:=(hSwy3).trans hk3;clear hK K;refine qT 13 4 (u3) hS3 (fun wz hSW=>?_) ?_
   ·skip;(try go_simp)<;>(try omega)
   try simp only [Act.put,eA,eB,eC]
   refine wpAnyH_done (by kernel_rfl) ?_ _;go_wp2;go_ret;exact ⟨_,rfl,hu3,hb3,hK0.trans hKK⟩
  ·rw [iP (by rfl)];go_simp;refine hK.out _ _ (hSwy1.alloc _) (fun hSwy4=>?_);clear hK K;have hBwy4:=hBwy1.alloc hBwy1.size (.cells #[.iface T0 x0,.iface T1 x1] 115);have hswy4:=World.ownsRow_lit (base:=0) (e:=115) (size:=1) wy1 #[.iface T0 x0,.iface T1 x1] 2 (Nat.zero_le _) (by decide) (by simp);have huwy4:=huwy1.alloc (.cells #[.iface T0 x0,.iface T1 x1] 115);have rbwy4:=rb.alloc (.cells #[.iface T0 x0,.iface T1 x1] 115);obtain ⟨gt,hgt⟩:∃ gt,wy1.heap.size=gt:=⟨_,rfl⟩;rw [hgt] at hswy4 |-;generalize wy1.alloc (.cells #[.iface T0 x0,.iface T1 x1] 115)=wy4 at hswy4 hSwy4 hBwy4 huwy4 rbwy4 |-
   try simp only [Act.put,eA,eB,eC]
   refine qR 2 fun K hK=>?_;refine wp_append_own _ _ _ 97 rfl w0.heap.size 5 i0 _ 1 1 Tryz.underlying97 hi hz0 hz1 hz2 rfl (by decide) u l.length (l.map bv) rfl huwy4 ⟨gb,0,none⟩ 1 1 [.int .u8 108] rfl rfl (rbwy4.cells rfl) (by simp [Value.oneCell']) (by unfold maxLen;omega) (by omega) hBwy4.size ?_;intro u2 wy5 hnwy5 hgwy5 _;change K (Act.put _ (some 7) u2) wy5;have hBwy5:=below_row hBwy4 huwy4 hgwy5;have hKwy5:=keep_row hSwy4 huwy4 hgwy5;have hswy5:=(keep_row (KeepT.refl _) huwy4 hgwy5).row hswy4 (by decide);refine hK.out _ _ hKwy5 (fun _=>?_);clear hK K hgwy5
   try dsimp only
   try simp only [Act.put,eA,eB,eC]
   refine qR 12 fun K hK=>?_;go_simp;(with_reducible refine (f1.out _ _ _ _ hBwy5 hswy5 hnwy5).mono ?_);rintro e w3 ⟨u3,rfl,hu3,hb3,hk3⟩;refine hK.out _ _ (hKwy5.trans hk3) (fun hS3=>?_);have hKK:=(hKwy5).trans hk3;clear hK K;refine qT 13 4 (u3) hS3 (fun wz hSW=>?_) ?_
   ·skip;(try go_simp)<;>(try omega)
   try simp only [Act.put,eA,eB,eC]
   refine wpAnyH_done (by kernel_rfl) ?_ _;go_wp2;go_ret;exact ⟨_,rfl,hu3,hb3,hK0.trans hKK⟩
 ·rw [iP (by rfl)];go_simp;refine hK.out _ _ (hS0.alloc _) (fun hSwy6=>?_);clear hK K;have hBwy6:=hB1.alloc hB1.size (.cells #[.iface T0 x0,.iface T1 x1] 115);have hswy6:=World.ownsRow_lit (base:=0) (e:=115) (size:=1) w1 #[.iface T0 x0,.iface T1 x1] 2 (Nat.zero_le _) (by decide) (by simp);have huwy6:=hu1.alloc (.cells #[.iface T0 x0,.iface T1 x1] 115);obtain ⟨gt,hgt⟩:∃ gt,w1.heap.size=gt:=⟨_,rfl⟩;rw [hgt] at hswy6 |-;generalize w1.alloc (.cells #[.iface T0 x0,.iface T1 x1] 115)=wy6 at hswy6 hSwy6 hBwy6 huwy6 |-
  try simp only [Act.put,eA,eB,eC]
  refine qR 1 fun K hK=>?_;go_simp;refine hK.out _ _ (hSwy6.alloc _) (fun hSwy7=>?_);clear hK K;have hBwy7:=hBwy6.alloc hBwy6.size (.cells #[.int .u8 108] 5);have huwy7:=huwy6.alloc (.cells #[.int .u8 108] 5);have rb:=World.ownsRow_lit (base:=0) (e:=5) (size:=1) wy6 #[.int .u8 108] 1 (Nat.zero_le _) (by decide) (by simp);have hswy7:=hswy6.alloc (.cells #[.int .u8 108] 5);obtain ⟨gb,hgb⟩:∃ gb,wy6.heap.size=gb:=⟨_,rfl⟩;rw [hgb] at rb |-;generalize wy6.alloc (.cells #[.int .u8 108] 5)=wy7 at rb hSwy7 hBwy7 huwy7 hswy7 |-
  try simp only [Act.put,eA,eB,eC]
  refine qR 2 fun K hK=>?_;refine wp_append_own _ _ _ 97 rfl w0.heap.size 5 i0 _ 1 1 Tryz.underlying97 hi hz0 hz1 hz2 rfl (by decide) u l.length (l.map bv) rfl huwy7 ⟨gb,0,none⟩ 1 1 [.int .u8 108] rfl rfl (rb.cells rfl) (by simp [Value.oneCell']) (by unfold maxLen;omega) (by omega) hBwy7.size ?_;intro u2 wy8 hnwy8 hgwy8 _;change K (Act.put _ (some 7) u2) wy8;have hBwy8:=below_row hBwy7 huwy7 hgwy8;have hKwy8:=keep_row hSwy7 huwy7 hgwy8;have hswy8:=(keep_row (KeepT.refl _) huwy7 hgwy8).row hswy7 (by decide);refine hK.out _ _ hKwy8 (fun _=>?_);clear hK K hgwy8
  try dsimp only
  try simp only [Act.put,eA,eB,eC]
  refine qR 12 fun K hK=>?_;go_simp;(with_reducible refine (f1.out _ _ _ _ hBwy8 hswy8 hnwy8).mono ?_);rintro e w3 ⟨u3,rfl,hu3,hb3,hk3⟩;refine hK.out _ _ (hKwy8.trans hk3) (fun hS3=>?_);have hKK:=(hKwy8).trans hk3;clear hK K;refine qT 13 4 (u3) hS3 (fun wz hSW=>?_) ?_
  ·skip;(try go_simp)<;>(try omega)
  try simp only [Act.put,eA,eB,eC]
  refine wpAnyH_done (by kernel_rfl) ?_ _;go_wp2;go_ret;exact ⟨_,rfl,hu3,hb3,hK0.trans hKK⟩
theorem appPi {w0 W:World} {g0:Nat} {t0 t1:Tm} {T0 T1:TypeId} {x0 x1:Value} {u:Value} {l:List UInt8}
  (hg:w0.heap[g0]?=some (.cells #[.iface T0 x0,.iface T1 x1] 220 (0,0))) (qa0:AppOk w0 t0 (.iface T0 x0)) (qa1:AppOk w0 t1 (.iface T1 x1)) (hb:Below w0.heap.size w0 W) (hu:W.ownsRow w0.heap.size 5 1 u l.length (l.map bv)) (hl:l.length+((cat [t0,t1]).length+1)<=100000000) :
  Calls Tryz.prog 329 #[.pointer (some ⟨g0,0,none⟩),u] W (AppAns w0 W (l ++ 112 :: cat [t0,t1])):=by
 obtain ⟨i0,hi,hz0,hz1,hz2⟩:=info_parts infoByteT;have HL:Hid (l ++ 112 :: cat [t0,t1]=(l ++ [112]) ++ cat [t0,t1]):=by simp [Hid]
 have HA:∀ k (h:k < [t0,t1].length) (h2:k < ([.iface T0 x0,.iface T1 x1]:List Value).length),AppOk w0 [t0,t1][k] ([.iface T0 x0,.iface T1 x1]:List Value)[k]:=fun k h h2=>by
  match k,h,h2 with
  | 0,_,_=>exact qa0
  | 1,_,_=>exact qa1
  | k+2,h,_=>exact absurd h (by simp only [lC,List.length_nil];omega)
 have f1:=Ld fun (Wc:World) (b:Nat) (s u2:Value) (hbc:Below w0.heap.size w0 Wc) (hs:Wc.ownsRow b 115 1 s 2 [.iface T0 x0,.iface T1 x1]) (hu2:Wc.ownsRow w0.heap.size 5 1 u2 (l.length+1) (l.map bv ++ [.int .u8 112])) =>
  appTerms (w0:=w0) (ts:=[t0,t1]) (vs:=[.iface T0 x0,.iface T1 x1]) (l:=l ++ [112]) rfl (two_le t0 t1) HA hbc hs (by simpa [bv] using hu2) (by simp;omega)
 rw [HL.out];generalize (l ++ [112]) ++ cat [t0,t1]=out at f1;have hB0:=hb;have hK0:=KeepT.refl W;have hu0:=hu;have blk0:=blk_below hg hb;clear qa0 qa1 hb hu HL HA hg;go_enter Tryz.func329,Tryz.ntmps329;go_wp2_with fail;refine wp_region_held_drew (S:=fun w'=>KeepT W w') (by kernel_rfl) (KeepT.refl W).drew (fun hS0=>?_);have hB1:Below w0.heap.size w0 W.drew:=hB0.drew;have hu1:=own_drew hu0 1;have hu1:W.drew.ownsRow w0.heap.size 5 1 u l.length (l.map bv):=hu0;generalize W.drew=w1 at hS0 hB1 hu1 |-;clear hB0 hu0;refine qT 0 5 (u) hS0 (fun wz hSW=>?_) ?_
 ·skip;(try go_simp)<;>(try omega)
 refine qT 3 8 (.pointer (some ⟨g0,0,none⟩)) hS0 (fun wz hSW=>?_) ?_
 ·skip;(try go_simp)<;>(try omega)
 refine qT 4 9 (.pointer (some ⟨g0,0,none⟩)) hS0 (fun wz hSW=>?_) ?_
 ·skip;(try go_simp)<;>(try omega)
 refine qT 5 10 (.pointer (some ⟨g0,0,none⟩)) hS0 (fun wz hSW=>?_) ?_
 ·skip;(try go_simp)<;>(try omega)
 refine qT 6 11 (.iface T0 x0) hS0 (fun wz hSW=>?_) ?_
 ·have y0:wz.cell? ⟨g0,0,none⟩=some (.iface T0 x0):=(by rw [Lib.cell_of_heap (hSW _ _ _ _ (by decide) blk0)];rfl);(try go_simp)<;>(try omega)
 refine qT 7 12 (.pointer (some ⟨g0,0,none⟩)) hS0 (fun wz hSW=>?_) ?_
 ·skip;(try go_simp)<;>(try omega)
 refine qT 8 13 (.pointer (some ⟨g0,0,none⟩)) hS0 (fun wz hSW=>?_) ?_
 ·skip;(try go_simp)<;>(try omega)
 refine qT 9 14 (.pointer (some ⟨g0,1,none⟩)) hS0 (fun wz hSW=>?_) ?_
 ·skip;(try go_simp)<;>(try omega)
 refine qT 10 15 (.iface T1 x1) hS0 (fun wz hSW=>?_) ?_
 ·have y1:wz.cell? ⟨g0,1,none⟩=some (.iface T1 x1):=(by rw [Lib.cell_of_heap (hSW _ _ _ _ (by decide) blk0)];rfl);(try go_simp)<;>(try omega)
 try simp only [Act.put,eA,eB,eC]
 refine wpAnyH_ready (rs:=[1,11]) (by kernel_rfl) (by simp) (AllReadyH.cons rfl (fun K hK=>?_) (AllReadyH.cons rfl (fun K hK=>?_) AllReadyH.nil))
 ·rw [iP (by rfl)];go_simp;refine hK.out _ _ (hS0.alloc _) (fun hSwy1=>?_);clear hK K;have hBwy1:=hB1.alloc hB1.size (.cells #[.int .u8 112] 5);have huwy1:=hu1.alloc (.cells #[.int .u8 112] 5);have rb:=World.ownsRow_lit (base:=0) (e:=5) (size:=1) w1 #[.int .u8 112] 1 (Nat.zero_le _) (by decide) (by simp);obtain ⟨gb,hgb⟩:∃ gb,w1.heap.size=gb:=⟨_,rfl⟩;rw [hgb] at rb |-;generalize w1.alloc (.cells #[.int .u8 112] 5)=wy1 at rb hSwy1 hBwy1 huwy1 |-
  try simp only [Act.put,eA,eB,eC]
  refine wpAnyH_ready (rs:=[2,11]) (by kernel_rfl) (by simp) (AllReadyH.cons rfl (fun K hK=>?_) (AllReadyH.cons rfl (fun K hK=>?_) AllReadyH.nil))
  ·rw [iP (by rfl)];refine wp_append_own _ _ _ 97 rfl w0.heap.size 5 i0 _ 1 1 Tryz.underlying97 hi hz0 hz1 hz2 rfl (by decide) u l.length (l.map bv) rfl huwy1 ⟨gb,0,none⟩ 1 1 [.int .u8 112] rfl rfl (rb.cells rfl) (by simp [Value.oneCell']) (by unfold maxLen;omega) (by omega) hBwy1.size ?_;intro u2 wy2 hnwy2 hgwy2 _;change K (Act.put _ (some 7) u2) wy2;have hBwy2:=below_row hBwy1 huwy1 hgwy2;have hKwy2:=keep_row hSwy1 huwy1 hgwy2;refine hK.out _ _ hKwy2 (fun _=>?_);clear hK K hgwy2
   try dsimp only
   try simp only [Act.put,eA,eB,eC]
   refine qR 11 fun K hK=>?_;go_simp;refine hK.out _ _ (hKwy2.alloc _) (fun hSwy3=>?_);clear hK K;have hBwy3:=hBwy2.alloc hBwy2.size (.cells #[.iface T0 x0,.iface T1 x1] 115);have hswy3:=World.ownsRow_lit (base:=0) (e:=115) (size:=1) wy2 #[.iface T0 x0,.iface T1 x1] 2 (Nat.zero_le _) (by decide) (by simp);have hnwy3:=hnwy2.alloc (.cells #[.iface T0 x0,.iface T1 x1] 115);obtain ⟨gt,hgt⟩:∃ gt,wy2.heap.size=gt:=⟨_,rfl⟩;rw [hgt] at hswy3 |-;generalize wy2.alloc (.cells #[.iface T0 x0,.iface T1 x1] 115)=wy3 at hswy3 hSwy3 hBwy3 hnwy3 |-
   try simp only [Act.put,eA,eB,eC]
   refine qR 12 fun K hK=>?_;go_simp;(with_reducible refine (f1.out _ _ _ _ hBwy3 hswy3 hnwy3).mono ?_);rintro e w3 ⟨u3,rfl,hu3,hb3,hk3⟩;refine hK.out _ _ (hSwy3.trans hk3) (fun hS3=>?_);have hKK:=(hSwy3).trans hk3;clear hK K;refine qT 13 4 (u3) hS3 (fun wz hSW=>?_) ?_
   ·skip;(try go_simp)<;>(try omega)
   try simp only [Act.put,eA,eB,eC]
   refine wpAnyH_done (by kernel_rfl) ?_ _;go_wp2;go_ret;exact ⟨_,rfl,hu3,hb3,hK0.trans hKK⟩
  ·rw [iP (by rfl)];go_simp;refine hK.out _ _ (hSwy1.alloc _) (fun hSwy4=>?_);clear hK K;have hBwy4:=hBwy1.alloc hBwy1.size (.cells #[.iface T0 x0,.iface T1 x1] 115);have hswy4:=World.ownsRow_lit (base:=0) (e:=115) (size:=1) wy1 #[.iface T0 x0,.iface T1 x1] 2 (Nat.zero_le _) (by decide) (by simp);have huwy4:=huwy1.alloc (.cells #[.iface T0 x0,.iface T1 x1] 115);have rbwy4:=rb.alloc (.cells #[.iface T0 x0,.iface T1 x1] 115);obtain ⟨gt,hgt⟩:∃ gt,wy1.heap.size=gt:=⟨_,rfl⟩;rw [hgt] at hswy4 |-;generalize wy1.alloc (.cells #[.iface T0 x0,.iface T1 x1] 115)=wy4 at hswy4 hSwy4 hBwy4 huwy4 rbwy4 |-
   try simp only [Act.put,eA,eB,eC]
   refine qR 2 fun K hK=>?_;refine wp_append_own _ _ _ 97 rfl w0.heap.size 5 i0 _ 1 1 Tryz.underlying97 hi hz0 hz1 hz2 rfl (by decide) u l.length (l.map bv) rfl huwy4 ⟨gb,0,none⟩ 1 1 [.int .u8 112] rfl rfl (rbwy4.cells rfl) (by simp [Value.oneCell']) (by unfold maxLen;omega) (by omega) hBwy4.size ?_;intro u2 wy5 hnwy5 hgwy5 _;change K (Act.put _ (some 7) u2) wy5;have hBwy5:=below_row hBwy4 huwy4 hgwy5;have hKwy5:=keep_row hSwy4 huwy4 hgwy5;have hswy5:=(keep_row (KeepT.refl _) huwy4 hgwy5).row hswy4 (by decide);refine hK.out _ _ hKwy5 (fun _=>?_);clear hK K hgwy5
   try dsimp only
   try simp only [Act.put,eA,eB,eC]
   refine qR 12 fun K hK=>?_;go_simp;(with_reducible refine (f1.out _ _ _ _ hBwy5 hswy5 hnwy5).mono ?_);rintro e w3 ⟨u3,rfl,hu3,hb3,hk3⟩;refine hK.out _ _ (hKwy5.trans hk3) (fun hS3=>?_);have hKK:=(hKwy5).trans hk3;clear hK K;refine qT 13 4 (u3) hS3 (fun wz hSW=>?_) ?_
   ·skip;(try go_simp)<;>(try omega)
   try simp only [Act.put,eA,eB,eC]
   refine wpAnyH_done (by kernel_rfl) ?_ _;go_wp2;go_ret;exact ⟨_,rfl,hu3,hb3,hK0.trans hKK⟩
 ·rw [iP (by rfl)];go_simp;refine hK.out _ _ (hS0.alloc _) (fun hSwy6=>?_);clear hK K;have hBwy6:=hB1.alloc hB1.size (.cells #[.iface T0 x0,.iface T1 x1] 115);have hswy6:=World.ownsRow_lit (base:=0) (e:=115) (size:=1) w1 #[.iface T0 x0,.iface T1 x1] 2 (Nat.zero_le _) (by decide) (by simp);have huwy6:=hu1.alloc (.cells #[.iface T0 x0,.iface T1 x1] 115);obtain ⟨gt,hgt⟩:∃ gt,w1.heap.size=gt:=⟨_,rfl⟩;rw [hgt] at hswy6 |-;generalize w1.alloc (.cells #[.iface T0 x0,.iface T1 x1] 115)=wy6 at hswy6 hSwy6 hBwy6 huwy6 |-
  try simp only [Act.put,eA,eB,eC]
  refine qR 1 fun K hK=>?_;go_simp;refine hK.out _ _ (hSwy6.alloc _) (fun hSwy7=>?_);clear hK K;have hBwy7:=hBwy6.alloc hBwy6.size (.cells #[.int .u8 112] 5);have huwy7:=huwy6.alloc (.cells #[.int .u8 112] 5);have rb:=World.ownsRow_lit (base:=0) (e:=5) (size:=1) wy6 #[.int .u8 112] 1 (Nat.zero_le _) (by decide) (by simp);have hswy7:=hswy6.alloc (.cells #[.int .u8 112] 5);obtain ⟨gb,hgb⟩:∃ gb,wy6.heap.size=gb:=⟨_,rfl⟩;rw [hgb] at rb |-;generalize wy6.alloc (.cells #[.int .u8 112] 5)=wy7 at rb hSwy7 hBwy7 huwy7 hswy7 |-
  try simp only [Act.put,eA,eB,eC]
  refine qR 2 fun K hK=>?_;refine wp_append_own _ _ _ 97 rfl w0.heap.size 5 i0 _ 1 1 Tryz.underlying97 hi hz0 hz1 hz2 rfl (by decide) u l.length (l.map bv) rfl huwy7 ⟨gb,0,none⟩ 1 1 [.int .u8 112] rfl rfl (rb.cells rfl) (by simp [Value.oneCell']) (by unfold maxLen;omega) (by omega) hBwy7.size ?_;intro u2 wy8 hnwy8 hgwy8 _;change K (Act.put _ (some 7) u2) wy8;have hBwy8:=below_row hBwy7 huwy7 hgwy8;have hKwy8:=keep_row hSwy7 huwy7 hgwy8;have hswy8:=(keep_row (KeepT.refl _) huwy7 hgwy8).row hswy7 (by decide);refine hK.out _ _ hKwy8 (fun _=>?_);clear hK K hgwy8
  try dsimp only
  try simp only [Act.put,eA,eB,eC]
  refine qR 12 fun K hK=>?_;go_simp;(with_reducible refine (f1.out _ _ _ _ hBwy8 hswy8 hnwy8).mono ?_);rintro e w3 ⟨u3,rfl,hu3,hb3,hk3⟩;refine hK.out _ _ (hKwy8.trans hk3) (fun hS3=>?_);have hKK:=(hKwy8).trans hk3;clear hK K;refine qT 13 4 (u3) hS3 (fun wz hSW=>?_) ?_
  ·skip;(try go_simp)<;>(try omega)
  try simp only [Act.put,eA,eB,eC]
  refine wpAnyH_done (by kernel_rfl) ?_ _;go_wp2;go_ret;exact ⟨_,rfl,hu3,hb3,hK0.trans hKK⟩
theorem appLet {w0 W:World} {g0:Nat} {t0 t1 t2:Tm} {T0 T1 T2:TypeId} {x0 x1 x2:Value} {u:Value} {l:List UInt8}
  (hg:w0.heap[g0]?=some (.cells #[.iface T0 x0,.iface T1 x1,.iface T2 x2] 223 (0,0))) (qa0:AppOk w0 t0 (.iface T0 x0)) (qa1:AppOk w0 t1 (.iface T1 x1)) (qa2:AppOk w0 t2 (.iface T2 x2)) (hb:Below w0.heap.size w0 W) (hu:W.ownsRow w0.heap.size 5 1 u l.length (l.map bv)) (hl:l.length+((cat [t0,t1,t2]).length+1)<=100000000) :
  Calls Tryz.prog 331 #[.pointer (some ⟨g0,0,none⟩),u] W (AppAns w0 W (l ++ 116 :: cat [t0,t1,t2])):=by
 obtain ⟨i0,hi,hz0,hz1,hz2⟩:=info_parts infoByteT;have HL:Hid (l ++ 116 :: cat [t0,t1,t2]=(l ++ [116]) ++ cat [t0,t1,t2]):=by simp [Hid]
 have HA:∀ k (h:k < [t0,t1,t2].length) (h2:k < ([.iface T0 x0,.iface T1 x1,.iface T2 x2]:List Value).length),AppOk w0 [t0,t1,t2][k] ([.iface T0 x0,.iface T1 x1,.iface T2 x2]:List Value)[k]:=fun k h h2=>by
  match k,h,h2 with
  | 0,_,_=>exact qa0
  | 1,_,_=>exact qa1
  | 2,_,_=>exact qa2
  | k+3,h,_=>exact absurd h (by simp only [lC,List.length_nil];omega)
 have f1:=Ld fun (Wc:World) (b:Nat) (s u2:Value) (hbc:Below w0.heap.size w0 Wc) (hs:Wc.ownsRow b 115 1 s 3 [.iface T0 x0,.iface T1 x1,.iface T2 x2]) (hu2:Wc.ownsRow w0.heap.size 5 1 u2 (l.length+1) (l.map bv ++ [.int .u8 116])) =>
  appTerms (w0:=w0) (ts:=[t0,t1,t2]) (vs:=[.iface T0 x0,.iface T1 x1,.iface T2 x2]) (l:=l ++ [116]) rfl (three_le t0 t1 t2) HA hbc hs (by simpa [bv] using hu2) (by simp;omega)
 rw [HL.out];generalize (l ++ [116]) ++ cat [t0,t1,t2]=out at f1;have hB0:=hb;have hK0:=KeepT.refl W;have hu0:=hu;have blk0:=blk_below hg hb;clear qa0 qa1 qa2 hb hu HL HA hg;go_enter Tryz.func331,Tryz.ntmps331;go_wp2_with fail;refine wp_region_held_drew (S:=fun w'=>KeepT W w') (by kernel_rfl) (KeepT.refl W).drew (fun hS0=>?_);have hB1:Below w0.heap.size w0 W.drew:=hB0.drew;have hu1:=own_drew hu0 1;have hu1:W.drew.ownsRow w0.heap.size 5 1 u l.length (l.map bv):=hu0;generalize W.drew=w1 at hS0 hB1 hu1 |-;clear hB0 hu0;refine qT 0 5 (u) hS0 (fun wz hSW=>?_) ?_
 ·skip;(try go_simp)<;>(try omega)
 refine qT 3 8 (.pointer (some ⟨g0,0,none⟩)) hS0 (fun wz hSW=>?_) ?_
 ·skip;(try go_simp)<;>(try omega)
 refine qT 4 9 (.pointer (some ⟨g0,0,none⟩)) hS0 (fun wz hSW=>?_) ?_
 ·skip;(try go_simp)<;>(try omega)
 refine qT 5 10 (.pointer (some ⟨g0,0,none⟩)) hS0 (fun wz hSW=>?_) ?_
 ·skip;(try go_simp)<;>(try omega)
 refine qT 6 11 (.iface T0 x0) hS0 (fun wz hSW=>?_) ?_
 ·have y0:wz.cell? ⟨g0,0,none⟩=some (.iface T0 x0):=(by rw [Lib.cell_of_heap (hSW _ _ _ _ (by decide) blk0)];rfl);(try go_simp)<;>(try omega)
 refine qT 7 12 (.pointer (some ⟨g0,0,none⟩)) hS0 (fun wz hSW=>?_) ?_
 ·skip;(try go_simp)<;>(try omega)
 refine qT 8 13 (.pointer (some ⟨g0,0,none⟩)) hS0 (fun wz hSW=>?_) ?_
 ·skip;(try go_simp)<;>(try omega)
 refine qT 9 14 (.pointer (some ⟨g0,1,none⟩)) hS0 (fun wz hSW=>?_) ?_
 ·skip;(try go_simp)<;>(try omega)
 refine qT 10 15 (.iface T1 x1) hS0 (fun wz hSW=>?_) ?_
 ·have y1:wz.cell? ⟨g0,1,none⟩=some (.iface T1 x1):=(by rw [Lib.cell_of_heap (hSW _ _ _ _ (by decide) blk0)];rfl);(try go_simp)<;>(try omega)
 refine qT 11 16 (.pointer (some ⟨g0,0,none⟩)) hS0 (fun wz hSW=>?_) ?_
 ·skip;(try go_simp)<;>(try omega)
 refine qT 12 17 (.pointer (some ⟨g0,0,none⟩)) hS0 (fun wz hSW=>?_) ?_
 ·skip;(try go_simp)<;>(try omega)
 refine qT 13 18 (.pointer (some ⟨g0,2,none⟩)) hS0 (fun wz hSW=>?_) ?_
 ·skip;(try go_simp)<;>(try omega)
 refine qT 14 19 (.iface T2 x2) hS0 (fun wz hSW=>?_) ?_
 ·have y2:wz.cell? ⟨g0,2,none⟩=some (.iface T2 x2):=(by rw [Lib.cell_of_heap (hSW _ _ _ _ (by decide) blk0)];rfl);(try go_simp)<;>(try omega)
 try simp only [Act.put,eA,eB,eC]
 refine wpAnyH_ready (rs:=[1,15]) (by kernel_rfl) (by simp) (AllReadyH.cons rfl (fun K hK=>?_) (AllReadyH.cons rfl (fun K hK=>?_) AllReadyH.nil))
 ·rw [iP (by rfl)];go_simp;refine hK.out _ _ (hS0.alloc _) (fun hSwy1=>?_);clear hK K;have hBwy1:=hB1.alloc hB1.size (.cells #[.int .u8 116] 5);have huwy1:=hu1.alloc (.cells #[.int .u8 116] 5);have rb:=World.ownsRow_lit (base:=0) (e:=5) (size:=1) w1 #[.int .u8 116] 1 (Nat.zero_le _) (by decide) (by simp);obtain ⟨gb,hgb⟩:∃ gb,w1.heap.size=gb:=⟨_,rfl⟩;rw [hgb] at rb |-;generalize w1.alloc (.cells #[.int .u8 116] 5)=wy1 at rb hSwy1 hBwy1 huwy1 |-
  try simp only [Act.put,eA,eB,eC]
  refine wpAnyH_ready (rs:=[2,15]) (by kernel_rfl) (by simp) (AllReadyH.cons rfl (fun K hK=>?_) (AllReadyH.cons rfl (fun K hK=>?_) AllReadyH.nil))
  ·rw [iP (by rfl)];refine wp_append_own _ _ _ 97 rfl w0.heap.size 5 i0 _ 1 1 Tryz.underlying97 hi hz0 hz1 hz2 rfl (by decide) u l.length (l.map bv) rfl huwy1 ⟨gb,0,none⟩ 1 1 [.int .u8 116] rfl rfl (rb.cells rfl) (by simp [Value.oneCell']) (by unfold maxLen;omega) (by omega) hBwy1.size ?_;intro u2 wy2 hnwy2 hgwy2 _;change K (Act.put _ (some 7) u2) wy2;have hBwy2:=below_row hBwy1 huwy1 hgwy2;have hKwy2:=keep_row hSwy1 huwy1 hgwy2;refine hK.out _ _ hKwy2 (fun _=>?_);clear hK K hgwy2
   try dsimp only
   try simp only [Act.put,eA,eB,eC]
   refine qR 15 fun K hK=>?_;go_simp;refine hK.out _ _ (hKwy2.alloc _) (fun hSwy3=>?_);clear hK K;have hBwy3:=hBwy2.alloc hBwy2.size (.cells #[.iface T0 x0,.iface T1 x1,.iface T2 x2] 115);have hswy3:=World.ownsRow_lit (base:=0) (e:=115) (size:=1) wy2 #[.iface T0 x0,.iface T1 x1,.iface T2 x2] 3 (Nat.zero_le _) (by decide) (by simp);have hnwy3:=hnwy2.alloc (.cells #[.iface T0 x0,.iface T1 x1,.iface T2 x2] 115);obtain ⟨gt,hgt⟩:∃ gt,wy2.heap.size=gt:=⟨_,rfl⟩;rw [hgt] at hswy3 |-;generalize wy2.alloc (.cells #[.iface T0 x0,.iface T1 x1,.iface T2 x2] 115)=wy3 at hswy3 hSwy3 hBwy3 hnwy3 |-
   try simp only [Act.put,eA,eB,eC]
   refine qR 16 fun K hK=>?_;go_simp;(with_reducible refine (f1.out _ _ _ _ hBwy3 hswy3 hnwy3).mono ?_);rintro e w3 ⟨u3,rfl,hu3,hb3,hk3⟩;refine hK.out _ _ (hSwy3.trans hk3) (fun hS3=>?_);have hKK:=(hSwy3).trans hk3;clear hK K;refine qT 17 4 (u3) hS3 (fun wz hSW=>?_) ?_
   ·skip;(try go_simp)<;>(try omega)
   try simp only [Act.put,eA,eB,eC]
   refine wpAnyH_done (by kernel_rfl) ?_ _;go_wp2;go_ret;exact ⟨_,rfl,hu3,hb3,hK0.trans hKK⟩
  ·rw [iP (by rfl)];go_simp;refine hK.out _ _ (hSwy1.alloc _) (fun hSwy4=>?_);clear hK K;have hBwy4:=hBwy1.alloc hBwy1.size (.cells #[.iface T0 x0,.iface T1 x1,.iface T2 x2] 115);have hswy4:=World.ownsRow_lit (base:=0) (e:=115) (size:=1) wy1 #[.iface T0 x0,.iface T1 x1,.iface T2 x2] 3 (Nat.zero_le _) (by decide) (by simp);have huwy4:=huwy1.alloc (.cells #[.iface T0 x0,.iface T1 x1,.iface T2 x2] 115);have rbwy4:=rb.alloc (.cells #[.iface T0 x0,.iface T1 x1,.iface T2 x2] 115);obtain ⟨gt,hgt⟩:∃ gt,wy1.heap.size=gt:=⟨_,rfl⟩;rw [hgt] at hswy4 |-;generalize wy1.alloc (.cells #[.iface T0 x0,.iface T1 x1,.iface T2 x2] 115)=wy4 at hswy4 hSwy4 hBwy4 huwy4 rbwy4 |-
   try simp only [Act.put,eA,eB,eC]
   refine qR 2 fun K hK=>?_;refine wp_append_own _ _ _ 97 rfl w0.heap.size 5 i0 _ 1 1 Tryz.underlying97 hi hz0 hz1 hz2 rfl (by decide) u l.length (l.map bv) rfl huwy4 ⟨gb,0,none⟩ 1 1 [.int .u8 116] rfl rfl (rbwy4.cells rfl) (by simp [Value.oneCell']) (by unfold maxLen;omega) (by omega) hBwy4.size ?_;intro u2 wy5 hnwy5 hgwy5 _;change K (Act.put _ (some 7) u2) wy5;have hBwy5:=below_row hBwy4 huwy4 hgwy5;have hKwy5:=keep_row hSwy4 huwy4 hgwy5;have hswy5:=(keep_row (KeepT.refl _) huwy4 hgwy5).row hswy4 (by decide);refine hK.out _ _ hKwy5 (fun _=>?_);clear hK K hgwy5
   try dsimp only
   try simp only [Act.put,eA,eB,eC]
   refine qR 16 fun K hK=>?_;go_simp;(with_reducible refine (f1.out _ _ _ _ hBwy5 hswy5 hnwy5).mono ?_);rintro e w3 ⟨u3,rfl,hu3,hb3,hk3⟩;refine hK.out _ _ (hKwy5.trans hk3) (fun hS3=>?_);have hKK:=(hKwy5).trans hk3;clear hK K;refine qT 17 4 (u3) hS3 (fun wz hSW=>?_) ?_
   ·skip;(try go_simp)<;>(try omega)
   try simp only [Act.put,eA,eB,eC]
   refine wpAnyH_done (by kernel_rfl) ?_ _;go_wp2;go_ret;exact ⟨_,rfl,hu3,hb3,hK0.trans hKK⟩
 ·rw [iP (by rfl)];go_simp;refine hK.out _ _ (hS0.alloc _) (fun hSwy6=>?_);clear hK K;have hBwy6:=hB1.alloc hB1.size (.cells #[.iface T0 x0,.iface T1 x1,.iface T2 x2] 115);have hswy6:=World.ownsRow_lit (base:=0) (e:=115) (size:=1) w1 #[.iface T0 x0,.iface T1 x1,.iface T2 x2] 3 (Nat.zero_le _) (by decide) (by simp);have huwy6:=hu1.alloc (.cells #[.iface T0 x0,.iface T1 x1,.iface T2 x2] 115);obtain ⟨gt,hgt⟩:∃ gt,w1.heap.size=gt:=⟨_,rfl⟩;rw [hgt] at hswy6 |-;generalize w1.alloc (.cells #[.iface T0 x0,.iface T1 x1,.iface T2 x2] 115)=wy6 at hswy6 hSwy6 hBwy6 huwy6 |-
  try simp only [Act.put,eA,eB,eC]
  refine qR 1 fun K hK=>?_;go_simp;refine hK.out _ _ (hSwy6.alloc _) (fun hSwy7=>?_);clear hK K;have hBwy7:=hBwy6.alloc hBwy6.size (.cells #[.int .u8 116] 5);have huwy7:=huwy6.alloc (.cells #[.int .u8 116] 5);have rb:=World.ownsRow_lit (base:=0) (e:=5) (size:=1) wy6 #[.int .u8 116] 1 (Nat.zero_le _) (by decide) (by simp);have hswy7:=hswy6.alloc (.cells #[.int .u8 116] 5);obtain ⟨gb,hgb⟩:∃ gb,wy6.heap.size=gb:=⟨_,rfl⟩;rw [hgb] at rb |-;generalize wy6.alloc (.cells #[.int .u8 116] 5)=wy7 at rb hSwy7 hBwy7 huwy7 hswy7 |-
  try simp only [Act.put,eA,eB,eC]
  refine qR 2 fun K hK=>?_;refine wp_append_own _ _ _ 97 rfl w0.heap.size 5 i0 _ 1 1 Tryz.underlying97 hi hz0 hz1 hz2 rfl (by decide) u l.length (l.map bv) rfl huwy7 ⟨gb,0,none⟩ 1 1 [.int .u8 116] rfl rfl (rb.cells rfl) (by simp [Value.oneCell']) (by unfold maxLen;omega) (by omega) hBwy7.size ?_;intro u2 wy8 hnwy8 hgwy8 _;change K (Act.put _ (some 7) u2) wy8;have hBwy8:=below_row hBwy7 huwy7 hgwy8;have hKwy8:=keep_row hSwy7 huwy7 hgwy8;have hswy8:=(keep_row (KeepT.refl _) huwy7 hgwy8).row hswy7 (by decide);refine hK.out _ _ hKwy8 (fun _=>?_);clear hK K hgwy8
  try dsimp only
  try simp only [Act.put,eA,eB,eC]
  refine qR 16 fun K hK=>?_;go_simp;(with_reducible refine (f1.out _ _ _ _ hBwy8 hswy8 hnwy8).mono ?_);rintro e w3 ⟨u3,rfl,hu3,hb3,hk3⟩;refine hK.out _ _ (hKwy8.trans hk3) (fun hS3=>?_);have hKK:=(hKwy8).trans hk3;clear hK K;refine qT 17 4 (u3) hS3 (fun wz hSW=>?_) ?_
  ·skip;(try go_simp)<;>(try omega)
  try simp only [Act.put,eA,eB,eC]
  refine wpAnyH_done (by kernel_rfl) ?_ _;go_wp2;go_ret;exact ⟨_,rfl,hu3,hb3,hK0.trans hKK⟩
theorem appOk {w0:World} (hv:Vars w0):∀ (t:Tm) (v:Value),t.Lim 9999->IRep w0 t v->AppOk w0 t v
 | .var n,_,hok,⟨g,rfl,hg⟩=>⟨_,_,_,rfl,methVar,fun _ _ _ hb hu hl=>appVar n hok hg hv hb hu hl⟩
 | .sort s,_,_,⟨g,rfl,hg⟩=>⟨_,_,_,rfl,methSort,fun _ _ _ hb hu hl=>appSort s hg hb hu hl⟩
 | .const s ls,_,_,⟨g,c,rfl,hg,hc⟩=>⟨_,_,_,rfl,methConst,fun _ _ _ hb hu hl=>appConst s hg hc hb hu hl⟩
 | .app f a,_,hok,⟨g,x,y,rfl,hg,hx,hy⟩=>by
  have h1:=appOk hv f x hok.1 hx;have h2:=appOk hv a y hok.2 hy;obtain ⟨T1,x1,rfl⟩:=hx.iface;obtain ⟨T2,y1,rfl⟩:=hy.iface;refine ⟨_,_,_,rfl,methApp,fun W u l hb hu hl=>?_⟩;have e:(Tm.app f a).bytes=64 :: cat [f,a]:=(by rw [cat_two];rfl);rw [e] at hl |-;exact appApp hg h1 h2 hb hu (by simpa using hl)
 | .lam f a,_,hok,⟨g,x,y,rfl,hg,hx,hy⟩=>by
  have h1:=appOk hv f x hok.1 hx;have h2:=appOk hv a y hok.2 hy;obtain ⟨T1,x1,rfl⟩:=hx.iface;obtain ⟨T2,y1,rfl⟩:=hy.iface;refine ⟨_,_,_,rfl,methLam,fun W u l hb hu hl=>?_⟩;have e:(Tm.lam f a).bytes=108 :: cat [f,a]:=(by rw [cat_two];rfl);rw [e] at hl |-;exact appLam hg h1 h2 hb hu (by simpa using hl)
 | .pi f a,_,hok,⟨g,x,y,rfl,hg,hx,hy⟩=>by
  have h1:=appOk hv f x hok.1 hx;have h2:=appOk hv a y hok.2 hy;obtain ⟨T1,x1,rfl⟩:=hx.iface;obtain ⟨T2,y1,rfl⟩:=hy.iface;refine ⟨_,_,_,rfl,methPi,fun W u l hb hu hl=>?_⟩;have e:(Tm.pi f a).bytes=112 :: cat [f,a]:=(by rw [cat_two];rfl);rw [e] at hl |-;exact appPi hg h1 h2 hb hu (by simpa using hl)
 | .lett f a b,_,hok,⟨g,x,y,z,rfl,hg,hx,hy,hz⟩=>by
  have h1:=appOk hv f x hok.1 hx;have h2:=appOk hv a y hok.2.1 hy;have h3:=appOk hv b z hok.2.2 hz;obtain ⟨T1,x1,rfl⟩:=hx.iface;obtain ⟨T2,y1,rfl⟩:=hy.iface;obtain ⟨T3,z1,rfl⟩:=hz.iface;refine ⟨_,_,_,rfl,methLet,fun W u l hb hu hl=>?_⟩;have e:(Tm.lett f a b).bytes=116 :: cat [f,a,b]:=(by rw [cat_three];rfl);rw [e] at hl |-;exact appLet hg h1 h2 h3 hb hu (by simpa using hl)
theorem implText {w0:World} (hv:Vars w0) {t:Tm} {v:Value} (hok:t.Lim 9999) (hr:IRep w0 t v) (hl:t.bytes.length<=100000000) :
  Rt 130 #[v] w0 (.string ⟨t.bytes.toArray⟩):=by
 obtain ⟨T,x,fn,rfl,hm,hc⟩:=appOk hv t v hok hr;exact implTextOf hm (hc w0 (.slice none 0 0) [] (bR _ _) (World.ownsRow_nil _ _ _ _) (by simpa using hl))
end Go.Proofs.YtcaahdjhbmmcnaaGreatDoor
