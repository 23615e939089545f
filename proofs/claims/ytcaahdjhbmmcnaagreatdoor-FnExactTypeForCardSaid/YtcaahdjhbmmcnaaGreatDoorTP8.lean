/- TIC TID TIDc GI7 -/
import Derived.Lib.AppendStr
import Derived.Shelf.Abstract
import Derived.Test.YtcaahdjhbmmcnaaGreatDoorTP2
import Derived.Test.YtcaahdjhbmmcnaaGreatDoorTP6
import Derived.Test.YtcaahdjhbmmcnaaGreatDoorTP5
set_option maxRecDepth 100000
set_option maxHeartbeats 16000000
set_option linter.unusedSimpArgs false
set_option linter.unusedVariables false
namespace Go.Proofs.YtcaahdjhbmmcnaaGreatDoor
open Go.ChangeShapes Go.WideShapes Go.ChangeAt Go.RowKit
theorem rE:(Tryz.prog.info? 5).map (fun i=>(i.zero,i.size,i.bytes))=some (some (.int .u8 0),1,1):=by kernel_rfl
theorem tI{w w':World}{row:Option Nat}{B:Nat}{o:Obj}(hg:w.grownBy w' row)(hb:w.heap[B]?=some o)(hne:row≠some B):w'.heap[B]?=some o:=by
 have hlt:B<w.heap.size:=by
  rcases Nat.lt_or_ge B w.heap.size with h'|h'
  ·exact h'
  ·rw[Array.getElem?_eq_none h'] at hb;cases hb
 rw[hg.block B hlt (fun e=>hne e.symm)];exact hb
theorem qP{w:World}{B:Nat}{o o':Obj}(hb:w.heap[B]?=some o):(w.alloc o').heap[B]?=some o:=by
 have hlt:B<w.heap.size:=by
  rcases Nat.lt_or_ge B w.heap.size with h'|h'
  ·exact h'
  ·rw[Array.getElem?_eq_none h'] at hb;cases hb
 rw[Below.heap_alloc _ _ _ hlt];exact hb
theorem jF{w:World}{b z n B:Nat}{v:Value}{xs:List Value}{cs:Array Value}{T:TypeId}{fr:Nat × Nat}(h:w.ownsRow b 5 z v n xs)(hb:w.heap[B]?=some (.cells cs T fr))(hT:T≠5):v.ownBlock≠some B:=by
 rcases h.2 with ⟨rfl,_⟩|⟨g,cap,cur,rfl,_,hg,_⟩
 ·simp[Value.ownBlock]
 ·simp only[Value.ownBlock,ne_eq,Option.some.injEq];rintro rfl;rw[hb] at hg;simp only[Option.some.injEq,Obj.cells.injEq] at hg;exact hT hg.2.1
def xV (W W':World):Prop:=∀ (B:Nat) (cs:Array Value) (T:TypeId) (fr:Nat × Nat),T≠5->W.heap[B]?=some (.cells cs T fr)->W'.heap[B]?=some (.cells cs T fr)
theorem xV.refl(W:World):xV W W:=fun _ _ _ _ _ h=>h
theorem xV.trans{a b c:World}(h:xV a b)(k:xV b c):xV a c:=fun B cs T fr hT hb=>k B cs T fr hT (h B cs T fr hT hb)
theorem xV.alloc{W w:World}(h:xV W w)(o:Obj):xV W (w.alloc o):=fun B cs T fr hT hb=>qP (h B cs T fr hT hb)
theorem xV.below{W w w':World}(h:xV W w)(hb:Below w.heap.size w w'):xV W w':=fun B cs T fr hT hx=>tI (zC hb none) (h B cs T fr hT hx) (by simp)
theorem yF{W w w':World}{b z n:Nat}{u:Value}{xs:List Value}(h:xV W w)(hu:w.ownsRow b 5 z u n xs)(hg:w.grownBy w' u.ownBlock):xV W w' :=
 fun B cs T fr hT hx=>tI hg (h B cs T fr hT hx) (jF hu (h B cs T fr hT hx) hT)
theorem xV.row{W W':World}{b z n:Nat}{e:TypeId}{v:Value}{xs:List Value}(h:xV W W')(hr:W.ownsRow b e z v n xs)(he:e≠5):W'.ownsRow b e z v n xs:=by
 refine⟨hr.1,?_⟩;rcases hr.2 with h1|⟨g,cap,cur,h1,h2,h3,h4⟩
 ·exact .inl h1
 ·exact .inr ⟨g,cap,cur,h1,h2,h _ _ _ _ he h3,h4⟩
def nK (w0 W:World) (out:List UInt8) (e:Ending) (W':World):Prop :=
 ∃ u,e=.returned u/\W'.ownsRow w0.heap.size 5 1 u out.length (out.map bv)/\Below w0.heap.size w0 W'/\xV W W'
theorem yJ{w0 w w':World}{u:Value}{n:Nat}{xs:List Value}(hb:Below w0.heap.size w0 w)(h:w.ownsRow w0.heap.size 5 1 u n xs)(hg:w.grownBy w' u.ownBlock):Below w0.heap.size w0 w' :=
 hb.grown hg hb.size fun k hk=>(h.lt k hk).1
theorem zT7(s:List UInt8){ls:List (List UInt8)}{w0 W:World}{b g0:Nat}{c u:Value}{l:List UInt8}(hg:w0.heap[g0]?=some (.cells #[.string ⟨s.toArray⟩,c] 126 (0,0)))(hr:w0.ownsRow b 9 1 c ls.length (ls.map sv))(hb:Below w0.heap.size w0 W)
  (hu:W.ownsRow w0.heap.size 5 1 u l.length (l.map bv)) (hl:l.length+(Tm.const s ls).bytes.length<=100000000) :
  Calls Tryz.prog 320 #[.pointer (some ⟨g0,0,none⟩),u] W (nK w0 W (l++(Tm.const s ls).bytes)):=by
 obtain⟨i0,hi,hz0,hz1,hz2⟩:=info_parts rE;obtain⟨ca,cc,rfl⟩:=zP hr;have HL:Hid (l++(Tm.const s ls).bytes=l++[99]++s++[59]++xA ls++[46]):=by simp[Hid,Tm.bytes]
 have hlen:l.length+(s.length+(xA ls).length+3)<=100000000:=by
  have:(Tm.const s ls).bytes.length=s.length+(xA ls).length+3:=(by simp[Tm.bytes];omega);omega
 have hbl:=(cU (ls:=ls)).1;have hzs:(⟨s.toArray⟩:ByteArray).size=s.length:=by simp[ByteArray.size]
 generalize l++(Tm.const s ls).bytes=out at HL;have HRO:=Ld hr;have hB0:=hb;have hz0w:=hb.size;have hK0:=xV.refl W;have hu0:=hu;have blk0:=yQ hg hb;clear hl hr hb hu hg;obtain⟨L0,rfl⟩:∃ x,x=l:=⟨_,rfl⟩;go_enter Tryz.func320,Tryz.ntmps320;go_wp2_with (at_builtin;refine wpList_append_own _ rfl _ _ 97 rfl w0.heap.size 5 i0 _ 1 1 Tryz.underlying97 hi hz0 hz1 hz2 rfl (by decide) _ _ _ rfl (hu0.alloc _) ⟨W.heap.size,0,none⟩ 1 1 [.int .u8 99] rfl rfl (yI _ _ _) (by simp[Value.oneCell']) (by simp only[maxLen];omega) (by omega) (by simp;omega) ?_);intro u1 w1 hx1 hg1 _;obtain⟨L1,hL1⟩:∃ y0,y0=L0++[(99:UInt8)]:=⟨_,rfl⟩;have hl1:L1.length<=L0.length+1:=by rw[hL1];simp
 have hu1:w1.ownsRow w0.heap.size 5 1 u1 L1.length (L1.map bv):=by rw[hL1];simpa [bv] using hx1
 have hB1:=yJ (hB0.alloc hB0.size _) (hu0.alloc _) hg1;have hK1:=yF (hK0.alloc _) (hu0.alloc _) hg1;have blkx:=qP (o':=.cells #[.int .u8 99] 5) blk0;have blk1:=tI hg1 blkx (jF (hu0.alloc _) blkx (by decide));have blky:=trivial;clear blkx blky;have hz1w:=hB1.size;have HL1:=Ld hL1;clear hx1 hg1 hL1 hu0 hB0 hK0 blk0;have c0:w1.cell? ⟨g0,0,none⟩=some (.string ⟨s.toArray⟩):=by rw[Lib.cell_of_heap blk1];rfl
 go_wp2_with (at_builtin;refine Lib.wpList_append_own_string _ rfl _ _ 97 9 rfl w0.heap.size 5 i0 Tryz.underlying97 Tryz.underlying9 hi hz0 hz1 hz2 _ _ _ rfl hu1 ⟨(s).toArray⟩ rfl (by simp only[maxLen,ByteArray.size,List.size_toArray];omega) (by simp only[ByteArray.size,List.size_toArray];omega) (by omega) ?_);intro u2 w2 hx2 hg2 _;obtain⟨L2,hL2⟩:∃ y0,y0=L1++s:=⟨_,rfl⟩;have hl2:L2.length<=L1.length+(s).length:=by rw[hL2];simp
 have hu2:w2.ownsRow w0.heap.size 5 1 u2 L2.length (L2.map bv):=by rw[hL2,List.map_append,lA];exact hx2
 have hB2:=yJ hB1 hu1 hg2;have hK2:=yF hK1 hu1 hg2;have blk2:=tI hg2 blk1 (jF hu1 blk1 (by decide));have hz2w:=hB2.size;have HL2:=Ld hL2;clear hx2 hg2 hL2 hu1 hB1 hK1 blk1;go_wp2_with (at_builtin;refine wpList_append_own _ rfl _ _ 97 rfl w0.heap.size 5 i0 _ 1 1 Tryz.underlying97 hi hz0 hz1 hz2 rfl (by decide) _ _ _ rfl (hu2.alloc _) ⟨w2.heap.size,0,none⟩ 1 1 [.int .u8 59] rfl rfl (yI _ _ _) (by simp[Value.oneCell']) (by simp only[maxLen];omega) (by omega) (by simp;omega) ?_);intro u3 w3 hx3 hg3 _;obtain⟨L3,hL3⟩:∃ y0,y0=L2++[(59:UInt8)]:=⟨_,rfl⟩;have hl3:L3.length<=L2.length+1:=by rw[hL3];simp
 have hu3:w3.ownsRow w0.heap.size 5 1 u3 L3.length (L3.map bv):=by rw[hL3];simpa [bv] using hx3
 have hB3:=yJ (hB2.alloc hB2.size _) (hu2.alloc _) hg3;have hK3:=yF (hK2.alloc _) (hu2.alloc _) hg3;have blkx:=qP (o':=.cells #[.int .u8 59] 5) blk2;have blk3:=tI hg3 blkx (jF (hu2.alloc _) blkx (by decide));have blky:=trivial;clear blkx blky;have hz3w:=hB3.size;have HL3:=Ld hL3;clear hx3 hg3 hL3 hu2 hB2 hK2 blk2;have c1:w3.cell? ⟨g0,1,none⟩=some (.slice ca ls.length cc):=by rw[Lib.cell_of_heap blk3];rfl
 clear blk3 c0;go_wp2;go_loopw [1,24] (fun v i wr=>∃ (k:Nat) (L:List UInt8),k<=ls.length/\i=.int .i64 k/\Hid (L=L3++xA (ls.take k))/\L.length<=L3.length+(xA ls).length/\wr.ownsRow w0.heap.size 5 1 v L.length (L.map bv)/\Below w0.heap.size w0 wr/\xV W wr) (fun _ i _=>ls.length - (intOf i).toNat)
 case atStart=>exact⟨0,L3,Nat.zero_le _,rfl,by simp[xA,Hid],by omega,hu3,hB3,hK3⟩
 case round =>
  obtain⟨k,L4,hk,rfl,hL4,hl4,hu4,hB4,hK4⟩:=hrel;have hz4w:=hB4.size;by_cases hlt:k<ls.length
  ·have hr:=zA HRO.out hB4;obtain⟨g,cap',e0,_,hgl⟩:=hr.form (by omega);cases e0;have ex:(ls.map sv)[k]?=some (sv ls[k]):=(by simp[hlt]);have cc:=(hr.cellAt k (by omega)).trans ex;unfold sv at cc;have q1:=zn k;have q2:(k:Int)<(ls.length:Int):=(by omega);have htk:Hid (xA (ls.take (k+1))=xA (ls.take k)++(ls[k]++[44])):=by
    rw[Hid,List.take_succ_eq_append_getElem hlt,vM];simp[xA]
   have hle:(xA (ls.take (k+1))).length<=(xA ls).length:=by
    have h1:=congrArg (fun z=>(xA z).length) (List.take_append_drop (k+1) ls);simp only[vM,lA] at h1;omega
   have HL4:=Ld hL4.out;have hLk:L4.length<=L3.length+(xA (ls.take k)).length:=(by rw[hL4.out,lA];exact nR _);have htl:=congrArg List.length htk.out;simp only[lA,lC,List.length_nil] at htl;generalize ls[k]=x at cc htk htl;clear ex hr hL4;go_wp2_with (at_builtin;refine Lib.wpList_append_own_string _ rfl _ _ 97 9 rfl w0.heap.size 5 i0 Tryz.underlying97 Tryz.underlying9 hi hz0 hz1 hz2 _ _ _ rfl hu4 ⟨(x).toArray⟩ rfl (by simp only[maxLen,ByteArray.size,List.size_toArray];omega) (by simp only[ByteArray.size,List.size_toArray];omega) (by omega) ?_);intro u5 w5 hx5 hg5 _;obtain⟨L5,hL5⟩:∃ y0,y0=L4++x:=⟨_,rfl⟩;have hl5:L5.length<=L4.length+(x).length:=(by rw[hL5];simp);have hu5:w5.ownsRow w0.heap.size 5 1 u5 L5.length (L5.map bv):=(by rw[hL5,List.map_append,lA];exact hx5);have hB5:=yJ hB4 hu4 hg5;have hK5:=yF hK4 hu4 hg5;have hz5w:=hB5.size;have HL5:=Ld hL5;clear hx5 hg5 hL5 hu4 hB4 hK4;go_wp2_with (at_builtin;refine wpList_append_own _ rfl _ _ 97 rfl w0.heap.size 5 i0 _ 1 1 Tryz.underlying97 hi hz0 hz1 hz2 rfl (by decide) _ _ _ rfl (hu5.alloc _) ⟨w5.heap.size,0,none⟩ 1 1 [.int .u8 44] rfl rfl (yI _ _ _) (by simp[Value.oneCell']) (by simp only[maxLen];omega) (by omega) (by simp;omega) ?_);intro u6 w6 hx6 hg6 _;obtain⟨L6,hL6⟩:∃ y0,y0=L5++[(44:UInt8)]:=⟨_,rfl⟩;have hl6:L6.length<=L5.length+1:=(by rw[hL6];simp);have hu6:w6.ownsRow w0.heap.size 5 1 u6 L6.length (L6.map bv):=(by rw[hL6];simpa [bv] using hx6);have hB6:=yJ (hB5.alloc hB5.size _) (hu5.alloc _) hg6
   have hK6:=yF (hK5.alloc _) (hu5.alloc _) hg6;have hz6w:=hB6.size;have HL6:=Ld hL6;clear hx6 hg6 hL6 hu5 hB5 hK5;have HN:Hid (L6=L3++xA (ls.take (k+1))):=(by rw[Hid,HL6.out,HL5.out,HL4.out,htk.out];simp);have hl6b:L6.length<=L3.length+(xA ls).length:=(by omega);clear HL6 HL5 HL4 htk;go_wp2;go_roundw
   case rel=>exact⟨k+1,L6,by omega,by go_num,HN.out,hl6b,hu6,hB6,hK6⟩
   case measure=>simp[intOf];omega
  ·have hE:L4=L3++xA ls:=(by rw[hL4.out,List.take_of_length_le (by omega)]);have HL4:=Ld hE;have d1:decide ((k:Int)<(ls.length:Int))=false:=dF (by omega);clear hE hL4;go_wp2_with (at_builtin;refine wpList_append_own _ rfl _ _ 97 rfl w0.heap.size 5 i0 _ 1 1 Tryz.underlying97 hi hz0 hz1 hz2 rfl (by decide) _ _ _ rfl (hu4.alloc _) ⟨wr.heap.size,0,none⟩ 1 1 [.int .u8 46] rfl rfl (yI _ _ _) (by simp[Value.oneCell']) (by simp only[maxLen];omega) (by omega) (by simp;omega) ?_);intro u5 w5 hx5 hg5 _;obtain⟨L5,hL5⟩:∃ y0,y0=L4++[(46:UInt8)]:=⟨_,rfl⟩;have hl5:L5.length<=L4.length+1:=(by rw[hL5];simp);have hu5:w5.ownsRow w0.heap.size 5 1 u5 L5.length (L5.map bv):=(by rw[hL5];simpa [bv] using hx5);have hB5:=yJ (hB4.alloc hB4.size _) (hu4.alloc _) hg5;have hK5:=yF (hK4.alloc _) (hu4.alloc _) hg5;have hz5w:=hB5.size;have HL5:=Ld hL5;clear hx5 hg5 hL5 hu4 hB4 hK4;have HF:Hid (out=L5):=(by rw[Hid,HL.out,HL5.out,HL4.out,HL3.out,HL2.out,HL1.out]);clear HL HL1 HL2 HL3 HL4 HL5;go_wp2;go_ret;rw[HF.out];exact⟨_,rfl,hu5,hB5,hK5⟩
def lM (T:TypeId) (fn:FuncId):Prop :=
 (∀ n x w,(method (n+1) T x "loop.example/g00963/impl.appendTo").run Tryz.prog w=.ok (fn,x) w)/\∀ args w,(callFunc fn args).run Tryz.prog w=.ok (.enter fn args) w
theorem zB9:lM 124 320 := ⟨fun n x w=>by kernel_rfl,Go.Proofs.enters_of Tryz.func320 (by kernel_rfl) rfl⟩
theorem dD{w0:World}{T:TypeId}{fn:FuncId}{x:Value}{out:List UInt8}(hm:lM T fn)(hc:Calls Tryz.prog fn #[x,.slice none 0 0] w0 (nK w0 w0 out)) :
  Rt 130 #[.iface T x] w0 (.string ⟨out.toArray⟩):=by
 obtain⟨m1,m2⟩:=hm;have f1:=Ld hc;clear hc;go_enter Tryz.func130,Tryz.ntmps130;go_wp2_with fail;(with_reducible refine f1.out.mono ?_);rintro e w1 ⟨u,rfl,hu,hb,_⟩;have hcv:=rV (P:=Tryz.prog) w1 Tryz.underlying97 Tryz.underlying5 Tryz.underlying9 hu;have HB:=Ld hb;clear hu hb;go_wp2;go_ret;exact⟨rfl,HB.out⟩
theorem yB3(s:List UInt8){ls:List (List UInt8)}{w0:World}{b g0:Nat}{c:Value}(hg:w0.heap[g0]?=some (.cells #[.string ⟨s.toArray⟩,c] 126 (0,0)))(hr:w0.ownsRow b 9 1 c ls.length (ls.map sv))(hl:(Tm.const s ls).bytes.length<=100000000) :
  Rt 130 #[.iface 124 (.pointer (some ⟨g0,0,none⟩))] w0 (.string ⟨(Tm.const s ls).bytes.toArray⟩) :=
 dD zB9 (zT7 (l:=[]) s hg hr (bR _ _) (World.ownsRow_nil _ _ _ _) (by simpa using hl))
theorem bJ(s:ByteArray){W:World}{b:Nat}{u:Value}{ls:List (List UInt8)}(h:W.ownsRow b 9 1 u ls.length (ls.map sv))(hs:s.size<=maxLen)(hx:∀ x∈ls,x.length<=maxLen)(hn:ls.length<=10000000) :
  Rt 178 #[.string s,u] W (.string ⟨(oL s.data.toList ls).toArray⟩):=by
 obtain⟨a0,cap,rfl⟩:=zP h;have hb0:=Below.alloc (bR W.heap.size W) (nR _) (.cells #[.string s,.slice a0 ls.length cap] 126);have hblk:(W.alloc (.cells #[.string s,.slice a0 ls.length cap] 126)).heap[W.heap.size]?=some (.cells #[.string s,.slice a0 ls.length cap] 126 (0,0)):=heap_alloc_new W _;have f1:=Ld (zD4 s hblk (h.alloc (.cells #[.string s,.slice a0 ls.length cap] 126)) hs hx hn);by_cases hok:uH s.data.toList ls=true
 ·have hok2:=tP.1 hok;have HE:Hid (oL s.data.toList ls=(Tm.const s.data.toList ls).bytes):=iP hok2;have h40:=qK hok2.1;have hlv:(xA ls).length<=183:=by
   have:∀ {ls:List (List UInt8)},(∀ y∈ls,zD y=true)->(xA ls).length<=ls.length*61:=by
    intro ls
    induction ls with
   |nil=>intro _;simp[xA]
   |cons x r ih =>
     intro h;have h1:=(zK (h x List.mem_cons_self)).1;have h2:=ih fun y hy=>h y (List.mem_cons_of_mem _ hy);simp only[xA,lA,lC];omega
   have h1:=this hok2.2.2;have h2:ls.length<=3:=hok2.2.1;have:ls.length*61<=183:=(by omega);omega
  have hbl:(Tm.const s.data.toList ls).bytes.length<=100000000:=by
   simp only[Tm.bytes,lC,lA,List.length_nil];omega
  have f2:=Ld fun W1 (hb:Below (W.alloc (.cells #[.string s,.slice a0 ls.length cap] 126)).heap.size (W.alloc (.cells #[.string s,.slice a0 ls.length cap] 126)) W1) =>
   yB3 s.data.toList (yQ hblk hb) (zA (h.alloc (.cells #[.string s,.slice a0 ls.length cap] 126)) hb) hbl
  rw[hok] at f1;generalize (Tm.const s.data.toList ls).bytes=tb at f2 HE;have HB0:=Ld hb0;clear hok hok2 h40 hlv h hx hb0 hbl hblk;go_enter Tryz.func178,Tryz.ntmps178;go_wp2_with fail;(with_reducible refine mo f1.out fun w1 hb1=>?_);have HB1:=Ld hb1;clear hb1 f1;go_wp2_with fail;(with_reducible refine mo (f2.out _ HB1.out) fun w2 hb2=>?_);have HB2:=Ld ((HB0.out.trans (HB1.out.mono HB0.out.size)).trans (hb2.mono (HB0.out.trans (HB1.out.mono HB0.out.size)).size));clear hb2;go_wp2;go_ret;rw[HE.out];exact⟨rfl,HB2.out⟩
 ·have HE:Hid (oL s.data.toList ls=[]):=iN fun hc=>hok (tP.2 hc);rw[Bool.not_eq_true] at hok;rw[hok] at f1;have HB0:=Ld hb0;clear hok h hx hb0 hblk;go_enter Tryz.func178,Tryz.ntmps178;go_wp2_with fail;(with_reducible refine mo f1.out fun w1 hb1=>?_);have HB1:=bt HB0.out hb1;clear hb1 HB0 f1;go_wp2;go_ret;rw[HE.out];exact⟨rfl,HB1.out⟩
theorem nJ{n:Nat}(w:World)(hn:n<=3)(hv:Vars w) :
  Rt 183 #[.int .i64 (n:Int)] w (.string ⟨(117::Lib.decDigits n).toArray⟩):=by
 have HX:=Ld (iY (Lib.decDigits n));have HI:Hid (Lib.itoa ((n:Nat):Int)=Lib.decDigits n):=Lib.itoa_nonneg n;have f1:=Ld (nY (n:Int) w (by omega) (by omega) hv.tab);have hdk:(Lib.decDigits n).length<=21:=by rw[Lib.decDigits_one (by omega)];simp
 rw[HI.out] at f1;clear HI;generalize Lib.decDigits n=dk at HX hdk f1 |-;have zdk:=zO dk;go_enter Tryz.func183,Tryz.ntmps183;go_wp2_with fail;(with_reducible refine mo f1.out fun w1 hb1=>?_);have HB:=Ld hb1;clear hb1 f1 hv;go_wp2;go_ret;rw[← HX.out];exact⟨rfl,HB.out⟩
theorem oD{n:Nat}(w:World)(hn:n<=3)(hv:Vars w) :
  Calls Tryz.prog 179 #[.int .i64 (n:Int)] w (oS (zW n) w):=by
 obtain⟨i0,hi,hz0,hz1,hz2⟩:=info_parts tF;have hrow0:=Ld (World.ownsRow_nil w w.heap.size 9 1);have hbl0:=Ld (bR w.heap.size w);go_enter Tryz.func179,Tryz.ntmps179;go_wp2;go_loopw [3,6] (fun o i wr=>∃ (k:Nat) (oo:Value),k<=n/\i=.int .i64 k/\oo=o/\Hid (wr.ownsRow w.heap.size 9 1 oo k ((zW k).map sv))/\Hid (Below w.heap.size w wr)) (fun _ i _=>n - (intOf i).toNat)
 case atStart=>exact⟨0,_,Nat.zero_le _,rfl,rfl,hrow0.out,hbl0.out⟩
 case round =>
  obtain⟨k,oo,hk,rfl,rfl,HO,HW⟩:=hrel;have hz:=HW.out.size;have HT:=Ld (kS k);have HX:=Ld (iY (Lib.decDigits k));have HI:Hid (Lib.itoa ((k:Nat):Int)=Lib.decDigits k):=Lib.itoa_nonneg k;have f1:=Ld fun (hkn:k<=3)=>nJ wr hkn (hv.below HW.out);have hdk:(Lib.decDigits k).length<=21:=(by rw[Lib.decDigits_one (by omega)];simp);by_cases hlt:k<n
  ·go_wp2_with fail;(with_reducible refine mo (f1.out (by omega)) fun w1 hb1=>?_);have HO1:=Ld (zA HO.out hb1);have HW1:=bt HW.out hb1;have hz1':=HW1.out.size;clear hb1 f1 HO HW;generalize Lib.decDigits k=dk at HX HT hdk;have zdk:=zO dk;go_wp2_with (at_builtin;refine wpList_append_own _ rfl _ _ 31 rfl w.heap.size 9 i0 _ 1 16 Tryz.underlying31 hi hz0 hz1 hz2 rfl (by decide) _ _ _ rfl (HO1.out.alloc _) ⟨w1.heap.size,0,none⟩ 1 1 [.string ⟨(117::dk).toArray⟩] rfl rfl (yI _ _ _) (by simp[Value.oneCell']) (by simp only[maxLen];omega) (by omega) (by simp;omega) ?_;intro v2 w2 hown2 hgrow hnil2);have HO2:Hid (w2.ownsRow w.heap.size 9 1 v2 (k+1) ((zW (k+1)).map sv)):=by
    rw[Hid,HT.out];exact hown2
   have HW2:Hid (Below w.heap.size w w2):=(HW1.out.alloc hz1' _).grown hgrow (by simp;omega) (fun q hq=>(HO1.out.lt q hq).1);clear hown2 hgrow;go_wp2;go_roundw
   case rel=>exact⟨k+1,_,by omega,by go_num,rfl,HO2.out,HW2.out⟩
   case measure=>simp[intOf];omega
  ·obtain rfl:k=n:=(by omega);clear f1;go_wp2;go_ret;refine⟨_,rfl,?_,HW.out⟩;rw[uN];exact HO.out
theorem eZ{n:Nat}(hn:n<=3):∀ x∈zW n,zD x=true/\x.length<=2:=by
 have h0:Lib.decDigits 0=[48]:=Lib.decDigits_one (by decide);have h1:Lib.decDigits 1=[49]:=Lib.decDigits_one (by decide);have h2:Lib.decDigits 2=[50]:=Lib.decDigits_one (by decide);have l0:zD [117,48]=true:=by simp[zD,xW]
 have l1:zD [117,49]=true:=by simp[zD,xW]
 have l2:zD [117,50]=true:=by simp[zD,xW]
 intro x hx;unfold zW at hx;obtain⟨i,hi,rfl⟩:=List.mem_map.1 hx;rw[List.mem_range] at hi;have e:i=0\/i=1\/i=2:=by omega
 rcases e with rfl|rfl|rfl
 ·rw[h0];exact⟨l0,by simp⟩
 ·rw[h1];exact⟨l1,by simp⟩
 ·rw[h2];exact⟨l2,by simp⟩
theorem zO8{d:Dc}(h:zT d=true):zN d.name=true:=by
 simp only[zT,Bool.and_eq_true] at h;exact h.1
theorem pH{w:World}{d:Dc}{b:Nat}{u:Value}(h:w.ownsRow b 88 2 u d.ctors.length (xJ d.ctors))(hs:d.Small)(hr:d.Rng)(hv:Vars w)(hm:MaxLenInt w) :
  Rt 133 #[d.val u] w (.string ⟨(zM d).toArray⟩):=by
 obtain⟨kd,nm,ps,fl,ty,vl,cs⟩:=d;obtain⟨ua,uc,rfl⟩:=zF h;have HB0:=Ld (zG w (dC kd nm ps fl ty vl (.slice ua cs.length uc) 52));have f1:=Ld (kD (d:=⟨kd,nm,ps,fl,ty,vl,cs⟩) (zA h HB0.out) hs hr (hv.below HB0.out) (hm.below HB0.out));have hval:=mE kd nm ps fl ty vl cs (.slice ua cs.length uc);rw[hval] at f1 |-;have s1:=hs.name;simp only at s1;have HE:Hid (zM ⟨kd,nm,ps,fl,ty,vl,cs⟩=if zT ⟨kd,nm,ps,fl,ty,vl,cs⟩=true then (Tm.const nm (zW ps.toNat)).bytes else []):=rfl;have HP:Hid (zT ⟨kd,nm,ps,fl,ty,vl,cs⟩=true->(0<=ps/\ps<=3)/\zN nm=true):=fun h=>⟨xF h,zO8 h⟩;have HX:=Ld (yZ (w:=w) (kd:=kd) (ps:=ps) (fl:=fl) (nm:=nm) (ty:=ty) (vl:=vl) (u:=.slice ua cs.length uc));have znm:=zO nm;have HV:=Ld (hv.below HB0.out);obtain⟨c0,c1,c2,c3,c4,c5,c6⟩:=HX.out _ (bR _ _);clear h hval hs hr hv hm;generalize zT ⟨kd,nm,ps,fl,ty,vl,cs⟩=ok at f1 HE HP;go_enter Tryz.func133,Tryz.ntmps133;go_wp2_with fail;(with_reducible refine mo f1.out fun w1 hb=>?_);have HBX:=Ld hb;have HB1:=bt HB0.out hb;clear c0 c1 c2 c3 c4 c5 c6;obtain⟨c0,c1,c2,c3,c4,c5,c6⟩:=HX.out _ hb;clear hb f1;cases ok
 ·have HF:Hid (zM ⟨kd,nm,ps,fl,ty,vl,cs⟩=[]):=(by rw[Hid,HE.out];rfl);go_wp2;go_ret;rw[HF.out];exact⟨rfl,HB1.out⟩
 ·obtain⟨⟨p0,p3⟩,hnm⟩:=HP.out rfl;obtain⟨n,rfl⟩:∃ n:Nat,ps=(n:Int):=⟨ps.toNat,by omega⟩
  have hOk:(Tm.const nm (zW n)).Ok:=tP.1 (by
   simp only[uH,hnm,uN,Bool.true_and,Bool.and_eq_true,decide_eq_true_eq,List.all_eq_true];exact⟨by omega,fun x hx=>(eZ (by omega) x hx).1⟩)
  have HF:Hid (zM ⟨kd,nm,n,fl,ty,vl,cs⟩=oL nm (zW n)):=(by rw[Hid,HE.out,show oL nm (zW n)=(Tm.const nm (zW n)).bytes from iP hOk];rfl);have f2:=Ld fun W (hW:Vars W)=>oD (n:=n) W (by omega) hW;have f3:=Ld fun (W:World) (b:Nat) (v:Value) (h:W.ownsRow b 9 1 v (zW n).length ((zW n).map sv))=>bJ (⟨nm.toArray⟩:ByteArray) h (by unfold maxLen;omega) (fun x hx=>by have:=(eZ (n:=n) (by omega) x hx).2;unfold maxLen;omega) (by rw[uN];omega);simp only at f3;have HV1:=Ld (HV.out.below HBX.out.drew);clear HE HP hOk hnm HV;go_wp2;go_region_held3 (fun w'=>w'.cell? ⟨w.heap.size,0,none⟩=some (.int .i64 kd)/\w'.cell? ⟨w.heap.size,1,none⟩=some (.string ⟨nm.toArray⟩)/\w'.cell? ⟨w.heap.size,2,none⟩=some (.int .i64 n)/\w'.cell? ⟨w.heap.size,3,none⟩=some (.int .i64 fl)/\w'.cell? ⟨w.heap.size,4,none⟩=some (.string ⟨ty.toArray⟩)/\w'.cell? ⟨w.heap.size,5,none⟩=some (.string ⟨vl.toArray⟩)/\w'.cell? ⟨w.heap.size,6,none⟩=some (.slice ua cs.length uc)) (first|exact X6|exact X5|exact⟨c0,c1,c2,c3,c4,c5,c6⟩)
   (first|(go_at_call 179;(with_reducible refine(f2.out _ HV1.out).mono ?_);rintro e w5 ⟨v5,rfl,hv5,hb5⟩;have hd5:=HBX.out.drew.trans (hb5.mono HBX.out.drew.size);have X5:=HX.out _ hd5)|(go_at_call 178;(with_reducible refine mo (f3.out _ _ _ hv5) fun w6 hb6=>?_);have hd6:=hd5.trans (hb6.mono hd5.size);have X6:=HX.out _ hd6;have HB6:=bt HB0.out hd6))
  go_wp2;go_ret;rw[HF.out];exact⟨rfl,HB6.out⟩
end Go.Proofs.YtcaahdjhbmmcnaaGreatDoor
