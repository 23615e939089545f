/- VB VSB VI3 HL1 -/
import Derived.Lib.Hide
import Derived.Lib.Walk
import Derived.Lib.Builder
import Derived.Lib.AppendStr
import Derived.Laws.Externs
import Derived.WalkKit
import Derived.Shelf.Strings.Builder1
import Derived.Test.YtcaahdjhbmmcnaaGreatDoorProg
import Derived.Deep.RegionHeld3
import Derived.Test.YtcaahdjhbmmcnaaGreatDoorTBase
import Derived.Test.YtcaahdjhbmmcnaaGreatDoorTP4
import Derived.Test.YtcaahdjhbmmcnaaGreatDoorTKC
import Derived.Test.YtcaahdjhbmmcnaaGreatDoorTA6
import Derived.Test.YtcaahdjhbmmcnaaGreatDoorTH1
import Derived.Test.YtcaahdjhbmmcnaaGreatDoorTP3
set_option maxRecDepth 100000
set_option maxHeartbeats 16000000
set_option linter.unusedSimpArgs false
set_option linter.unusedVariables false
namespace Go.Proofs.YtcaahdjhbmmcnaaGreatDoor
open Go.ChangeShapes Go.WideShapes Go.ChangeAt Go.RowKit
theorem yK9:(Tryz.prog.info? 238).map (fun i=>i.size)=some 2:=by kernel_rfl
theorem xB5:liesAt Tryz.prog Tryz.prog.depth 238 (2 / Tryz.prog.cellsOf 238) 0 238 1=true:=by kernel_rfl
theorem yU5:(Tryz.prog.info? 5).map (fun i=>(i.zero,i.size,i.bytes))=some (some (.int .u8 0),1,1):=by kernel_rfl
theorem zH6(b:Nat)(w:World)(h:w.cell? ⟨b,0,none⟩=some (.pointer (some ⟨b,0,none⟩))) :
  Calls Tryz.prog 238 #[.pointer (some ⟨b,0,none⟩)] w fun e w'=>e=.returned (.tuple #[])/\w'=w:=by
 obtain⟨j,hj,_⟩:=Option.map_eq_some_iff.1 yK9;go_enter Tryz.func238,Tryz.ntmps238;go_wp2;rw[Lib.run_neq_ptr_same w _ Tryz.underlying236 hj];go_wp2;go_end0;exact⟨rfl,rfl⟩
theorem zP7(b:Nat)(w:World)(h:w.cell? ⟨b,0,none⟩=some (.pointer none))(hs:w.shape? b=some (238,2))(hz:w.frozen? ⟨b,0,none⟩=false) :
  Calls Tryz.prog 238 #[.pointer (some ⟨b,0,none⟩)] w fun e w'=>e=.returned (.tuple #[])/\w'=w.setCell ⟨b,0,none⟩ (.pointer (some ⟨b,0,none⟩)):=by
 obtain⟨j,hj,hjs⟩:=Option.map_eq_some_iff.1 yK9;go_enter Tryz.func238,Tryz.ntmps238;go_wp2;rw[Lib.run_to_unsafe w ⟨b,0,none⟩ Tryz.underlying236 Tryz.underlying270 hj (by rw[hjs];decide) hs (Nat.zero_lt_succ 1)];simp only[Result.andThen];rw[Oper.upon_value];go_wp2;rw[run_callFunc_extern Tryz.func257 (by kernel_rfl) (by kernel_rfl) (by kernel_rfl) (e:=Extern.AbiNoEscape.same) (by kernel_rfl),Lib.run_noEscape];simp only[Result.andThen];rw[Oper.upon_value];go_wp2;rw[Lib.run_from_unsafe w ⟨b,0,none⟩ Tryz.underlying270 Tryz.underlying236 hj hs xB5];simp only[Result.andThen];rw[Oper.upon_value];go_wp2;go_end0;exact⟨rfl,rfl⟩
theorem zT4{B b:Nat}{bs:List Value}{w:World}(h:Lib.IsBuilder 238 5 B b bs w) :
  Calls Tryz.prog 238 #[.pointer (some ⟨b,0,none⟩)] w fun e w'=>e=.returned (.tuple #[])/\Lib.BuilderAt 238 5 B b (.pointer (some ⟨b,0,none⟩)) bs w'/\Below B w w':=by
 rcases h with h|h
 ·refine(zP7 b w h.cell0 h.shape h.frozen0).mono ?_;rintro e w' ⟨rfl,rfl⟩;exact⟨rfl,h.used _,(bR B w).setCell (p:=⟨b,0,none⟩) h.1 _⟩
 ·refine(zH6 b w h.cell0).mono ?_;rintro e w' ⟨rfl,rfl⟩;exact⟨rfl,h,bR B _⟩
theorem zH3:∃ i,Tryz.prog.info? 5=some i/\i.zero=some (.int .u8 0)/\i.size=1/\i.bytes=1:=by
 obtain⟨i,h1,h2⟩:=Option.map_eq_some_iff.1 yU5;simp only[Prod.mk.injEq] at h2;exact⟨i,h1,h2.1,h2.2.1,h2.2.2⟩
theorem iV{w:World}{b:Nat}{o:Obj}(h:w.heap[b]?=some o):b<w.heap.size:=by
 rcases Nat.lt_or_ge b w.heap.size with h'|h'
 ·exact h'
 ·rw[Array.getElem?_eq_none h'] at h;cases h
theorem xB6{B b:Nat}{bs:List Value}(c:Int){w:World}(h:Lib.IsBuilder 238 5 B b bs w)(hl:bs.length<=1000000000)(hB:B<=w.heap.size) :
  Calls Tryz.prog 215 #[.pointer (some ⟨b,0,none⟩),.int .u8 c] w fun e w'=>e=.returned .nilIface/\Lib.BuilderAt 238 5 B b (.pointer (some ⟨b,0,none⟩)) (bs++[.int .u8 c]) w'/\Below B w w':=by
 obtain⟨i,hi,hz,h1,h2⟩:=zH3;have f1:=Ld (zT4 h);go_enter Tryz.func215,Tryz.ntmps215;go_wp2_with fail;(with_reducible refine f1.out.mono ?_);rintro e w1 ⟨rfl,⟨hBb,v,hblk,hown,hne⟩,hb1⟩;have hz1:=hb1.size;have k0:w1.cell? ⟨b,0,none⟩=some (.pointer (some ⟨b,0,none⟩)):=by rw[Lib.cell_of_heap hblk];rfl
 have k1:w1.cell? ⟨b,1,none⟩=some v:=by rw[Lib.cell_of_heap hblk];rfl
 go_wp2_with (at_builtin;refine wpList_append_own _ rfl _ _ 97 rfl B 5 i (.int .u8 0) 1 1 Tryz.underlying97 hi hz h1 h2 rfl (by decide) _ _ _ rfl (hown.alloc _) ⟨w1.heap.size,0,none⟩ 1 1 [.int .u8 c] rfl rfl ?g1 ?g2 ?g3 ?g4 ?g5 ?_)
 case g1 =>
  intro j u hj;cases j with
 |zero=>simp at hj;subst hj;simp[Addr.add]
 |succ j=>simp at hj
 case g2=>intro u hu;simp at hu;subst hu;rfl
 case g3=>unfold maxLen;omega
 case g4=>omega
 case g5=>simp;omega
 intro v2 w2 hown2 hgrow _;have hlt:=iV hblk;have hblk2:w2.heap[b]?=some (.cells #[.pointer (some ⟨b,0,none⟩),v] 238 (0,0)):=by
  rw[hgrow.block b (by simp;omega) (fun e=>hne e.symm),Lib.alloc_old w1 _ b hlt];exact hblk
 have k2:w2.cell? ⟨b,0,none⟩=some (.pointer (some ⟨b,0,none⟩)):=by rw[Lib.cell_of_heap hblk2];rfl
 have k3:w2.cell? ⟨b,1,none⟩=some v:=by rw[Lib.cell_of_heap hblk2];rfl
 have k4:w2.frozen? ⟨b,1,none⟩=false:=Lib.frozen_of_heap hblk2 1;obtain⟨ao,n2,cap,rfl⟩:∃ ao n2 cap,v2=.slice ao n2 cap:=by
  rcases hown2.2 with ⟨hv,_⟩|⟨g,cap,cur,hv,_⟩
  ·exact⟨_,_,_,hv⟩
  ·exact⟨_,_,_,hv⟩
 go_wp2;go_ret;refine⟨rfl,Lib.BuilderAt.put (T:=238) (e:=5) hBb hblk2 (bs':=bs++[.int .u8 c]) (by simpa using hown2) (by decide),?_⟩;exact((hb1.alloc (by omega) _).grown hgrow (by simp;omega) (fun k hk=>(hown.lt k hk).1)).setCell (p:=⟨b,1,none⟩) hBb _
theorem yK8{B b:Nat}{bs:List Value}(s:ByteArray){w:World}(h:Lib.IsBuilder 238 5 B b bs w)(hl:bs.length<=1000000000)(hs:s.size<=1000000000)(hB:B<=w.heap.size) :
  Calls Tryz.prog 214 #[.pointer (some ⟨b,0,none⟩),.string s] w fun e w'=>e=.returned (.tuple #[.int .i64 s.size,.nilIface])/\Lib.BuilderAt 238 5 B b (.pointer (some ⟨b,0,none⟩)) (bs++Lib.strCells s) w'/\Below B w w':=by
 obtain⟨i,hi,hz,h1,h2⟩:=zH3;have f1:=Ld (zT4 h);go_enter Tryz.func214,Tryz.ntmps214;go_wp2_with fail;(with_reducible refine f1.out.mono ?_);rintro e w1 ⟨rfl,⟨hBb,v,hblk,hown,hne⟩,hb1⟩;have hz1:=hb1.size;have k0:w1.cell? ⟨b,0,none⟩=some (.pointer (some ⟨b,0,none⟩)):=by rw[Lib.cell_of_heap hblk];rfl
 have k1:w1.cell? ⟨b,1,none⟩=some v:=by rw[Lib.cell_of_heap hblk];rfl
 go_wp2_with (at_builtin;refine Lib.wpList_append_own_string _ rfl _ _ 97 9 rfl B 5 i Tryz.underlying97 Tryz.underlying9 hi hz h1 h2 _ _ _ rfl hown s rfl ?g3 ?g4 ?g5 ?_)
 case g3=>unfold maxLen;omega
 case g4=>omega
 case g5=>omega
 intro v2 w2 hown2 hgrow _;have hlt:=iV hblk;have hblk2:w2.heap[b]?=some (.cells #[.pointer (some ⟨b,0,none⟩),v] 238 (0,0)):=by
  rw[hgrow.block b hlt (fun e=>hne e.symm)];exact hblk
 have k2:w2.cell? ⟨b,0,none⟩=some (.pointer (some ⟨b,0,none⟩)):=by rw[Lib.cell_of_heap hblk2];rfl
 have k3:w2.cell? ⟨b,1,none⟩=some v:=by rw[Lib.cell_of_heap hblk2];rfl
 have k4:w2.frozen? ⟨b,1,none⟩=false:=Lib.frozen_of_heap hblk2 1;obtain⟨ao,n2,cap,rfl⟩:∃ ao n2 cap,v2=.slice ao n2 cap:=by
  rcases hown2.2 with ⟨hv,_⟩|⟨g,cap,cur,hv,_⟩
  ·exact⟨_,_,_,hv⟩
  ·exact⟨_,_,_,hv⟩
 go_wp2;go_ret2;refine⟨rfl,Lib.BuilderAt.put (T:=238) (e:=5) hBb hblk2 (bs':=bs++Lib.strCells s) (by simpa [Lib.strCells_length] using hown2) (by decide),?_⟩;exact(hb1.grown hgrow (by omega) (fun k hk=>(hown.lt k hk).1)).setCell (p:=⟨b,1,none⟩) hBb _
end Go.Proofs.YtcaahdjhbmmcnaaGreatDoor
namespace Go.Proofs
open Go.Shelf
def Tryz.lays169_ren:Go.Shelf.Ren:=⟨fun|169=>216|n=>n,fun|70=>236|9=>9|0=>0|72=>238|37=>97|127=>226|3=>3|5=>5|n=>n,fun|n=>n⟩
theorem Tryz.lays169:Go.Proofs.Lays.n169 Tryz.prog Tryz.lays169_ren:={
 mixed:=by kernel_rfl
 f169:=Tryz.func216.trans (congrArg some (by kernel_rfl))
 t0:=Tryz.underlying0
 a0:=Tryz.isAgg0
 z0:=Tryz.sizeOf0
 v0:=Tryz.zeroValue0
 t3:=Tryz.underlying3
 a3:=Tryz.isAgg3
 z3:=Tryz.sizeOf3
 v3:=Tryz.zeroValue3
 t9:=Tryz.underlying9
 a9:=Tryz.isAgg9
 z9:=Tryz.sizeOf9
 v9:=Tryz.zeroValue9
 t37:=Tryz.underlying97
 a37:=Tryz.isAgg97
 z37:=Tryz.sizeOf97
 v37:=Tryz.zeroValue97
 t70:=Tryz.underlying236
 a70:=Tryz.isAgg236
 z70:=Tryz.sizeOf236
 v70:=Tryz.zeroValue236
 t72:=Tryz.underlying238
 a72:=Tryz.isAgg238
 z72:=Tryz.sizeOf238
 v72:=Tryz.zeroValue238
 t127:=Tryz.underlying226
 a127:=Tryz.isAgg226
 z127:=Tryz.sizeOf226
 v127:=Tryz.zeroValue226 }
theorem Tryz.Builder_Extra_169:Builder.Extra Tryz.prog Tryz.lays169_ren:={
 sizeBuilder:=by kernel_rfl
 liesBuilder:=by kernel_rfl
 t5:=Tryz.underlying5
 a5:=Tryz.isAgg5
 z5:=Tryz.sizeOf5
 v5:=Tryz.zeroValue5
 infoByte:=by kernel_rfl
 cellsByte:=by kernel_rfl
 sizeByte:=by kernel_rfl
 neB5:=by decide }
open Go.RowKit in
theorem Tryz.Builder_String_any(B b:Nat)(l:List UInt8)(w:World)(h:Lib.IsBuilder 238 5 B b (Lib.byteCells l) w)(hBw:B<=w.heap.size) :
  Calls Tryz.prog 216 #[.pointer (some ⟨b,0,none⟩)] w fun e w'=>e=.returned (.string ⟨l.toArray⟩)/\Below B w w':=Any.Builder_String_any Tryz.lays169 Tryz.Builder_Extra_169 B b l w h hBw
end Go.Proofs
namespace Go.Proofs.YtcaahdjhbmmcnaaGreatDoor
open Go.ChangeShapes Go.WideShapes Go.ChangeAt Go.RowKit
def mD (args:List (List UInt8)):List UInt8->List UInt8
|[]=>[]
|c::r=>if c=117 then mD args r else if 48<=c.toNat/\c.toNat<=50 then args.getD (c.toNat - 48) []++mD args r else c::mD args r
theorem xA0(args:List (List UInt8)):∀ (l:List UInt8) (k:Nat),xW k l=some l.length->mD args l=qG args l:=by
 refine pF (motive:=fun k l=>xW k l=some l.length->mD args l=qG args l) ?_ ?_ ?_ ?_ ?_ ?_ ?_
 ·intro l h;rw[uA] at h;have:l=[]:=List.length_eq_zero_iff.1 (Option.some.inj h).symm;rw[this,jN];rfl
 ·intro n h;rw[tD] at h;cases h
 ·intro n r ih h;rw[pP] at h;rw[mD,iN (by decide),iN (by decide),vC args (by decide),ih (qM h)]
 ·intro n r ih h;rw[sE] at h;rw[mD,iN (by decide),iN (by decide),vC args (by decide),ih (qM h)]
 ·intro n c r hc ih h;rw[uD n hc] at h;have hu:c≠117:=(by rcases hc with rfl|rfl<;>decide);rw[mD,iN hu,iN (by rcases hc with rfl|rfl<;>decide),vC args hu,ih (qM h)]
 ·intro n d r h1 h2 ih h;rw[uL n h1 h2] at h;have hd:d≠117:=(by rintro rfl;revert h2;decide);rw[mD,iP rfl,mD,iN hd,iP ⟨h1,h2⟩,mM,ih (zD0 h)]
 ·intro n c r hbad h;rw[hbad] at h;cases h
theorem xD9{args:List (List UInt8)}{l:List UInt8}{p:Nat}(hp:p<l.length)(h:l[p]=117):mD args (l.drop p)=mD args (l.drop (p+1)):=by
 rw[List.drop_eq_getElem_cons hp,mD,iP h]
theorem xE0{args:List (List UInt8)}{l:List UInt8}{p:Nat}(hp:p<l.length)(h:l[p]≠117)(hd:48<=l[p].toNat/\l[p].toNat<=50):mD args (l.drop p)=args.getD (l[p].toNat - 48) []++mD args (l.drop (p+1)):=by
 rw[List.drop_eq_getElem_cons hp,mD,iN h,iP hd]
theorem xE1{args:List (List UInt8)}{l:List UInt8}{p:Nat}(hp:p<l.length)(h:l[p]≠117)(hd:¬ (48<=l[p].toNat/\l[p].toNat<=50)):mD args (l.drop p)=l[p]::mD args (l.drop (p+1)):=by
 rw[List.drop_eq_getElem_cons hp,mD,iN h,iN hd]
theorem bG(s:ByteArray){w:World}{b:Nat}{v:Value}{args:List (List UInt8)}(h:w.ownsRow b 9 1 v args.length (args.map sv))(hs:s.size<=60)(h3:args.length<=3)(hx:∀ x∈args,x.length<=60)
  (hd:∀ i (hi:i<s.data.toList.length),48<=s.data.toList[i].toNat->s.data.toList[i].toNat<=50->s.data.toList[i].toNat - 47<=args.length) :
  Rt 177 #[.string s,v] w (.string ⟨(mD args s.data.toList).toArray⟩):=by
 obtain⟨a0,cap,rfl⟩:=yW h;have hls:s.data.toList.length=s.size:=rfl;have HLS:=Ld hls;have HD:=Ld hd;have HX:=Ld hx;have HO:=Ld h;clear hls hd hx;go_enter Tryz.func177,Tryz.ntmps177;go_wp2;go_loopw [6] (fun i wr=>∃ (p:Nat) (out:List UInt8),p<=s.size/\out.length<=60*p/\i=.int .i64 p/\Below w.heap.size w wr/\Lib.IsBuilder 238 5 w.heap.size w.heap.size (Lib.byteCells out) wr/\Hid (out++mD args (s.data.toList.drop p)=mD args s.data.toList)) (fun i _=>s.size - (intOf i).toNat)
 case atStart=>exact⟨0,[],Nat.zero_le _,nR _,rfl,(bR _ _).alloc (nR _) _,Lib.fresh_isBuilder 238 5 w,rfl⟩
 case round =>
  obtain⟨p,out,hp,ho,rfl,hb,hbl,HR⟩:=hrel;have hsz:=hb.size;by_cases hlt:p<s.size
  ·have hll:p<s.data.toList.length:=hlt;have q1:=zn p;have q2:(p:Int)<(s.size:Int):=(by omega);have d1:decide ((p:Int)<(s.size:Int))=true:=dT (by omega);have hlen:(Lib.byteCells out).length<=1000000000:=(by rw[Lib.byteCells_length];omega);by_cases c1:s[p]=117
   ·have e1:((s[p].toNat:Int)==117)=true:=yH c1;have HR2:Hid (out++mD args (s.data.toList.drop (p+1))=mD args s.data.toList):=(by rw[Hid,← xD9 hll c1];exact HR.out);clear HR c1;go_wp2;go_roundw
    case rel=>exact⟨p+1,out,by omega,by omega,by go_num,hb,hbl,HR2.out⟩
    case measure=>simp[intOf];omega
   have e1:((s[p].toNat:Int)==117)=false:=zQ c1;have f2:=Ld fun W=>nX s[p] W;by_cases b1:48<=s[p].toNat/\s[p].toNat<=50
   ·rw[dT b1] at f2;have hk:s[p].toNat - 48<args.length:=(by have:=HD.out p hll b1.1 b1.2;have e:s.data.toList[p]=s[p]:=rfl;rw[e] at this;omega);have HR2:Hid ((out++args[s[p].toNat - 48])++mD args (s.data.toList.drop (p+1))=mD args s.data.toList):=by
     have e:s.data.toList[p]=s[p]:=rfl;have e2:=xE0 (args:=args) hll c1 b1;rw[e,List.getD_eq_getElem?_getD,List.getElem?_eq_getElem hk,Option.getD_some] at e2;rw[Hid,List.append_assoc,← e2];exact HR.out
    have f3:=Ld fun W=>nV s[p] W b1.1;have hx:=HX.out args[s[p].toNat - 48] (List.getElem_mem hk);have hon:=zA h hb;obtain⟨g,cap',e0,_,hgl⟩:=h.form (by omega);cases e0;have ex:(args.map sv)[s[p].toNat - 48]?=some (sv args[s[p].toNat - 48]):=(by simp[hk]);have cc:=(hon.cellAt (s[p].toNat - 48) (by omega)).trans ex;unfold sv at cc;have q3:(0:Int)<=((s[p].toNat - 48:Nat):Int):=(by omega);have q4:((s[p].toNat - 48:Nat):Int)<(args.length:Int):=(by omega);have f4:=Ld (yK8 (⟨args[s[p].toNat - 48].toArray⟩:ByteArray) hbl hlen (by show (args[s[p].toNat - 48].toArray).size<=1000000000;rw[List.size_toArray];omega) hsz);have HC:Hid (Lib.byteCells out++Lib.strCells ⟨args[s[p].toNat - 48].toArray⟩=Lib.byteCells (out++args[s[p].toNat - 48])):=by
     rw[Hid,Lib.strCells_eq,Lib.byteCells,Lib.byteCells,Lib.byteCells,List.map_append]
    rw[HC.out] at f4;generalize hkk:s[p].toNat - 48=kk at *;generalize hxa:args[kk]=xa at *;clear HR c1 b1 ex HC hbl;go_wp2_with fail;(with_reducible refine mo (f2.out _) ?_);rintro w1 rfl;go_wp2_with fail;(with_reducible refine mo (f3.out _) ?_);rintro w1 rfl;go_wp2_with fail;(with_reducible refine f4.out.mono ?_);rintro e w2 ⟨rfl,hbl2,hb2⟩;go_wp2;go_roundw
    case rel=>exact⟨p+1,out++xa,by omega,by simp;omega,by go_num,hb.trans hb2,.inr hbl2,HR2.out⟩
    case measure=>simp[intOf];omega
   ·rw[dF b1] at f2;have HR2:Hid ((out++[s[p]])++mD args (s.data.toList.drop (p+1))=mD args s.data.toList):=by
     have e:s.data.toList[p]=s[p]:=rfl;have e2:=xE1 (args:=args) hll c1 b1;rw[e] at e2;rw[Hid,List.append_assoc,List.singleton_append,← e2];exact HR.out
    have f4:=Ld (xB6 (s[p].toNat:Int) hbl hlen hsz);have HC:Hid (Lib.byteCells out++[Value.int .u8 (s[p].toNat:Int)]=Lib.byteCells (out++[s[p]])):=by
     rw[Hid,Lib.byteCells,Lib.byteCells,List.map_append];rfl
    rw[HC.out] at f4;clear HR c1 b1 HC hbl;go_wp2_with fail;(with_reducible refine mo (f2.out _) ?_);rintro w1 rfl;go_wp2_with fail;(with_reducible refine f4.out.mono ?_);rintro e w2 ⟨rfl,hbl2,hb2⟩;go_wp2;go_roundw
    case rel=>exact⟨p+1,out++[s[p]],by omega,by simp;omega,by go_num,hb.trans hb2,.inr hbl2,HR2.out⟩
    case measure=>simp[intOf];omega
  ·have d1:decide ((p:Int)<(s.size:Int))=false:=dF (by omega);have HE:Hid (mD args s.data.toList=out):=by
    rw[Hid,← HR.out,List.drop_eq_nil_of_le (by show s.size<=p;omega),mD,List.append_nil]
   have f1:=Ld (Tryz.Builder_String_any _ _ out _ hbl hsz);clear HR hbl;go_wp2_with fail;(with_reducible refine mo f1.out fun w2 hb2=>?_);go_wp2;go_ret;rw[HE.out];exact⟨rfl,hb.trans hb2⟩
theorem zE1(s:ByteArray){w:World}{b:Nat}{v:Value}{args:List (List UInt8)}(h:w.ownsRow b 9 1 v args.length (args.map sv))(hs:s.size<=maxLen)(hx:∀ x∈args,x.length<=maxLen)(hn:args.length<=10000000) :
  Rt 132 #[.string s,v] w (yC (zI s.data.toList args)):=by
 obtain⟨a0,cap,rfl⟩:=yW h;have f1:=Ld fun W=>vD s W hs;have f2:=Ld fun W=>rF s W hs;have hls:s.data.toList.length=s.size:=rfl;by_cases hok:zD s.data.toList=true;rotate_left
 ·have HE:Hid (zI s.data.toList args=none):=iN fun hc=>hok hc.1;rw[Bool.not_eq_true] at hok;rw[hok] at f1;clear hok h hls f2;go_enter Tryz.func132,Tryz.ntmps132;go_wp2_with fail;(with_reducible refine mo (f1.out _) ?_);rintro w1 rfl;go_wp2;go_ret2;rw[HE.out];exact⟨rfl,bR _ _⟩
 have h60:=(zK hok).1;rw[hls] at h60;have hpar:zE s.data.toList=eJ 0 s.data.toList:=(iP hok).trans (yJ6 s.data.toList 1 (zK hok).2 0).symm;have HI:=Ld (xA0 args s.data.toList 1 (zK hok).2);have HOK:=Ld hok;rw[hok] at f1;clear hok hls;by_cases h4:zE s.data.toList<=args.length;rotate_left
 ·have HE:Hid (zI s.data.toList args=none):=iN fun hc=>h4 hc.2.2.1;have d2:decide ((args.length:Int)<(zE s.data.toList:Int))=true:=dT (by omega);clear h hpar HI;go_enter Tryz.func132,Tryz.ntmps132;go_wp2_with fail;(with_reducible refine mo (f1.out _) ?_);rintro w1 rfl;go_wp2_with fail;(with_reducible refine mo (f2.out _) ?_);rintro w1 rfl;go_wp2;go_ret2;rw[HE.out];exact⟨rfl,bR _ _⟩
 have d2:decide ((args.length:Int)<(zE s.data.toList:Int))=false:=dF (by omega);have d2n:decide (args.length<zE s.data.toList)=false:=dF (by omega);by_cases h3:args.length<=3;rotate_left
 ·have HE:Hid (zI s.data.toList args=none):=iN fun hc=>h3 hc.2.1;have d1:decide ((3:Int)<(args.length:Int))=true:=dT (by omega);clear h hpar HI;go_enter Tryz.func132,Tryz.ntmps132;go_wp2_with fail;(with_reducible refine mo (f1.out _) ?_);rintro w1 rfl;go_wp2_with fail;(with_reducible refine mo (f2.out _) ?_);rintro w1 rfl;go_wp2;go_ret2;rw[HE.out];exact⟨rfl,bR _ _⟩
 have d1:decide ((3:Int)<(args.length:Int))=false:=dF (by omega);have HG:Hid (∀ i (hi:i<s.data.toList.length),48<=s.data.toList[i].toNat->s.data.toList[i].toNat<=50->s.data.toList[i].toNat - 47<=args.length):=fun i hi u1 u2=>Nat.le_trans (yJ5 s.data.toList 0 i hi u1 u2) (hpar ▸ h4);clear hpar;have f3:=Ld fun (x:List UInt8) (hm:x∈args) W=>vD ⟨x.toArray⟩ W (by simpa [ByteArray.size] using hx x hm);simp only at f3;go_enter Tryz.func132,Tryz.ntmps132;go_wp2_with fail;(with_reducible refine mo (f1.out _) ?_);rintro w1 rfl;go_wp2_with fail;(with_reducible refine mo (f2.out _) ?_);rintro w1 rfl;clear f1 f2;go_wp2;go_loopw [26] (fun i wr=>∃ k:Nat,k<=args.length/\i=.int .i64 k/\wr=w1/\Hid (∀ j (hj:j<args.length),j<k->zD args[j]=true)) (fun i _=>args.length - (intOf i).toNat)
 case atStart=>exact⟨0,Nat.zero_le _,rfl,rfl,fun j _ hj=>by omega⟩
 case round =>
  obtain⟨k,hk,rfl,rfl,HA⟩:=hrel;by_cases hlt:k<args.length
  ·obtain⟨g,cap',e0,_,hgl⟩:=h.form (by omega);cases e0;have ex:(args.map sv)[k]?=some (sv args[k]):=(by simp[hlt]);have cc:=(h.cellAt k (by omega)).trans ex;unfold sv at cc;have q1:=zn k;have q2:(k:Int)<(args.length:Int):=(by omega);have dk:decide ((k:Int)<(args.length:Int))=true:=dT q2;have g3:=Ld (f3.out args[k] (List.getElem_mem hlt));have HB:Hid (zD args[k]=false->zI s.data.toList args=none):=fun hb=>iN fun hc=>by
    have:=hc.2.2.2.1 args[k] (List.getElem_mem hlt);rw[hb] at this;cases this
   have HA2:Hid (zD args[k]=true->∀ j (hj:j<args.length),j<k+1->zD args[j]=true):=fun hb j hj hjk=>if e:j=k then by subst e;exact hb else HA.out j hj (by omega)
   clear ex HA f3;generalize zD args[k]=ok at g3 HB HA2;generalize args[k]=x at cc g3;cases ok
   ·have HE:=Ld (HB.out rfl);clear HB HA2;go_wp2_with fail;(with_reducible refine mo (g3.out _) ?_);rintro w2 rfl;go_wp2;go_ret2;rw[HE.out];exact⟨rfl,bR _ _⟩
   ·have HN:=Ld (HA2.out rfl);clear HB HA2;go_wp2_with fail;(with_reducible refine mo (g3.out _) ?_);rintro w2 rfl;go_wp2;go_roundw
    case rel=>exact⟨k+1,by omega,by go_num,trivial,HN.out⟩
    case measure=>simp[intOf];omega
  ·have hall:∀ x∈args,zD x=true:=fun x hm=>by
    obtain⟨j,hj,e⟩:=List.getElem_of_mem hm;rw[← e];exact HA.out j hj (by omega)
   have dk:decide ((k:Int)<(args.length:Int))=false:=dF (by omega);have dkn:decide (k<args.length)=false:=dF (by omega);have f4:=Ld fun (W:World) (hW:W.ownsRow b 9 1 (.slice a0 args.length cap) args.length (args.map sv))=>bG s hW h60 h3 (fun x hm=>(zK (hall x hm)).1) HG.out;rw[HI.out] at f4;by_cases hc:(qG args s.data.toList).length<=60
   ·have HE:Hid (zI s.data.toList args=some (qG args s.data.toList)):=iP ⟨HOK.out,h3,h4,hall,hc⟩;generalize qG args s.data.toList=out at HE f4 hc;have hsz:((⟨out.toArray⟩:ByteArray).size:Int)=(out.length:Int):=rfl;have d5:decide ((60:Int)<((⟨out.toArray⟩:ByteArray).size:Int))=false:=dF (by rw[hsz];omega);have g4:=Ld (f4.out _ h);clear HA hall f3 f4 hsz;go_wp2_with fail;(with_reducible refine mo g4.out fun w2 hb2=>?_);go_wp2;go_ret2;rw[HE.out];exact⟨rfl,hb2⟩
   ·have HE:Hid (zI s.data.toList args=none):=iN fun h5=>hc h5.2.2.2.2;generalize qG args s.data.toList=out at HE f4 hc;have hsz:((⟨out.toArray⟩:ByteArray).size:Int)=(out.length:Int):=rfl;have d5:decide ((60:Int)<((⟨out.toArray⟩:ByteArray).size:Int))=true:=dT (by rw[hsz];omega);have g4:=Ld (f4.out _ h);clear HA hall f3 f4 hsz;go_wp2_with fail;(with_reducible refine mo g4.out fun w2 hb2=>?_);go_wp2;go_ret2;rw[HE.out];exact⟨rfl,hb2⟩
theorem mY(s:ByteArray){w:World}{b:Nat}{v:Value}{args:List (List UInt8)}(h:w.ownsRow b 9 1 v args.length (args.map sv))(hs:s.size<=maxLen)(hx:∀ x∈args,x.length<=maxLen)(hn:args.length<=10000000) :
  Rt 88 #[.string s,v] w (.string ⟨((zI s.data.toList args).getD []).toArray⟩):=by
 have f1:=Ld (zE1 s h hs hx hn);obtain⟨ok,ho⟩:=sQ (zI s.data.toList args);rw[ho] at f1;obtain⟨a0,cap,rfl⟩:=zP h;clear h hs hx ho;go_enter Tryz.func88,Tryz.ntmps88;go_wp2_with fail;(with_reducible refine mo f1.out fun w1 hb1=>?_);go_wp2;go_ret;exact⟨rfl,hb1⟩
structure LvI (N:Nat) (args:List (List UInt8)) (va:Value) (_:Unit) (W:World):Prop where
 box:W.heap[N]?=some (.cells #[va] 31 (0,0))
 row:W.ownsRow 0 9 1 va args.length (args.map sv)
theorem LvI.below{N:Nat}{args:List (List UInt8)}{va:Value}{s:Unit}{W W':World}(h:LvI N args va s W)(hb:Below W.heap.size W W'):LvI N args va s W':=⟨yQ h.box hb,zA h.row hb⟩
theorem zN3(N:Nat)(args:List (List UInt8))(va:Value)(hx:∀ x∈args,x.length<=maxLen)(hn:args.length<=10000000):∀ t v W s b,Tm.OkLeaf 3000 t b->LvI N args va s W->yG W t v ->
  Calls Tryz.prog 87 (#[v,.int .i64 (b:Int)]++#[.pointer (some ⟨N,0,none⟩)]) W (uK (LvI N args va) none W (xJ1 args s t b)):=by
 rintro t v W s b ⟨hb,⟨n,hn9,rfl⟩|⟨l,hl,rfl⟩|⟨m,ls,hk,rfl⟩⟩ hI h
 ·have HI:=Ld hI;have HH:=Ld h;obtain⟨g,rfl,hg⟩:=h;have aSort:∀ v w,(Instr.typeAssert (.iface 202 v) 115 120 true).run Tryz.prog w=.ok (.tuple #[.pointer none,.bool false]) w:=fun v w=>by rw[jW,iN (by decide)]
  have aConst:∀ v w,(Instr.typeAssert (.iface 202 v) 115 124 true).run Tryz.prog w=.ok (.tuple #[.pointer none,.bool false]) w:=fun v w=>by rw[sW,iN (by decide)]
  have HE:Hid (xJ1 args s (.var n) b=(.var n,())):=rfl;rw[HE.out];clear hI hg;show Calls _ _ #[_,_,.pointer (some ⟨N,0,none⟩)] _ _;go_enter Tryz.func87,Tryz.ntmps87;go_wp2;go_ret;exact⟨_,_,rfl,HH.out,HI.out,World.grownBy.refl _ _⟩
 ·have HI:=Ld hI;have h60:=(zK hl).1;obtain⟨g,rfl,hg⟩:=h;obtain⟨a0,cap,rfl⟩:=zP hI.row;have aSort:∀ v w,(Instr.typeAssert (.iface 120 v) 115 120 true).run Tryz.prog w=.ok (.tuple #[v,.bool true]) w:=fun v w=>by rw[jW,iP rfl]
  have HE:Hid (xJ1 args s (.sort l) b=(.sort ((zI l args).getD []),())):=rfl;have f1:=Ld fun (Wx:World) (hr:Wx.ownsRow 0 9 1 (.slice a0 args.length cap) args.length (args.map sv))=>mY ⟨l.toArray⟩ hr (by simp only[maxLen,ByteArray.size,List.size_toArray];omega) hx hn;simp only at f1;rw[HE.out];generalize (zI l args).getD []=r at f1;have HBX:Hid (∀ w',Below W.heap.size W w'->w'.cell? ⟨g,0,none⟩=some (.string ⟨l.toArray⟩)/\w'.cell? ⟨N,0,none⟩=some (.slice a0 args.length cap)):=fun w' hw'=>by
   have q1:=yQ hg hw';have q2:=yQ hI.box hw';exact⟨by rw[Lib.cell_of_heap q1];rfl,by rw[Lib.cell_of_heap q2];rfl⟩
  have X0:=HBX.out _ (bR _ _);have HRW:Hid (W.drew.ownsRow 0 9 1 (.slice a0 args.length cap) args.length (args.map sv)):=zA hI.row (zH (bR _ _) 1);clear hI hg HE;show Calls _ _ #[_,_,.pointer (some ⟨N,0,none⟩)] _ _;go_enter Tryz.func87,Tryz.ntmps87;go_wp2_with fail;go_region_held3 (fun w'=>w'.cell? ⟨g,0,none⟩=some (.string ⟨l.toArray⟩)/\w'.cell? ⟨N,0,none⟩=some (.slice a0 args.length cap)) (first|exact X0|exact X1|exact X2)
   (first
   |(go_at_call 88;(with_reducible refine mo (f1.out _ HRW.out) fun w1 hb1=>?_);have B1:=(zH (bR W.heap.size W) 1).trans hb1;have X1:=HBX.out _ B1;have B2:=B1.alloc B1.size (.cells #[.string ⟨r.toArray⟩] 123);have X2:=HBX.out _ B2))
  go_wp2;go_ret;exact⟨_,_,rfl,⟨_,rfl,heap_alloc_new _ _⟩,HI.out.below B2,zC B2 _⟩
 ·have HI:=Ld hI;obtain⟨g,u,rfl,hg,hu⟩:=h;obtain⟨a0,cap,rfl⟩:=zP hI.row;obtain⟨ua,uc,rfl⟩:=zP hu;have hls3:ls.length<=3:=hk.2.1;have h60:∀ x∈ls,x.length<=60:=fun x hxm=>(zK (hk.2.2 x hxm)).1;have aSort:∀ v w,(Instr.typeAssert (.iface 124 v) 115 120 true).run Tryz.prog w=.ok (.tuple #[.pointer none,.bool false]) w:=fun v w=>by rw[jW,iN (by decide)]
  have aConst:∀ v w,(Instr.typeAssert (.iface 124 v) 115 124 true).run Tryz.prog w=.ok (.tuple #[v,.bool true]) w:=fun v w=>by rw[sW,iP rfl]
  have HE:Hid (xJ1 args s (.const m ls) b=(.const m (ls.map fun l=>(zI l args).getD []),())):=rfl;have f1:=Ld fun (l:List UInt8) (hl:l∈ls) (Wx:World) (hr:Wx.ownsRow 0 9 1 (.slice a0 args.length cap) args.length (args.map sv))=>mY ⟨l.toArray⟩ hr (by have:=h60 l hl;simp only[maxLen,ByteArray.size,List.size_toArray];omega) hx hn;simp only at f1;rw[HE.out];have c0:W.cell? ⟨g,0,none⟩=some (.string ⟨m.toArray⟩):=(by rw[Lib.cell_of_heap hg];rfl);have c1:W.cell? ⟨g,1,none⟩=some (.slice ua ls.length uc):=(by rw[Lib.cell_of_heap hg];rfl);have HG:=Ld hg;have HU:=Ld hu;obtain⟨i0,hi,hz0,hz1,hz2⟩:=info_parts rZ;clear hI hg HE hk hu;show Calls _ _ #[_,_,.pointer (some ⟨N,0,none⟩)] _ _;go_enter Tryz.func87,Tryz.ntmps87;go_wp2_with (at_make;refine wpList_make_own _ rfl _ _ 31 rfl W.heap.size 9 i0 (.string ⟨#[]⟩) 1 Tryz.underlying31 hi hz0 hz1 _ _ _ ls.length rfl rfl (by omega) (by rw[hz2];omega) (by unfold maxLen;omega) (nR _) ?_;intro w0 hown0 hgrow0;have hbel0:Below W.heap.size W w0:=(bR _ _).grown hgrow0 (nR _) (by simp);have c2:w0.cell? ⟨g,1,none⟩=some (.slice ua ls.length uc):=(by rw[Lib.cell_of_heap (yQ HG.out hbel0)];rfl));have HO0:=Ld hown0;have HB0:=Ld hbel0;clear hown0 hgrow0 hbel0 c0 c1;go_loopw [8,38] (fun vo i wr=>∃ (k:Nat) (oo:Value),k<=ls.length/\i=.int .i64 k/\oo=vo/\wr.ownsRow W.heap.size 9 1 oo k ((ls.take k).map fun l=>sv ((zI l args).getD []))/\Below W.heap.size W wr) (fun _ i _=>ls.length - (intOf i).toNat)
  case atStart=>exact⟨0,_,Nat.zero_le _,rfl,rfl,by simpa using HO0.out,HB0.out⟩
  case round =>
   obtain⟨k,oo,hk,rfl,rfl,hown,hbel⟩:=hrel;have hz:=hbel.size;by_cases hlt:k<ls.length
   ·have hr:=zA HU.out hbel;obtain⟨g',cap',e0,_,hgl⟩:=hr.form (by omega);cases e0;have ex:(ls.map sv)[k]?=some (sv ls[k]):=(by simp[hlt]);have cc:=(hr.cellAt k (by omega)).trans ex;unfold sv at cc;have q1:=zn k;have q2:(k:Int)<(ls.length:Int):=(by omega);have c3:wr.cell? ⟨N,0,none⟩=some (.slice a0 args.length cap):=(by rw[Lib.cell_of_heap (yQ HI.out.box hbel)];rfl);have f2:=Ld (f1.out ls[k] (List.getElem_mem hlt) wr (zA HI.out.row hbel));have HT:Hid ((ls.take (k+1)).map (fun l=>sv ((zI l args).getD []))=(ls.take k).map (fun l=>sv ((zI l args).getD []))++[.string ⟨((zI ls[k] args).getD []).toArray⟩]):=by
     rw[Hid,List.take_succ_eq_append_getElem hlt,List.map_append];rfl
    clear ex hr;generalize (zI ls[k] args).getD []=x at f2 HT;generalize ls[k]=lk at cc f2;have HOW:=Ld hown;have HBL:=Ld hbel;clear hown hbel;go_wp2_with fail;(with_reducible refine mo f2.out fun w1 hb1=>?_);have hown1:=zA HOW.out hb1;have hB1:=HBL.out.trans (hb1.mono hz);have hzB:=hB1.size;have hl:=hown1.lt;clear hb1;go_wp2_with (at_builtin;refine wpList_append_own _ rfl _ _ 31 rfl W.heap.size 9 i0 _ 1 16 Tryz.underlying31 hi hz0 hz1 hz2 rfl (by decide) _ _ _ rfl (hown1.alloc _) ⟨w1.heap.size,0,none⟩ 1 1 [.string ⟨x.toArray⟩] rfl rfl (yI _ _ _) (by simp[Value.oneCell']) (by simp only[maxLen];omega) (by omega) (by simp;omega) ?_;intro v2 w2 hown2 hgrow hat);have HO2:Hid (w2.ownsRow W.heap.size 9 1 v2 (k+1) ((ls.take (k+1)).map fun l=>sv ((zI l args).getD []))):=by
     rw[Hid,HT.out];exact hown2
    have HB2:Hid (Below W.heap.size W w2):=(hB1.alloc hzB _).grown hgrow (by simp;omega) (fun q hq=>(hl q hq).1);clear hown2 hgrow hat hown1 hB1 hl;go_wp2;go_roundw
    case rel=>exact⟨k+1,_,by omega,by go_num,rfl,HO2.out,HB2.out⟩
    case measure=>simp[intOf];omega
   ·have hkk:k=ls.length:=(by omega);have HO:Hid (wr.ownsRow 0 9 1 oo (ls.map fun l=>(zI l args).getD []).length ((ls.map fun l=>(zI l args).getD []).map sv)):=by
     have h1:=cM hown (Nat.zero_le _);rw[hkk,List.take_length] at h1;rw[Hid,List.length_map,List.map_map];exact h1
    have HB2:=Ld hbel;have c4:wr.cell? ⟨g,0,none⟩=some (.string ⟨m.toArray⟩):=(by rw[Lib.cell_of_heap (yQ HG.out hbel)];rfl);obtain⟨oa,oc,rfl⟩:=zP hown;have dk:decide ((k:Int)<(ls.length:Int))=false:=dF (by omega);clear hown hbel f1;go_wp2;go_ret;subst hkk;have B3:=HB2.out.alloc HB2.out.size (.cells #[.string ⟨m.toArray⟩,.slice oa ls.length oc] 126);exact⟨_,_,rfl,⟨_,_,rfl,heap_alloc_new _ _,HO.out.alloc _⟩,HI.out.below B3,zC B3 _⟩
theorem yR5(N:Nat)(args:List (List UInt8))(va:Value)(hx:∀ x∈args,x.length<=maxLen)(hn:args.length<=10000000):LeafOk (xJ1 args) (LvI N args va) none (Tm.OkLeaf 3000) 87 #[.pointer (some ⟨N,0,none⟩)] where
 enters:=Go.Proofs.enters_of Tryz.func87 (by kernel_rfl) rfl
 leaf:=zN3 N args va hx hn
 below:=fun _ _ _ h hb=>h.below hb
 free:=fun _ W _=>tQ.none W
theorem fX(s:ByteArray){W:World}{b:Nat}{v:Value}{args:List (List UInt8)}(hv:Vars W)(hs:s.size<=maxLen)(h:W.ownsRow b 9 1 v args.length (args.map sv))(hx:∀ x∈args,x.length<=maxLen)(hn:args.length<=10000000) :
  Rt 57 #[.string s,v] W (yC (zV s.data.toList args)):=by
 obtain⟨a0,cap,rfl⟩:=zP h;have B0:=Below.alloc (bR W.heap.size W) (nR _) (.cells #[.slice a0 args.length cap] 31);have hI:LvI W.heap.size args (.slice a0 args.length cap) () (W.alloc (.cells #[.slice a0 args.length cap] 31)) := ⟨heap_alloc_new W _,zA (cM h (Nat.zero_le _)) B0⟩;have f1:=Ld (xH s (W.alloc (.cells #[.slice a0 args.length cap] 31)) (hv.below B0) hs);have HI:=Ld hI;have HB0:=Ld B0;have HV:=Ld hv;clear hv hs hI B0 h;go_enter Tryz.func57,Tryz.ntmps57;go_wp2_with fail;(with_reducible refine f1.out.mono ?_);rintro e w1 ⟨hb,⟨t,u,ht,rfl,hr⟩|⟨hno,rfl⟩⟩;rotate_left
 ·have HB:=bt HB0.out hb;have HE:Hid (zV s.data.toList args=none):=(by rw[Hid,zV,yR hno]);clear hb hno f1;go_wp2;go_ret2;rw[HE.out];exact⟨rfl,HB.out⟩
 obtain⟨T,x,rfl⟩:=hr.iface;have hI1:=HI.out.below hb;have c0:w1.cell? ⟨W.heap.size,0,none⟩=some (.slice a0 args.length cap):=by rw[Lib.cell_of_heap hI1.box];rfl
 have HB:=bt HB0.out hb;by_cases h3:args.length<=3;rotate_left
 ·have HE:Hid (zV s.data.toList args=none):=by
   rw[Hid,zV,zY ht];exact iN h3
  have d1:decide ((3:Int)<(args.length:Int))=true:=dT (by omega);clear hb ht hr f1 hI1;go_wp2;go_ret2;rw[HE.out];exact⟨rfl,HB.out⟩
 have d1:decide ((3:Int)<(args.length:Int))=false:=dF (by omega);have HE:=Ld (fJ ht h3);have hle:=ht.2.2;rw[← ht.2.1] at hle;have hsz:=t.size_le;obtain⟨p1,p2,p3⟩:=yR3 (f:=xJ1 args) (T:=t) () ht.1 (by omega) hle yZ8;have f2:=Ld (sG (yR5 W.heap.size args (.slice a0 args.length cap) hx hn) t 0 (Tm.ok_lv t 0 ht.1 (by omega)) (by omega) w1 () T x hI1 hr);rw[show ((0:Nat):Int)=0 from rfl] at f2;obtain⟨m1,m2⟩:=sH hr;have f3:=Ld fun T1 x1 W2 (hb2:Below W.heap.size W W2) (hr2:yG W2 (t.mapS (xJ1 args) () 0).1 (.iface T1 x1))=>tX (HV.out.below hb2) p2 p1 p3 hr2;generalize t.mapS (xJ1 args) () 0=r at f2 f3 HE p1 p2 p3;generalize yK1 t=fn at f2 m1 m2;clear p1 p2 p3 hle hsz ht hr hb f1 hI1 HI HV hx;go_wp2_with fail;(with_reducible refine f2.out.mono ?_);rintro e w2 ⟨T1,x1,rfl,hr2,hi2,hg2⟩;have HB2:=Ld (HB.out.trans ((qB hg2).mono HB.out.size));have f4:=Ld (f3.out T1 x1 w2 HB2.out hr2);obtain⟨ok,ho⟩:=sQ (vV (some []) r.1);rw[ho] at f4;have HO:=Ld ho;clear hr2 hi2 hg2 f2 f3 HB ho;go_wp2_with fail;(with_reducible refine mo f4.out fun w3 hb3=>?_);have HB3:=bt HB2.out hb3;clear hb3 f4;go_wp2;go_ret2;rw[HE.out,HO.out];exact⟨rfl,HB3.out⟩
end Go.Proofs.YtcaahdjhbmmcnaaGreatDoor
