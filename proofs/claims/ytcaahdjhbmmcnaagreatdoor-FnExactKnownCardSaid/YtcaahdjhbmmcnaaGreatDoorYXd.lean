/- What the cards use beside the walks: ShelfSp QOpen OpenD OpenL Lists -/
import Derived.Shelf.LaysM
import Derived.Shelf.Strings.Split
import Derived.Shelf.Strings.SplitShaped
import Derived.Test.YtcaahdjhbmmcnaaGreatDoorProg
import Derived.Test.YtcaahdjhbmmcnaaGreatDoorYP1
import Derived.Test.YtcaahdjhbmmcnaaGreatDoorYA6
import Derived.Deep.Slices
import Derived.Deep.Fields
import Derived.ChangeSame
import Derived.ChangeMaps5
import Derived.Lib.SmallJoins
import Derived.Test.YtcaahdjhbmmcnaaGreatDoorYQT
import Derived.Test.YtcaahdjhbmmcnaaGreatDoorYQA
import Derived.Test.YtcaahdjhbmmcnaaGreatDoorYQB
import Derived.Test.YtcaahdjhbmmcnaaGreatDoorYMK
import Derived.SliceStrings
set_option maxRecDepth 100000
set_option linter.unusedSimpArgs false
set_option linter.unusedVariables false
namespace Go.Proofs
open Go.Shelf
def Tryz.laysM146_ren:Go.Shelf.Ren:=⟨fun|146=>246|221=>262|268=>276|138=>264|143=>277|195=>279|197=>291|218=>280|219=>256|260=>299|217=>270|225=>271|224=>272|267=>273|266=>283|314=>284|n=>n,fun|9=>9|31=>31|3=>3|4=>4|0=>0|105=>304|21=>21|5=>5|46=>135|119=>315|139=>318|138=>317|146=>298|51=>170|n=>n,fun|1=>0|3=>4|4=>5|n=>n⟩
theorem Tryz.laysM146:Go.Proofs.LaysM.n146 Tryz.prog Tryz.laysM146_ren:={
 mixed:=by kernel_rfl
 f138:=Tryz.func264.trans (congrArg some (by kernel_rfl))
 f143:=Tryz.func277.trans (congrArg some (by kernel_rfl))
 f146:=Tryz.func246.trans (congrArg some (by kernel_rfl))
 f195:=Tryz.func279.trans (congrArg some (by kernel_rfl))
 f197:=Tryz.func291.trans (congrArg some (by kernel_rfl))
 f217:=Tryz.func270.trans (congrArg some (by kernel_rfl))
 f218:=Tryz.func280.trans (congrArg some (by kernel_rfl))
 f219:=Tryz.func256.trans (congrArg some (by kernel_rfl))
 f221:=Tryz.func262.trans (congrArg some (by kernel_rfl))
 f224:=Tryz.func272.trans (congrArg some (by kernel_rfl))
 f225:=Tryz.func271.trans (congrArg some (by kernel_rfl))
 f260:=Tryz.func299.trans (congrArg some (by kernel_rfl))
 f266:=Tryz.func283.trans (congrArg some (by kernel_rfl))
 f267:=Tryz.func273.trans (congrArg some (by kernel_rfl))
 f268:=Tryz.func276.trans (congrArg some (by kernel_rfl))
 f314:=Tryz.func284.trans (congrArg some (by kernel_rfl))
 t0:=Tryz.underlying0
 a0:=Tryz.isAgg0
 z0:=Tryz.sizeOf0
 v0:=Tryz.zeroValue0
 t3:=Tryz.underlying3
 a3:=Tryz.isAgg3
 z3:=Tryz.sizeOf3
 v3:=Tryz.zeroValue3
 t4:=Tryz.underlying4
 a4:=Tryz.isAgg4
 z4:=Tryz.sizeOf4
 v4:=Tryz.zeroValue4
 t5:=Tryz.underlying5
 a5:=Tryz.isAgg5
 z5:=Tryz.sizeOf5
 v5:=Tryz.zeroValue5
 t9:=Tryz.underlying9
 a9:=Tryz.isAgg9
 z9:=Tryz.sizeOf9
 v9:=Tryz.zeroValue9
 t21:=Tryz.underlying21
 a21:=Tryz.isAgg21
 z21:=Tryz.sizeOf21
 v21:=Tryz.zeroValue21
 t31:=Tryz.underlying31
 a31:=Tryz.isAgg31
 z31:=Tryz.sizeOf31
 v31:=Tryz.zeroValue31
 t46:=Tryz.underlying135
 a46:=Tryz.isAgg135
 z46:=Tryz.sizeOf135
 v46:=Tryz.zeroValue135
 t51:=Tryz.underlying170
 a51:=Tryz.isAgg170
 z51:=Tryz.sizeOf170
 v51:=Tryz.zeroValue170
 t105:=Tryz.underlying304
 a105:=Tryz.isAgg304
 z105:=Tryz.sizeOf304
 v105:=Tryz.zeroValue304
 t119:=Tryz.underlying315
 a119:=Tryz.isAgg315
 z119:=Tryz.sizeOf315
 t138:=Tryz.underlying317
 a138:=Tryz.isAgg317
 z138:=Tryz.sizeOf317
 v138:=Tryz.zeroValue317
 t139:=Tryz.underlying318
 a139:=Tryz.isAgg318
 z139:=Tryz.sizeOf318
 v139:=Tryz.zeroValue318
 t146:=Tryz.underlying298
 a146:=Tryz.isAgg298
 z146:=Tryz.sizeOf298
 v146:=Tryz.zeroValue298
 g1:=by kernel_rfl
 g3:=by kernel_rfl
 g4:=by kernel_rfl
 i0:=by kernel_rfl
 i3:=by kernel_rfl
 i4:=by kernel_rfl
 i5:=by kernel_rfl
 i9:=by kernel_rfl
 i21:=by kernel_rfl
 i31:=by kernel_rfl
 i46:=by kernel_rfl
 i51:=by kernel_rfl
 i105:=by kernel_rfl
 i138:=by kernel_rfl
 i139:=by kernel_rfl
 i146:=by kernel_rfl
 m1:=by kernel_rfl
 s1_3:=fun w h=>Go.Proofs.cell_of_shapedOpen_int (zero:=#[.int .i64 0]) (t:=3) h (of_decide_eq_true (by kernel_rfl)) (by kernel_rfl) rfl (by kernel_rfl) (by kernel_rfl) Tryz.underlying3
 m3:=by kernel_rfl
 m4:=by kernel_rfl }
end Go.Proofs
namespace Go.Proofs.YtcaahdjhbmmcnaaGreatDoor
open Go.ChangeShapes Go.WideShapes Go.ChangeAt Go.RowKit Go.ChangeMaps
theorem cellsCtorA:Tryz.prog.cellsOf 137=2:=by kernel_rfl
theorem cellsDeclA:Tryz.prog.cellsOf 44=7:=by kernel_rfl
theorem cellsStrA:Tryz.prog.cellsOf 9=1:=by kernel_rfl
theorem fieldsCtorA:∃ f0 f1:Field,Tryz.prog.underlying 137=some (.struct #[f0,f1])/\f0.type=9/\f1.type=9/\f0.offset=0/\f1.offset=1:=by
 have h:=Tryz.underlying137;exact⟨_,_,h,rfl,rfl,rfl,rfl⟩
theorem fieldsDeclA:∃ f0 f1 f2 f3 f4 f5 f6:Field,Tryz.prog.underlying 44=some (.struct #[f0,f1,f2,f3,f4,f5,f6])/\f0.type=3/\f1.type=9/\f2.type=3/\f3.type=3/\f4.type=9/\f5.type=9/\f6.type=42/\Go.Deep.oneCellFields Tryz.prog #[f0,f1,f2,f3,f4,f5,f6]=true:=by
 have h:=Tryz.underlying44;exact⟨_,_,_,_,_,_,_,h,rfl,rfl,rfl,rfl,rfl,rfl,rfl,by kernel_rfl⟩
theorem open_ctor_cells{H:Type}{enc:TypeId × Value->H}{W:World}{fuel:Nat}{cs:List Value}{x:DataW H × List MemPlace}(h:DataW.trod enc Tryz.prog W 0 (fun _=>true) true fuel 137 cs=some x) :
  ∃ (k n:List UInt8),cs=[.string ⟨k.toArray⟩,.string ⟨n.toArray⟩]/\k.length<=maxLen/\n.length<=maxLen:=by
 obtain⟨f0,f1,hs,e0,e1,o0,o1⟩:=fieldsCtorA;obtain⟨y0,y1,m,_,hl,h0,h1⟩:=trod_struct2 hs h;rw[cellsCtorA] at hl;rw[e0,o0,cellsStrA] at h0;rw[e1,o1,cellsStrA] at h1;obtain⟨c0,c1,rfl⟩:∃ c0 c1,cs=[c0,c1]:=by
  match cs,hl with
 |[c0,c1],_=>exact⟨c0,c1,rfl⟩
 simp only[List.drop_zero,List.take_succ_cons,List.take_zero,List.drop_succ_cons] at h0 h1;obtain⟨s,es,_,ws⟩:=DataW.trod_string Tryz.underlying9 h0;obtain⟨s',es',_,ws'⟩:=DataW.trod_string Tryz.underlying9 h1;simp only[List.cons.injEq,and_true] at es es';subst es es';exact⟨s.data.toList,s'.data.toList,by simp,ws,ws'⟩
theorem cell_ltD{w:World}{a:Addr}{v:Value}(h:w.cell? a=some v):a.block<w.heap.size:=by
 by_cases hb:a.block<w.heap.size
 ·exact hb
 ·unfold World.cell? at h;rw[Array.getElem?_eq_none (by omega)] at h;cases h
theorem open_cameC{H:Type}{enc:TypeId × Value->H}{W:World}{fuel:Nat}{v:Value}{x:DataW H × List MemPlace}
  (hf:DataW.trod enc Tryz.prog W 0 (fun _=>true) true fuel 42 [v]=some x):∃ l,CameC W v l:=by
 rcases Deep.open_slice Tryz.underlying42 hf with ⟨hcs,_⟩|⟨a,len,cap,m,n,D,Pl,hcs,_,hl,hm,hmm,_,hel⟩
 ·simp at hcs;subst hcs;exact⟨[],none,0,0,0,rfl,fun h=>absurd h (by simp),fun j h=>absurd h (by simp),Nat.zero_le _,fun x h=>by simp at h⟩
 ·simp at hcs;subst hcs;simp only[if_true] at hmm;obtain⟨b,off,spot⟩:=a;have hel2:∀ i,i<len->∃ y:Ct,W.cell? ((⟨b,off,spot⟩:Addr).add (i*2))=some (sv y.1)/\W.cell? (((⟨b,off,spot⟩:Addr).add (i*2)).add 1)=some (sv y.2)/\y.1.length<=maxLen/\y.2.length<=maxLen:=by
   intro i hi;obtain⟨cs',hc,ht⟩:=hel i (by omega);rw[cellsCtorA] at hc;obtain⟨k,nm,rfl,hk,hnm⟩:=open_ctor_cells ht;obtain⟨_,_,hcc⟩:=World.cells?_some hc;have q0:=hcc 0 (by decide);have q1:=hcc 1 (by decide);exact⟨(k,nm),by simpa [Addr.add,sv] using q0,q1,hk,hnm⟩
  obtain⟨F,hF⟩:=Deep.choose_lt hel2;have hspot:0<len->spot=none:=fun h0=>by simpa [Addr.add] using World.cell?_spot (hF 0 h0).1
  have hlen:((List.range len).map F).length=len:=(by simp);refine⟨(List.range len).map F,some ⟨b,off,spot⟩,cap,b,off,by rw[hlen],fun h0=>?_,fun j hj=>?_,by rw[hlen];omega,fun y hy=>?_⟩
  ·rw[hlen] at h0;obtain rfl:=hspot h0;exact⟨rfl,by simpa [Addr.add] using cell_ltD (hF 0 h0).1⟩
  ·rw[hlen] at hj;obtain rfl:=hspot (by omega);have:=hF j hj;simp only[List.getElem_map,List.getElem_range];rw[add_plain] at this;rw[add_plain] at this;exact⟨this.1,this.2.1⟩
  ·obtain⟨j,hj,rfl⟩:=List.mem_map.1 hy;exact(hF j (List.mem_range.1 hj)).2.2
theorem lit_i64{x:Int}(h:(Lit.int .i64 x).wf=true):-9223372036854775808<=x/\x<=9223372036854775807:=by
 simp[Lit.wf,IntKind.min,IntKind.max,IntKind.signed,IntKind.bits] at h;exact h
end Go.Proofs.YtcaahdjhbmmcnaaGreatDoor
namespace Go.Proofs.YtcaahdjhbmmcnaaGreatDoor
open Go.ChangeShapes Go.WideShapes Go.ChangeAt Go.RowKit Go.ChangeMaps
theorem cellsLaw:Tryz.prog.cellsOf 102=2:=by kernel_rfl
theorem cellsInt:Tryz.prog.cellsOf 3=1:=by kernel_rfl
theorem cellsStr':Tryz.prog.cellsOf 9=1:=by kernel_rfl
theorem open_label_cells{H:Type}{enc:TypeId × Value->H}{W:World}{fuel:Nat}{cs:List Value}{x:DataW H × List MemPlace}{f0 f1:Field}(hs:Tryz.prog.underlying 102=some (.struct #[f0,f1]))(e0:f0.type=3)(e1:f1.type=9)(o0:f0.offset=0)(o1:f1.offset=1)
  (h:DataW.trod enc Tryz.prog W 0 (fun _=>true) true fuel 102 cs=some x):∃ (k:Int) (n:List UInt8),cs=[.int .i64 k,.string ⟨n.toArray⟩]/\n.length<=maxLen/\(Lit.int .i64 k).wf=true:=by
 obtain⟨y0,y1,m,_,hl,h0,h1⟩:=trod_struct2 hs h;rw[cellsLaw] at hl;rw[e0,o0,cellsInt] at h0;rw[e1,o1,cellsStr'] at h1;obtain⟨c0,c1,rfl⟩:∃ c0 c1,cs=[c0,c1]:=by
  match cs,hl with
 |[c0,c1],_=>exact⟨c0,c1,rfl⟩
 simp only[List.drop_zero,List.take_succ_cons,List.take_zero,List.drop_succ_cons] at h0 h1;obtain⟨k,ek,_,wk⟩:=DataW.trod_int Tryz.underlying3 h0;obtain⟨s,es,_,ws⟩:=DataW.trod_string Tryz.underlying9 h1;simp only[List.cons.injEq,and_true] at ek es;subst ek es;exact⟨k,s.data.toList,by simp,ws,wk⟩
theorem fieldsLaw:∃ f0 f1:Field,Tryz.prog.underlying 102=some (.struct #[f0,f1])/\f0.type=3/\f1.type=9/\f0.offset=0/\f1.offset=1/\Go.Deep.oneCellFields Tryz.prog #[f0,f1]=true:=by
 have h:=Tryz.underlying102;exact⟨_,_,h,rfl,rfl,rfl,rfl,by kernel_rfl⟩
theorem cell_ltL{w:World}{a:Addr}{v:Value}(h:w.cell? a=some v):a.block<w.heap.size:=by
 by_cases hb:a.block<w.heap.size
 ·exact hb
 ·unfold World.cell? at h;rw[Array.getElem?_eq_none (by omega)] at h;cases h
theorem open_cameL{H:Type}{enc:TypeId × Value->H}{W:World}{a0:Option Addr}{len cap fuel:Nat}{x:DataW H × List MemPlace}
  (hf:DataW.trod enc Tryz.prog W 0 (fun _=>true) true fuel 45 [.slice a0 len cap]=some x):∃ l,CameL W (.slice a0 len cap) l/\∀ y∈l,(Lit.int .i64 y.1).wf=true:=by
 obtain⟨f0,f1,hs,e0,e1,o0,o1,_⟩:=fieldsLaw;rcases Deep.open_slice Tryz.underlying45 hf with ⟨hcs,_⟩|⟨a,len',cap',m,n,D,Pl,hcs,_,hl,hm,hmm,_,hel⟩
 ·simp at hcs;obtain⟨rfl,rfl,rfl⟩:=hcs;exact⟨[],⟨none,0,0,0,rfl,fun h=>absurd h (by simp),fun j h=>absurd h (by simp),Nat.zero_le _,fun x h=>by simp at h⟩,fun y h=>by simp at h⟩
 ·simp at hcs;obtain⟨rfl,rfl,rfl⟩:=hcs;simp only[if_true] at hmm;obtain⟨b,off,spot⟩:=a;have hel2:∀ i,i<len->∃ y:Lbl,W.cell? ((⟨b,off,spot⟩:Addr).add (i*2))=some (.int .i64 y.1)/\W.cell? (((⟨b,off,spot⟩:Addr).add (i*2)).add 1)=some (sv y.2)/\y.2.length<=maxLen/\(Lit.int .i64 y.1).wf=true:=by
   intro i hi;obtain⟨cs',hc,ht⟩:=hel i (by omega);rw[cellsLaw] at hc;obtain⟨k,nm,rfl,hnm,hk⟩:=open_label_cells hs e0 e1 o0 o1 ht;obtain⟨_,_,hcc⟩:=World.cells?_some hc;have q0:=hcc 0 (by decide);have q1:=hcc 1 (by decide);exact⟨(k,nm),by simpa [Addr.add] using q0,q1,hnm,hk⟩
  obtain⟨F,hF⟩:=Deep.choose_lt hel2;have hspot:0<len->spot=none:=fun h0=>by simpa [Addr.add] using World.cell?_spot (hF 0 h0).1
  have hlen:((List.range len).map F).length=len:=(by simp);refine⟨(List.range len).map F,⟨some ⟨b,off,spot⟩,cap,b,off,by rw[hlen],fun h0=>?_,fun j hj=>?_,by rw[hlen];omega,fun y hy=>?_⟩,fun y hy=>?_⟩
  ·rw[hlen] at h0;obtain rfl:=hspot h0;exact⟨rfl,by simpa [Addr.add] using cell_ltL (hF 0 h0).1⟩
  ·rw[hlen] at hj;obtain rfl:=hspot (by omega);have:=hF j hj;simp only[List.getElem_map,List.getElem_range];rw[add_plain] at this;rw[add_plain] at this;exact⟨this.1,this.2.1⟩
  ·obtain⟨j,hj,rfl⟩:=List.mem_map.1 hy;exact(hF j (List.mem_range.1 hj)).2.2.1
  ·obtain⟨j,hj,rfl⟩:=List.mem_map.1 hy;exact(hF j (List.mem_range.1 hj)).2.2.2
end Go.Proofs.YtcaahdjhbmmcnaaGreatDoor
namespace Go.Proofs.YtcaahdjhbmmcnaaGreatDoor
open Go.ChangeShapes Go.WideShapes Go.ChangeAt Go.RowKit Go.ChangeMaps
theorem cellsEntryA:Tryz.prog.cellsOf 47=8:=by kernel_rfl
theorem cellsLabelsA:Tryz.prog.cellsOf 45=1:=by kernel_rfl
theorem fieldsEntryA:∃ f0 f1:Field,Tryz.prog.underlying 47=some (.struct #[f0,f1])/\f0.type=44/\f1.type=45/\f0.offset=0/\f1.offset=7:=by
 have h:=Tryz.underlying47;exact⟨_,_,h,rfl,rfl,rfl,rfl⟩
theorem open_declC{H:Type}{enc:TypeId × Value->H}{W:World}{fuel:Nat}{cs:List Value}{x:DataW H × List MemPlace}(hf:DataW.trod enc Tryz.prog W 0 (fun _=>true) true fuel 44 cs=some x) :
  ∃ (d:Dc) (u:Value),cs=[.int .i64 d.kind,sv d.name,.int .i64 d.params,.int .i64 d.flags,sv d.type,sv d.value,u]/\CameC W u d.ctors/\d.Fits/\-9223372036854775808<=d.flags/\d.flags<=9223372036854775807:=by
 obtain⟨f0,f1,f2,f3,f4,f5,f6,hs,e0,e1,e2,e3,e4,e5,e6,hone⟩:=fieldsDeclA;obtain⟨xs,n,_,_,hl,hlen,hfs⟩:=DataW.trod_struct hs hf;rw[cellsDeclA] at hl;obtain⟨c0,c1,c2,c3,c4,c5,c6,rfl⟩:∃ c0 c1 c2 c3 c4 c5 c6,cs=[c0,c1,c2,c3,c4,c5,c6]:=by
  match cs,hl with
 |[c0,c1,c2,c3,c4,c5,c6],_=>exact⟨c0,c1,c2,c3,c4,c5,c6,rfl⟩
 obtain⟨y0,y1,y2,y3,y4,y5,y6,rfl⟩:∃ y0 y1 y2 y3 y4 y5 y6,xs=[y0,y1,y2,y3,y4,y5,y6]:=by
  match xs,hlen with
 |[y0,y1,y2,y3,y4,y5,y6],_=>exact⟨y0,y1,y2,y3,y4,y5,y6,rfl⟩
 obtain⟨o0,k0⟩:=Go.Deep.hone_of hone 0 f0 rfl;have g0:DataW.trod enc Tryz.prog W 0 (fun _=>true) true n f0.type [c0]=some y0:=by simpa [Value.cells,o0,k0] using hfs 0 f0 rfl
 obtain⟨o1,k1⟩:=Go.Deep.hone_of hone 1 f1 rfl;have g1:DataW.trod enc Tryz.prog W 0 (fun _=>true) true n f1.type [c1]=some y1:=by simpa [Value.cells,o1,k1] using hfs 1 f1 rfl
 obtain⟨o2,k2⟩:=Go.Deep.hone_of hone 2 f2 rfl;have g2:DataW.trod enc Tryz.prog W 0 (fun _=>true) true n f2.type [c2]=some y2:=by simpa [Value.cells,o2,k2] using hfs 2 f2 rfl
 obtain⟨o3,k3⟩:=Go.Deep.hone_of hone 3 f3 rfl;have g3:DataW.trod enc Tryz.prog W 0 (fun _=>true) true n f3.type [c3]=some y3:=by simpa [Value.cells,o3,k3] using hfs 3 f3 rfl
 obtain⟨o4,k4⟩:=Go.Deep.hone_of hone 4 f4 rfl;have g4:DataW.trod enc Tryz.prog W 0 (fun _=>true) true n f4.type [c4]=some y4:=by simpa [Value.cells,o4,k4] using hfs 4 f4 rfl
 obtain⟨o5,k5⟩:=Go.Deep.hone_of hone 5 f5 rfl;have g5:DataW.trod enc Tryz.prog W 0 (fun _=>true) true n f5.type [c5]=some y5:=by simpa [Value.cells,o5,k5] using hfs 5 f5 rfl
 obtain⟨o6,k6⟩:=Go.Deep.hone_of hone 6 f6 rfl;have g6:DataW.trod enc Tryz.prog W 0 (fun _=>true) true n f6.type [c6]=some y6:=by simpa [Value.cells,o6,k6] using hfs 6 f6 rfl
 rw[e0] at g0;rw[e1] at g1;rw[e2] at g2;rw[e3] at g3;rw[e4] at g4;rw[e5] at g5;rw[e6] at g6;obtain⟨kd,q0,_,_⟩:=DataW.trod_int Tryz.underlying3 g0;obtain⟨nm,q1,_,w1⟩:=DataW.trod_string Tryz.underlying9 g1;obtain⟨ps,q2,_,_⟩:=DataW.trod_int Tryz.underlying3 g2;obtain⟨fl,q3,_,wfl⟩:=DataW.trod_int Tryz.underlying3 g3;obtain⟨ty,q4,_,w4⟩:=DataW.trod_string Tryz.underlying9 g4;obtain⟨vl,q5,_,w5⟩:=DataW.trod_string Tryz.underlying9 g5;simp only[List.cons.injEq,and_true] at q0 q1 q2 q3 q4 q5;subst q0 q1 q2 q3 q4 q5;obtain⟨l,hc⟩:=open_cameC g6;exact⟨⟨kd,nm.data.toList,ps,fl,ty.data.toList,vl.data.toList,l⟩,c6,rfl,hc,⟨w1,w4,w5⟩,lit_i64 wfl⟩
theorem open_entry_cells{H:Type}{enc:TypeId × Value->H}{W:World}{fuel:Nat}{cs:List Value}{x:DataW H × List MemPlace}(h:DataW.trod enc Tryz.prog W 0 (fun _=>true) true fuel 47 cs=some x) :
  ∃ y:Ev,cs=ecells y/\CameC W y.2.1 y.1.1.ctors/\CameL W y.2.2 y.1.2/\y.1.1.Fits/\-9223372036854775808<=y.1.1.flags/\y.1.1.flags<=9223372036854775807:=by
 obtain⟨f0,f1,hs,e0,e1,o0,o1⟩:=fieldsEntryA;obtain⟨y0,y1,m,_,hl,h0,h1⟩:=trod_struct2 hs h;rw[cellsEntryA] at hl;rw[e0,o0,cellsDeclA] at h0;rw[e1,o1,cellsLabelsA] at h1;obtain⟨c0,c1,c2,c3,c4,c5,c6,c7,rfl⟩:∃ c0 c1 c2 c3 c4 c5 c6 c7,cs=[c0,c1,c2,c3,c4,c5,c6,c7]:=by
  match cs,hl with
 |[c0,c1,c2,c3,c4,c5,c6,c7],_=>exact⟨c0,c1,c2,c3,c4,c5,c6,c7,rfl⟩
 simp only[List.drop_zero,List.take_succ_cons,List.take_zero,List.drop_succ_cons] at h0 h1;obtain⟨d,u,hd,hc,hF,hr1,hr2⟩:=open_declC h0;have h1s:∃ a0 len cap,c7=.slice a0 len cap:=by
  rcases Deep.open_slice Tryz.underlying45 h1 with ⟨hcs,_⟩|⟨a,len,cap,_,_,_,_,hcs,_⟩
  ·simp at hcs;exact⟨_,_,_,hcs⟩
  ·simp at hcs;exact⟨_,_,_,hcs⟩
 obtain⟨a0,len,cap,rfl⟩:=h1s;obtain⟨l,hL,_⟩:=open_cameL h1;simp only[List.cons.injEq,and_true] at hd;obtain⟨rfl,rfl,rfl,rfl,rfl,rfl,rfl⟩:=hd;exact⟨⟨⟨d,l⟩,_,_⟩,rfl,hc,hL,hF,hr1,hr2⟩
theorem open_cameE{H:Type}{enc:TypeId × Value->H}{W:World}{fuel:Nat}{v:Value}{x:DataW H × List MemPlace}
  (hf:DataW.trod enc Tryz.prog W 0 (fun _=>true) true fuel 22 [v]=some x):∃ l,CameE W v l:=by
 rcases Deep.open_slice Tryz.underlying22 hf with ⟨hcs,_⟩|⟨a,len,cap,m,n,D,Pl,hcs,_,hl,hm,hmm,_,hel⟩
 ·simp at hcs;subst hcs;exact⟨[],[],none,0,0,0,rfl,rfl,fun h=>absurd h (by simp),fun j h=>absurd h (by simp),Nat.zero_le _,fun x h=>by simp at h⟩
 ·simp at hcs;subst hcs;simp only[if_true] at hmm;obtain⟨b,off,spot⟩:=a;have hel2:∀ i,i<len->∃ y:Ev,(∀ k,k<8->W.cell? (((⟨b,off,spot⟩:Addr).add (i*8)).add k)=(ecells y)[k]?)/\CameC W y.2.1 y.1.1.ctors/\CameL W y.2.2 y.1.2/\y.1.1.Fits/\-9223372036854775808<=y.1.1.flags/\y.1.1.flags<=9223372036854775807:=by
   intro i hi;obtain⟨cs',hc,ht⟩:=hel i (by omega);rw[cellsEntryA] at hc;obtain⟨y,rfl,hy⟩:=open_entry_cells ht;obtain⟨_,_,hcc⟩:=World.cells?_some hc;refine⟨y,fun k hk=>?_,hy⟩;have q:=hcc k (by simpa [ecells] using hk);rw[q]
  haveI:Inhabited Ev:=⟨⟨⟨⟨0,[],0,0,[],[],[]⟩,[]⟩,.slice none 0 0,.slice none 0 0⟩⟩
  obtain⟨F,hF⟩:=Deep.choose_lt hel2;have hc0:∀ i,i<len->W.cell? ((⟨b,off,spot⟩:Addr).add (i*8))=some (.int .i64 (F i).1.1.kind):=fun i hi=>by
   have:=(hF i hi).1 0 (by decide);simpa [Addr.add,ecells] using this
  have hspot:0<len->spot=none:=fun h0=>by simpa [Addr.add] using World.cell?_spot (hc0 0 h0)
  have hlen:((List.range len).map F).length=len:=(by simp);refine⟨_,(List.range len).map F,some ⟨b,off,spot⟩,cap,b,off,rfl,by rw[hlen],fun h0=>?_,fun j hj i hi=>?_,by rw[hlen];omega,fun y hy=>?_⟩
  ·rw[hlen] at h0;obtain rfl:=hspot h0;exact⟨rfl,by simpa [Addr.add] using cell_ltD (hc0 0 h0)⟩
  ·rw[hlen] at hj;obtain rfl:=hspot (by omega);have:=(hF j hj).1 i hi;simp only[List.getElem_map,List.getElem_range];rw[add_plain,add_plain] at this;exact this
  ·obtain⟨j,hj,rfl⟩:=List.mem_map.1 hy;exact(hF j (List.mem_range.1 hj)).2
end Go.Proofs.YtcaahdjhbmmcnaaGreatDoor
namespace Go.Proofs.YtcaahdjhbmmcnaaGreatDoor
open Go.ChangeShapes Go.WideShapes Go.ChangeAt Go.RowKit
theorem cell_lt{w:World}{a:Addr}{v:Value}(h:w.cell? a=some v):a.block<w.heap.size:=by
 by_cases hb:a.block<w.heap.size
 ·exact hb
 ·unfold World.cell? at h;rw[Array.getElem?_eq_none (by omega)] at h;cases h
theorem cellsStr:Tryz.prog.cellsOf 9=1:=by kernel_rfl
theorem open_came{H:Type}{enc:TypeId × Value->H}{W:World}{a0:Option Addr}{len cap fuel:Nat}{x:DataW H × List MemPlace}
  (hf:DataW.trod enc Tryz.prog W 0 (fun _=>true) true fuel 31 [.slice a0 len cap]=some x):∃ l,Came W (.slice a0 len cap) l:=by
 rcases open_strings Tryz.underlying31 Tryz.underlying9 cellsStr hf with ⟨hcs,hx⟩|⟨a,len',cap',ss,hcs,_,hl,hm,hz,hx,hcell,hws⟩
 ·simp at hcs;obtain⟨rfl,rfl,rfl⟩:=hcs;exact⟨[],none,0,0,0,rfl,fun h=>absurd h (by simp),fun j h=>absurd h (by simp),Nat.zero_le _,fun x h=>by simp at h⟩
 ·simp at hcs;obtain⟨rfl,rfl,rfl⟩:=hcs;simp only[if_true] at hz;obtain⟨b,off,spot⟩:=a;have hlen:((ss.take len).map fun s=>s.data.toList).length=len:=(by simp;omega);have hspot:0<len->spot=none:=fun h0=>by simpa [Addr.add] using World.cell?_spot (hcell 0 (by omega))
  refine⟨(ss.take len).map (fun s=>s.data.toList),some ⟨b,off,spot⟩,cap,b,off,by rw[hlen],fun h0=>?_,fun j hj=>?_,by rw[hlen];omega,fun y hy=>?_⟩
  ·rw[hlen] at h0;obtain rfl:=hspot h0;exact⟨rfl,cell_lt (hcell 0 (by omega))⟩
  ·rw[hlen] at hj;obtain rfl:=hspot (by omega);have e:sv ((ss.take len).map fun s=>s.data.toList)[j]=.string (ss.getD j ByteArray.empty):=by
    have hj2:j<ss.length:=(by omega);simp[sv,List.getElem?_eq_getElem hj2]
   rw[e,← add_plain];exact hcell j (by omega)
  ·obtain⟨s,hs,rfl⟩:=List.mem_map.1 hy;exact hws s (List.mem_of_mem_take hs)
end Go.Proofs.YtcaahdjhbmmcnaaGreatDoor
