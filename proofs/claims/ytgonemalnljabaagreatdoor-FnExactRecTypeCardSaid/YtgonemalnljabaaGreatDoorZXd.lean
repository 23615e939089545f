import Derived.Test.YtgonemalnljabaaGreatDoorZP1
import Derived.Test.YtgonemalnljabaaGreatDoorZA6
import Derived.Deep.Slices
import Derived.Deep.Fields
import Derived.ChangeSame
import Derived.ChangeMaps5
import Derived.Lib.SmallJoins
import Derived.Test.YtgonemalnljabaaGreatDoorZOpenD
set_option maxRecDepth 100000
set_option linter.unusedSimpArgs false
set_option linter.unusedVariables false
namespace Go.Proofs
theorem maxLenInt:∀ w:World,w.ShapedOpen Tryz.prog→∃ m,w.cell? ⟨0,0,none⟩=some (.int .i64 m):=fun w h=>Go.Proofs.cell_of_shapedOpen_int (zero:=#[.int .i64 0]) (t:=3) h (of_decide_eq_true (by kernel_rfl)) (by kernel_rfl) rfl (by kernel_rfl) (by kernel_rfl) Tryz.underlying3
end Go.Proofs
namespace Go.Proofs.YtgonemalnljabaaGreatDoor
open Go.ChangeShapes Go.WideShapes Go.ChangeAt Go.RowKit Go.ChangeMaps
theorem cellsCtorA:Tryz.prog.cellsOf 178=2:=by kernel_rfl
theorem cellsDeclA:Tryz.prog.cellsOf 54=7:=by kernel_rfl
theorem cellsStrA:Tryz.prog.cellsOf 9=1:=by kernel_rfl
theorem fieldsCtorA:∃ f0 f1:Field,Tryz.prog.underlying 178=some (.struct #[f0,f1])∧f0.type=9∧f1.type=9∧f0.offset=0∧f1.offset=1:=by
 have h:=Tryz.underlying178
 exact ⟨_,_,h,rfl,rfl,rfl,rfl⟩
theorem fieldsDeclA:∃ f0 f1 f2 f3 f4 f5 f6:Field,Tryz.prog.underlying 54=some (.struct #[f0,f1,f2,f3,f4,f5,f6])∧f0.type=3∧f1.type=9∧f2.type=3∧f3.type=3∧f4.type=9∧f5.type=9∧f6.type=52∧Go.Deep.oneCellFields Tryz.prog #[f0,f1,f2,f3,f4,f5,f6]=true:=by
 have h:=Tryz.underlying54
 exact ⟨_,_,_,_,_,_,_,h,rfl,rfl,rfl,rfl,rfl,rfl,rfl,by kernel_rfl⟩
theorem open_ctor_cells {H:Type} {enc:TypeId × Value→H} {W:World} {fuel:Nat} {cs:List Value} {x:DataW H × List MemPlace} (h:DataW.trod enc Tryz.prog W 0 (fun _=>true) true fuel 178 cs=some x) :
  ∃ (k n:List UInt8),cs=[.string ⟨k.toArray⟩,.string ⟨n.toArray⟩]∧k.length≤maxLen∧n.length≤maxLen:=by
 obtain ⟨f0,f1,hs,e0,e1,o0,o1⟩:=fieldsCtorA
 obtain ⟨y0,y1,m,_,hl,h0,h1⟩:=trod_struct2 hs h
 rw [cellsCtorA] at hl
 rw [e0,o0,cellsStrA] at h0
 rw [e1,o1,cellsStrA] at h1
 obtain ⟨c0,c1,rfl⟩:∃ c0 c1,cs=[c0,c1]:=by
  match cs,hl with
  | [c0,c1],_=>exact ⟨c0,c1,rfl⟩
 simp only [List.drop_zero,List.take_succ_cons,List.take_zero,List.drop_succ_cons] at h0 h1
 obtain ⟨s,es,_,ws⟩:=DataW.trod_string Tryz.underlying9 h0
 obtain ⟨s',es',_,ws'⟩:=DataW.trod_string Tryz.underlying9 h1
 simp only [List.cons.injEq,and_true] at es es'
 subst es es'
 exact ⟨s.data.toList,s'.data.toList,by simp,ws,ws'⟩
theorem cell_ltD {w:World} {a:Addr} {v:Value} (h:w.cell? a=some v):a.block < w.heap.size:=by
 by_cases hb:a.block < w.heap.size
 ·exact hb
 ·unfold World.cell? at h
  rw [Array.getElem?_eq_none (by omega)] at h
  cases h
theorem open_cameC {H:Type} {enc:TypeId × Value→H} {W:World} {fuel:Nat} {v:Value} {x:DataW H × List MemPlace}
  (hf:DataW.trod enc Tryz.prog W 0 (fun _=>true) true fuel 52 [v]=some x):∃ l,CameC W v l:=by
 rcases Deep.open_slice Tryz.underlying52 hf with ⟨hcs,_⟩ | ⟨a,len,cap,m,n,D,Pl,hcs,_,hl,hm,hmm,_,hel⟩
 ·simp at hcs
  subst hcs
  exact ⟨[],none,0,0,0,rfl,fun h=>absurd h (by simp),fun j h=>absurd h (by simp),Nat.zero_le _,fun x h=>by simp at h⟩
 ·simp at hcs
  subst hcs
  simp only [if_true] at hmm
  obtain ⟨b,off,spot⟩:=a
  have hel2:∀ i,i < len→∃ y:Ct,W.cell? ((⟨b,off,spot⟩:Addr).add (i*2))=some (sv y.1)∧W.cell? (((⟨b,off,spot⟩:Addr).add (i*2)).add 1)=some (sv y.2)∧y.1.length≤maxLen∧y.2.length≤maxLen:=by
   intro i hi
   obtain ⟨cs',hc,ht⟩:=hel i (by omega)
   rw [cellsCtorA] at hc
   obtain ⟨k,nm,rfl,hk,hnm⟩:=open_ctor_cells ht
   obtain ⟨_,_,hcc⟩:=World.cells?_some hc
   have q0:=hcc 0 (by decide)
   have q1:=hcc 1 (by decide)
   exact ⟨(k,nm),by simpa [Addr.add,sv] using q0,q1,hk,hnm⟩
  obtain ⟨F,hF⟩:=Deep.choose_lt hel2
  have hspot:0 < len→spot=none:=fun h0=>by simpa [Addr.add] using World.cell?_spot (hF 0 h0).1
  have hlen:((List.range len).map F).length=len:=by simp
  refine ⟨(List.range len).map F,some ⟨b,off,spot⟩,cap,b,off,by rw [hlen],fun h0=>?_,fun j hj=>?_,by rw [hlen];omega,fun y hy=>?_⟩
  ·rw [hlen] at h0
   obtain rfl:=hspot h0
   exact ⟨rfl,by simpa [Addr.add] using cell_ltD (hF 0 h0).1⟩
  ·rw [hlen] at hj
   obtain rfl:=hspot (by omega)
   have:=hF j hj
   simp only [List.getElem_map,List.getElem_range]
   rw [add_plain] at this
   rw [add_plain] at this
   exact ⟨this.1,this.2.1⟩
  ·obtain ⟨j,hj,rfl⟩:=List.mem_map.1 hy
   exact (hF j (List.mem_range.1 hj)).2.2
theorem lit_i64 {x:Int} (h:(Lit.int .i64 x).wf=true):-9223372036854775808≤x∧x≤9223372036854775807:=by
 simp [Lit.wf,IntKind.min,IntKind.max,IntKind.signed,IntKind.bits] at h
 exact h
theorem open_decl {H:Type} {enc:TypeId × Value→H} {W:World} {r:Reach} {b0:Nat} {v:Value} {dt:DataW H} {p:List MemPlace} (hv:Value.okWide Tryz.prog W r b0 54 v) (h:DataW.Trod enc Tryz.prog W 0 (fun _=>true) true 54 v dt p) :
  ∃ (d:Dc) (u:Value),v=d.val u∧CameC W u d.ctors∧d.Fits∧-9223372036854775808≤d.flags∧d.flags≤9223372036854775807:=by
 obtain ⟨f0,f1,f2,f3,f4,f5,f6,hs,e0,e1,e2,e3,e4,e5,e6,hone⟩:=fieldsDeclA
 obtain ⟨cs,rfl,hsz⟩:=okWide_struct hs hv
 obtain ⟨c0,c1,c2,c3,c4,c5,c6,rfl⟩:∃ c0 c1 c2 c3 c4 c5 c6,cs=#[c0,c1,c2,c3,c4,c5,c6]:=by
  have hz:=hsz.trans cellsDeclA
  obtain ⟨l⟩:=cs
  match l,hz with
  | [c0,c1,c2,c3,c4,c5,c6],_=>exact ⟨c0,c1,c2,c3,c4,c5,c6,rfl⟩
 obtain ⟨fuel,hf⟩:=h
 obtain ⟨xs,n,_,_,hl,hlen,hfs⟩:=DataW.trod_struct hs hf
 obtain ⟨y0,y1,y2,y3,y4,y5,y6,rfl⟩:∃ y0 y1 y2 y3 y4 y5 y6,xs=[y0,y1,y2,y3,y4,y5,y6]:=by
  match xs,hlen with
  | [y0,y1,y2,y3,y4,y5,y6],_=>exact ⟨y0,y1,y2,y3,y4,y5,y6,rfl⟩
 obtain ⟨o0,k0⟩:=Go.Deep.hone_of hone 0 f0 rfl
 have g0:DataW.trod enc Tryz.prog W 0 (fun _=>true) true n f0.type [c0]=some y0:=by simpa [Value.cells,o0,k0] using hfs 0 f0 rfl
 obtain ⟨o1,k1⟩:=Go.Deep.hone_of hone 1 f1 rfl
 have g1:DataW.trod enc Tryz.prog W 0 (fun _=>true) true n f1.type [c1]=some y1:=by simpa [Value.cells,o1,k1] using hfs 1 f1 rfl
 obtain ⟨o2,k2⟩:=Go.Deep.hone_of hone 2 f2 rfl
 have g2:DataW.trod enc Tryz.prog W 0 (fun _=>true) true n f2.type [c2]=some y2:=by simpa [Value.cells,o2,k2] using hfs 2 f2 rfl
 obtain ⟨o3,k3⟩:=Go.Deep.hone_of hone 3 f3 rfl
 have g3:DataW.trod enc Tryz.prog W 0 (fun _=>true) true n f3.type [c3]=some y3:=by simpa [Value.cells,o3,k3] using hfs 3 f3 rfl
 obtain ⟨o4,k4⟩:=Go.Deep.hone_of hone 4 f4 rfl
 have g4:DataW.trod enc Tryz.prog W 0 (fun _=>true) true n f4.type [c4]=some y4:=by simpa [Value.cells,o4,k4] using hfs 4 f4 rfl
 obtain ⟨o5,k5⟩:=Go.Deep.hone_of hone 5 f5 rfl
 have g5:DataW.trod enc Tryz.prog W 0 (fun _=>true) true n f5.type [c5]=some y5:=by simpa [Value.cells,o5,k5] using hfs 5 f5 rfl
 obtain ⟨o6,k6⟩:=Go.Deep.hone_of hone 6 f6 rfl
 have g6:DataW.trod enc Tryz.prog W 0 (fun _=>true) true n f6.type [c6]=some y6:=by simpa [Value.cells,o6,k6] using hfs 6 f6 rfl
 rw [e0] at g0
 rw [e1] at g1
 rw [e2] at g2
 rw [e3] at g3
 rw [e4] at g4
 rw [e5] at g5
 rw [e6] at g6
 obtain ⟨kd,q0,_,_⟩:=DataW.trod_int Tryz.underlying3 g0
 obtain ⟨nm,q1,_,w1⟩:=DataW.trod_string Tryz.underlying9 g1
 obtain ⟨ps,q2,_,_⟩:=DataW.trod_int Tryz.underlying3 g2
 obtain ⟨fl,q3,_,wfl⟩:=DataW.trod_int Tryz.underlying3 g3
 obtain ⟨ty,q4,_,w4⟩:=DataW.trod_string Tryz.underlying9 g4
 obtain ⟨vl,q5,_,w5⟩:=DataW.trod_string Tryz.underlying9 g5
 simp only [List.cons.injEq,and_true] at q0 q1 q2 q3 q4 q5
 subst q0 q1 q2 q3 q4 q5
 obtain ⟨l,hc⟩:=open_cameC g6
 exact ⟨⟨kd,nm.data.toList,ps,fl,ty.data.toList,vl.data.toList,l⟩,c6,rfl,hc,⟨w1,w4,w5⟩,lit_i64 wfl⟩
end Go.Proofs.YtgonemalnljabaaGreatDoor
