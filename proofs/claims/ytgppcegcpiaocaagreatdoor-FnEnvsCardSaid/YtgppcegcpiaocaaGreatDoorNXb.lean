/- What the cards use beside the walks: OpenB ShelfSp -/
import Derived.Test.YtgppcegcpiaocaaGreatDoorNV1
import Derived.ChangeSlices
import Derived.Shelf.LaysM
import Derived.Shelf.Strings.Split
import Derived.Shelf.Strings.SplitShaped
import Derived.Test.YtgppcegcpiaocaaGreatDoorProg
import Derived.Test.YtgppcegcpiaocaaGreatDoorNP1
set_option maxRecDepth 100000
set_option linter.unusedSimpArgs false
set_option linter.unusedVariables false
namespace Go.Proofs.YtgppcegcpiaocaaGreatDoor
open Go.ChangeShapes Go.WideShapes Go.ChangeAt Go.RowKit
theorem cellsU8:Tryz.prog.cellsOf 5=1:=by kernel_rfl
theorem u8_wf{n:Int}(h:(Lit.int .u8 n).wf=true):0<=n/\n<=255:=by
 have h2:IntKind.u8.min<=n/\n<=IntKind.u8.max:=by simpa [Lit.wf] using h
 exact h2
theorem open_cameB{H:Type}{enc:TypeId × Value->H}{W:World}{a0:Option Addr}{len cap fuel:Nat}{x:DataW H × List MemPlace}
  (hf:DataW.trod enc Tryz.prog W 0 (fun _=>true) true fuel 22 [.slice a0 len cap]=some x):∃ l,cM W (.slice a0 len cap) l/\l.length<=maxLen:=by
 rcases open_ints Tryz.underlying22 Tryz.underlying5 cellsU8 hf with ⟨hcs,hx⟩|⟨a,len',cap',zs,hcs,_,hl,hm,hz,hx,hcell,hws⟩
 ·simp at hcs;obtain⟨rfl,rfl,rfl⟩:=hcs;exact⟨[],⟨none,0,0,0,rfl,fun h=>absurd h (by simp),fun j h=>absurd h (by simp)⟩,Nat.zero_le _⟩
 ·simp at hcs;obtain⟨rfl,rfl,rfl⟩:=hcs;simp only[if_true] at hz;obtain⟨b,off,spot⟩:=a;have hlen:((zs.take len).map fun z=>UInt8.ofNat z.toNat).length=len:=(by simp;omega);have hspot:0<len->spot=none:=fun h0=>by simpa [Addr.add] using World.cell?_spot (hcell 0 (by omega))
  refine⟨(zs.take len).map (fun z=>UInt8.ofNat z.toNat),⟨some ⟨b,off,spot⟩,cap,b,off,by rw[hlen],fun h0=>?_,fun j hj=>?_⟩,by rw[hlen];omega⟩
  ·rw[hlen] at h0;obtain rfl:=hspot h0;refine⟨rfl,?_⟩;have hc:=hcell 0 (by omega);by_cases hb:b<W.heap.size
   ·exact hb
   ·unfold World.cell? at hc;rw[Array.getElem?_eq_none (by simp[Addr.add];omega)] at hc;cases hc
  ·rw[hlen] at hj;obtain rfl:=hspot (by omega);have hj2:j<zs.length:=(by omega);have hw:=u8_wf (hws zs[j] (List.getElem_mem hj2));have e:((((zs.take len).map fun z=>UInt8.ofNat z.toNat)[j]).toNat:Int)=zs.getD j 0:=by
    simp[List.getElem?_eq_getElem hj2];omega
   rw[e,← add_plain];exact hcell j hj2
end Go.Proofs.YtgppcegcpiaocaaGreatDoor
namespace Go.Proofs
open Go.Shelf
def Tryz.laysM146_ren:Go.Shelf.Ren:=⟨fun|146=>200|221=>218|268=>229|138=>220|143=>230|195=>232|197=>241|218=>233|219=>174|260=>245|217=>193|225=>194|224=>195|267=>196|266=>214|314=>215|n=>n,fun|9=>9|31=>26|3=>3|4=>4|0=>0|105=>277|21=>21|5=>5|46=>78|119=>283|139=>286|138=>285|146=>254|51=>141|n=>n,fun|1=>0|3=>6|4=>7|n=>n⟩
theorem Tryz.laysM146:Go.Proofs.LaysM.n146 Tryz.prog Tryz.laysM146_ren:={
 mixed:=by kernel_rfl
 f138:=Tryz.func220.trans (congrArg some (by kernel_rfl))
 f143:=Tryz.func230.trans (congrArg some (by kernel_rfl))
 f146:=Tryz.func200.trans (congrArg some (by kernel_rfl))
 f195:=Tryz.func232.trans (congrArg some (by kernel_rfl))
 f197:=Tryz.func241.trans (congrArg some (by kernel_rfl))
 f217:=Tryz.func193.trans (congrArg some (by kernel_rfl))
 f218:=Tryz.func233.trans (congrArg some (by kernel_rfl))
 f219:=Tryz.func174.trans (congrArg some (by kernel_rfl))
 f221:=Tryz.func218.trans (congrArg some (by kernel_rfl))
 f224:=Tryz.func195.trans (congrArg some (by kernel_rfl))
 f225:=Tryz.func194.trans (congrArg some (by kernel_rfl))
 f260:=Tryz.func245.trans (congrArg some (by kernel_rfl))
 f266:=Tryz.func214.trans (congrArg some (by kernel_rfl))
 f267:=Tryz.func196.trans (congrArg some (by kernel_rfl))
 f268:=Tryz.func229.trans (congrArg some (by kernel_rfl))
 f314:=Tryz.func215.trans (congrArg some (by kernel_rfl))
 t0:=Tryz.underlying0
 a0:=Tryz.isAgg0
 z0:=Tryz.sizeOf0
 v0:=Tryz.zeroValue0
 t3:=Tryz.underlying3
 a3:=Tryz.isAgg3
 z3:=Tryz.sizeOf3
 v3:=Tryz.zeroValue3
 t4:=Tryz.underlying4
 a4:=Tryz.isAgg4
 z4:=Tryz.sizeOf4
 v4:=Tryz.zeroValue4
 t5:=Tryz.underlying5
 a5:=Tryz.isAgg5
 z5:=Tryz.sizeOf5
 v5:=Tryz.zeroValue5
 t9:=Tryz.underlying9
 a9:=Tryz.isAgg9
 z9:=Tryz.sizeOf9
 v9:=Tryz.zeroValue9
 t21:=Tryz.underlying21
 a21:=Tryz.isAgg21
 z21:=Tryz.sizeOf21
 v21:=Tryz.zeroValue21
 t31:=Tryz.underlying26
 a31:=Tryz.isAgg26
 z31:=Tryz.sizeOf26
 v31:=Tryz.zeroValue26
 t46:=Tryz.underlying78
 a46:=Tryz.isAgg78
 z46:=Tryz.sizeOf78
 v46:=Tryz.zeroValue78
 t51:=Tryz.underlying141
 a51:=Tryz.isAgg141
 z51:=Tryz.sizeOf141
 v51:=Tryz.zeroValue141
 t105:=Tryz.underlying277
 a105:=Tryz.isAgg277
 z105:=Tryz.sizeOf277
 v105:=Tryz.zeroValue277
 t119:=Tryz.underlying283
 a119:=Tryz.isAgg283
 z119:=Tryz.sizeOf283
 t138:=Tryz.underlying285
 a138:=Tryz.isAgg285
 z138:=Tryz.sizeOf285
 v138:=Tryz.zeroValue285
 t139:=Tryz.underlying286
 a139:=Tryz.isAgg286
 z139:=Tryz.sizeOf286
 v139:=Tryz.zeroValue286
 t146:=Tryz.underlying254
 a146:=Tryz.isAgg254
 z146:=Tryz.sizeOf254
 v146:=Tryz.zeroValue254
 g1:=by kernel_rfl
 g3:=by kernel_rfl
 g4:=by kernel_rfl
 i0:=by kernel_rfl
 i3:=by kernel_rfl
 i4:=by kernel_rfl
 i5:=by kernel_rfl
 i9:=by kernel_rfl
 i21:=by kernel_rfl
 i31:=by kernel_rfl
 i46:=by kernel_rfl
 i51:=by kernel_rfl
 i105:=by kernel_rfl
 i138:=by kernel_rfl
 i139:=by kernel_rfl
 i146:=by kernel_rfl
 m1:=by kernel_rfl
 s1_3:=fun w h=>Go.Proofs.cell_of_shapedOpen_int (zero:=#[.int .i64 0]) (t:=3) h (of_decide_eq_true (by kernel_rfl)) (by kernel_rfl) rfl (by kernel_rfl) (by kernel_rfl) Tryz.underlying3
 m3:=by kernel_rfl
 m4:=by kernel_rfl }
end Go.Proofs
