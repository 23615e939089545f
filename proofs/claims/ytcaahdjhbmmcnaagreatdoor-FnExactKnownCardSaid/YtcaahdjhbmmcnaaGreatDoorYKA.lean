/- FSay KMath KVars EGiv EArr TVarS FOut FLift LftS -/
import Derived.Laws.Cover1
import Derived.Test.YtcaahdjhbmmcnaaGreatDoorYF1
import Derived.Test.YtcaahdjhbmmcnaaGreatDoorYE1
import Derived.Test.YtcaahdjhbmmcnaaGreatDoorYE2
import Derived.Test.YtcaahdjhbmmcnaaGreatDoorYA6
import Derived.Test.YtcaahdjhbmmcnaaGreatDoorYG3
import Derived.Test.YtcaahdjhbmmcnaaGreatDoorYV1
import Derived.Test.YtcaahdjhbmmcnaaGreatDoorYA4
import Derived.Test.YtcaahdjhbmmcnaaGreatDoorYG1
set_option maxRecDepth 100000
set_option maxHeartbeats 16000000
set_option linter.unusedSimpArgs false
set_option linter.unusedVariables false
namespace Go.Proofs.YtcaahdjhbmmcnaaGreatDoor
open Go
open Classical in
noncomputable def sayT (st:Option (List UInt8)) (R:Tm):Option (List UInt8):=st.bind fun B=>if R.Ok/\B.length+R.bytes.length<=2000 then some (B ++ R.bytes) else none
theorem sayT_some {B:List UInt8} {R:Tm} (h:R.Ok) (hl:B.length+R.bytes.length<=2000):sayT (some B) R=some (B ++ R.bytes):=iP ⟨h,hl⟩
theorem sayT_fail {B:List UInt8} {R:Tm} (h:¬ (R.Ok/\B.length+R.bytes.length<=2000)):sayT (some B) R=none:=iN h
noncomputable def recLevels (d:Dc):Int:=if isData d=true then (if largeOk d=true then d.params+1 else d.params) else 0
end Go.Proofs.YtcaahdjhbmmcnaaGreatDoor
namespace Go.Proofs.YtcaahdjhbmmcnaaGreatDoor
open Go.ChangeShapes Go.WideShapes Go.ChangeAt Go.RowKit
structure KeepO (ob:Nat) (W W':World):Prop where
 os:W'.os=W.os
 tape:W'.tape=W.tape
 output:W'.output=W.output
 size:W.heap.size<=W'.heap.size
 low:∀ i,i < ob->W'.heap[i]?=W.heap[i]?
 typ:∀ i cur t fr,W.heap[i]?=some (.cells cur t fr)->t≠5->i≠ob->W'.heap[i]?=W.heap[i]?
theorem KeepO.refl (ob:Nat) (W:World):KeepO ob W W:=⟨rfl,rfl,rfl,nR _,fun _ _=>rfl,fun _ _ _ _ _ _ _=>rfl⟩
theorem KeepO.trans {ob:Nat} {W W1 W2:World} (h:KeepO ob W W1) (k:KeepO ob W1 W2):KeepO ob W W2 := ⟨k.os.trans h.os,k.tape.trans h.tape,k.output.trans h.output,Nat.le_trans h.size k.size,fun i hi=>(k.low i hi).trans (h.low i hi),
  fun i cur t fr hc ht hi=>(k.typ i cur t fr ((h.typ i cur t fr hc ht hi).trans hc) ht hi).trans (h.typ i cur t fr hc ht hi)⟩
theorem heap_lt {W:World} {i:Nat} {o:Obj} (h:W.heap[i]?=some o):i < W.heap.size:=(Array.getElem?_eq_some_iff.1 h).1
theorem KeepO.below {ob:Nat} {W W':World} (hb:Below W.heap.size W W') (hob:ob<=W.heap.size):KeepO ob W W' := ⟨hb.os,hb.tape,hb.output,hb.size,fun i hi=>hb.block i (by omega),fun i _ _ _ hc _ _=>hb.block i (heap_lt hc)⟩
theorem KeepO.belowOf {ob:Nat} {w W W':World} (h:KeepO ob W W') (hb:Below w.heap.size w W) (hob:w.heap.size<=ob):Below w.heap.size w W' := ⟨h.os.trans hb.os,h.tape.trans hb.tape,h.output.trans hb.output,Nat.le_trans hb.size h.size,fun i hi=>(h.low i (by omega)).trans (hb.block i hi)⟩
structure OSt (ob:Nat) (W:World) (vb:Value) (B:List UInt8) (bad:Bool):Prop where
 box:W.heap[ob]?=some (.cells #[vb,.bool bad] 182 (0,0))
 row:W.ownsRow (ob+1) 5 1 vb B.length (B.map bv)
theorem OSt.ne {ob:Nat} {W:World} {vb:Value} {B:List UInt8} {bad:Bool} (h:OSt ob W vb B bad):vb.ownBlock≠some ob:=fun e=>by
 have:=(h.row.lt ob e).1;omega
theorem OSt.below {ob:Nat} {W W':World} {vb:Value} {B:List UInt8} {bad:Bool} (h:OSt ob W vb B bad) (hb:Below W.heap.size W W'):OSt ob W' vb B bad := ⟨(hb.block ob (heap_lt h.box)).trans h.box,own_below h.row hb⟩
theorem setCell_grown (W:World) (ob j:Nat) (u:Value):W.grownBy (W.setCell ⟨ob,j,none⟩ u) (some ob) := ⟨rfl,rfl,rfl,by simp [World.setCell],fun k hk hne=>Below.heap_setCell _ _ _ _ (fun e=>hne (by rw [e]))⟩
theorem OSt.add {ob:Nat} {W w6:World} {vb v':Value} {B C:List UInt8} {bad:Bool} (h:OSt ob W vb B bad) (hg:W.grownBy w6 vb.ownBlock) (hr:w6.ownsRow (ob+1) 5 1 v' C.length (C.map bv)) :
  OSt ob (w6.setCell ⟨ob,0,none⟩ v') v' C bad/\KeepO ob W (w6.setCell ⟨ob,0,none⟩ v'):=by
 have hl:=heap_lt h.box;have hb6:w6.heap[ob]?=some (.cells #[vb,.bool bad] 182 (0,0)):=(hg.block ob hl (fun e=>h.ne e.symm)).trans h.box;have hg2:=setCell_grown w6 ob 0 v';have hne:v'.ownBlock≠some ob:=fun e=>by have:=(hr.lt ob e).1;omega
 refine ⟨⟨heap_setCell_same w6 ob 0 _ _ _ hb6,hr.kept hg2 (.inr hne)⟩,hg.os,hg.tape,hg.output,Nat.le_trans hg.size hg2.size,fun i hi=>?_,fun i cur t fr hc ht hi=>?_⟩
 ·refine (heap_setCell_other _ _ _ _ (by show i≠ob;omega)).trans (hg.block i (by omega) fun e=>?_);have:=(h.row.lt i e.symm).1;omega
 ·refine (heap_setCell_other _ _ _ _ hi).trans (hg.block i (heap_lt hc) fun e=>?_);rcases h.row.2 with ⟨e2,_⟩ | ⟨g,cap,cu,e2,_,hgh,_⟩
  ·rw [e2] at e;cases e
  ·rw [e2] at e;simp only [Value.ownBlock,Option.some.injEq] at e;subst e;rw [hc] at hgh;simp only [Option.some.injEq,Obj.cells.injEq] at hgh;exact ht hgh.2.1
theorem KeepO.row {ob:Nat} {W W':World} {b n z:Nat} {e:TypeId} {v:Value} {xs:List Value} (h:KeepO ob W W') {vb:Value} {B:List UInt8} {bad:Bool} (ho:OSt ob W vb B bad)
  (hr:W.ownsRow b e z v n xs) (h1:e≠5) (h2:e≠182):W'.ownsRow b e z v n xs:=by
 refine ⟨hr.1,?_⟩;rcases hr.2 with hz | ⟨g,cap,cur,e1,hb,hg,rest⟩
 ·exact .inl hz
 ·refine .inr ⟨g,cap,cur,e1,hb,?_,rest⟩;rw [h.typ g _ _ _ hg h1 (fun e=>?_)]
  ·exact hg
  ·subst e;rw [ho.box] at hg;simp only [Option.some.injEq,Obj.cells.injEq] at hg;exact h2 hg.2.1.symm
def OStO (ob:Nat) (W:World) (st:Option (List UInt8)):Prop:=∃ vb B bad,OSt ob W vb B bad/\B.length<=2000/\st=if bad=true then none else some B
theorem OStO.below {ob:Nat} {W W':World} {st:Option (List UInt8)} (h:OStO ob W st) (hb:Below W.heap.size W W'):OStO ob W' st:=by
 obtain ⟨vb,B,bad,ho,hB,e⟩:=h;exact ⟨vb,B,bad,ho.below hb,hB,e⟩
theorem OStO.lt {ob:Nat} {W:World} {st:Option (List UInt8)} (h:OStO ob W st):ob < W.heap.size:=by
 obtain ⟨vb,B,bad,ho,_,_⟩:=h;exact heap_lt ho.box
end Go.Proofs.YtcaahdjhbmmcnaaGreatDoor
