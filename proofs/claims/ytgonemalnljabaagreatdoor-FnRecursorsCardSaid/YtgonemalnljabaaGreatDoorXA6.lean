/- ListsP GCt GDecl -/
import Derived.SliceStrings
import Derived.Laws.Cover1
import Derived.Laws.ResultCell
import Derived.Deep.RegionHeld3
import Derived.Test.YtgonemalnljabaaGreatDoorXBase
set_option maxRecDepth 100000
set_option maxHeartbeats 16000000
set_option linter.unusedSimpArgs false
set_option linter.unusedVariables false
namespace Go.Proofs.YtgonemalnljabaaGreatDoor
open Go.ChangeShapes Go.WideShapes Go.ChangeAt Go.RowKit
def Came (w:World) (v:Value) (l:List (List UInt8)):Prop :=
 ∃ (a0:Option Addr) (cap b off:Nat),v=.slice a0 l.length cap∧(0 < l.length→a0=some ⟨b,off,none⟩∧b < w.heap.size)∧(∀ j (h:j < l.length),w.cell? ⟨b,off+j,none⟩=some (sv l[j]))∧l.length≤maxLen∧∀ x∈l,x.length≤maxLen
theorem Came.below {w w':World} {v:Value} {l:List (List UInt8)} (h:Came w v l) (hb:Below w.heap.size w w'):Came w' v l:=by
 obtain ⟨a0,cap,b,off,h1,h2,h3,h4,h5⟩:=h
 refine ⟨a0,cap,b,off,h1,fun h0=>⟨(h2 h0).1,Nat.lt_of_lt_of_le (h2 h0).2 hb.size⟩,fun j hj=>?_,h4,h5⟩
 rw [hb.cell (p:=⟨b,off+j,none⟩) (h2 (by omega)).2]
 exact h3 j hj
theorem size_sv (x:List UInt8):(⟨x.toArray⟩:ByteArray).size=x.length:=by simp [ByteArray.size]
theorem infoStr':(Tryz.prog.info? 9).map (fun i=>(i.zero,i.size,i.bytes))=some (some (.string ⟨#[]⟩),1,16):=by kernel_rfl
def LRes' (r:List (List UInt8)) (w:World) (e:Ending) (w':World):Prop :=
 ∃ v,e=.returned v∧w'.ownsRow w.heap.size 9 1 v r.length (r.map sv)∧Below w.heap.size w w'
abbrev Ct:=List UInt8 × List UInt8
def ccells (x:Ct):List Value:=[sv x.1,sv x.2]
def flatC (l:List Ct):List Value:=l.flatMap ccells
theorem flatC_cons (x:Ct) (l:List Ct):flatC (x :: l)=sv x.1 :: sv x.2 :: flatC l:=rfl
theorem flatC_at {l:List Ct}:∀ {j:Nat} (h:j < l.length),(flatC l)[j*2]?=some (sv l[j].1)∧(flatC l)[j*2+1]?=some (sv l[j].2):=by
 induction l with
 | nil=>intro j h;simp at h
 | cons x l ih =>
  intro j h
  cases j with
  | zero=>exact ⟨rfl,rfl⟩
  | succ j =>
   have:=ih (j:=j) (by simpa using h)
   rw [flatC_cons,show (j+1)*2=j*2+1+1 by omega]
   simpa using this
def CameC (w:World) (v:Value) (l:List Ct):Prop :=
 ∃ (a0:Option Addr) (cap b off:Nat),v=.slice a0 l.length cap∧(0 < l.length→a0=some ⟨b,off,none⟩∧b < w.heap.size)∧(∀ j (h:j < l.length),w.cell? ⟨b,off+j*2,none⟩=some (sv l[j].1)∧w.cell? ⟨b,off+j*2+1,none⟩=some (sv l[j].2))∧l.length≤maxLen∧∀ x∈l,x.1.length≤maxLen∧x.2.length≤maxLen
theorem CameC.below {w w':World} {v:Value} {l:List Ct} (h:CameC w v l) (hb:Below w.heap.size w w'):CameC w' v l:=by
 obtain ⟨a0,cap,b,off,h1,h2,h3,h4,h5⟩:=h
 refine ⟨a0,cap,b,off,h1,fun h0=>⟨(h2 h0).1,Nat.lt_of_lt_of_le (h2 h0).2 hb.size⟩,fun j hj=>?_,h4,h5⟩
 have hlt:=(h2 (by omega)).2
 rw [hb.cell (p:=⟨b,off+j*2,none⟩) hlt,hb.cell (p:=⟨b,off+j*2+1,none⟩) hlt]
 exact h3 j hj
def totC (l:List Ct):Nat:=(l.map fun x=>x.1.length+x.2.length).sum
structure Dc where
 kind:Int
 name:List UInt8
 params:Int
 flags:Int
 type:List UInt8
 value:List UInt8
 ctors:List Ct
def Dc.val (d:Dc) (u:Value):Value:=.agg #[.int .i64 d.kind,.string ⟨d.name.toArray⟩,.int .i64 d.params,.int .i64 d.flags,.string ⟨d.type.toArray⟩,.string ⟨d.value.toArray⟩,u]
structure Dc.Fits (d:Dc):Prop where
 name:d.name.length≤maxLen
 type:d.type.length≤maxLen
 value:d.value.length≤maxLen
def Dc.size (d:Dc):Nat:=d.name.length+d.type.length+d.value.length+d.ctors.length+totC d.ctors
theorem alloc_any (w:World) (o:Obj):Below w.heap.size w (w.alloc o):=(Below.refl _ _).alloc (Nat.le_refl _) _
theorem own_setD {w:World} {b n z:Nat} {e:TypeId} {v:Value} {xs:List Value} (h:w.ownsRow b e z v n xs) (a:Nat) (i:Nat) (u:Value) (ha:a < b):(w.setCell ⟨a,i,none⟩ u).ownsRow b e z v n xs:=by
 refine h.kept (row:=some a) ⟨rfl,rfl,rfl,by simp [World.setCell],fun k hk hne=>Below.heap_setCell _ _ _ _ (fun e=>hne (by rw [e]))⟩ ?_
 rcases hv:v.ownBlock with _ | k
 ·exact .inl rfl
 ·exact .inr fun e'=>by
   have:=(h.lt k hv).1
   cases e'
   omega
theorem own_lower {W:World} {b b' z n:Nat} {e:TypeId} {v:Value} {xs:List Value} (h:W.ownsRow b e z v n xs) (hb:b'≤b):W.ownsRow b' e z v n xs:=by
 refine ⟨h.1,?_⟩
 rcases h.2 with h1 | ⟨g,cap,cur,h1,h2,h3⟩
 ·exact .inl h1
 ·exact .inr ⟨g,cap,cur,h1,Nat.le_trans hb h2,h3⟩
def DRes (d:Dc) (w:World) (e:Ending) (w':World):Prop :=
 ∃ u,e=.returned (d.val u)∧w'.ownsRow w.heap.size 42 2 u d.ctors.length (flatC d.ctors)∧Below w.heap.size w w'
theorem row_sliceD {W:World} {b z n:Nat} {e:TypeId} {v:Value} {xs:List Value} (h:W.ownsRow b e z v n xs):∃ a c,v=.slice a n c:=by
 rcases h.2 with ⟨rfl,rfl⟩ | ⟨g,cap,cur,rfl,_⟩
 ·exact ⟨_,_,rfl⟩
 ·exact ⟨_,_,rfl⟩
end Go.Proofs.YtgonemalnljabaaGreatDoor
