/- ListsP -/
import Derived.SliceStrings
import Derived.Test.YtgonemalnljabaaGreatDoorVBase
set_option maxRecDepth 100000
set_option maxHeartbeats 16000000
set_option linter.unusedSimpArgs false
set_option linter.unusedVariables false
namespace Go.Proofs.YtgonemalnljabaaGreatDoor
open Go.ChangeShapes Go.WideShapes Go.ChangeAt Go.RowKit
def Came (w:World) (v:Value) (l:List (List UInt8)):Prop :=
 ∃ (a0:Option Addr) (cap b off:Nat),v=.slice a0 l.length cap∧(0 < l.length→a0=some ⟨b,off,none⟩∧b < w.heap.size)∧(∀ j (h:j < l.length),w.cell? ⟨b,off+j,none⟩=some (sv l[j]))∧l.length≤maxLen∧∀ x∈l,x.length≤maxLen
theorem Came.below {w w':World} {v:Value} {l:List (List UInt8)} (h:Came w v l) (hb:Below w.heap.size w w'):Came w' v l:=by
 obtain ⟨a0,cap,b,off,h1,h2,h3,h4,h5⟩:=h
 refine ⟨a0,cap,b,off,h1,fun h0=>⟨(h2 h0).1,Nat.lt_of_lt_of_le (h2 h0).2 hb.size⟩,fun j hj=>?_,h4,h5⟩
 rw [hb.cell (p:=⟨b,off+j,none⟩) (h2 (by omega)).2]
 exact h3 j hj
theorem size_sv (x:List UInt8):(⟨x.toArray⟩:ByteArray).size=x.length:=by simp [ByteArray.size]
theorem infoStr':(Tryz.prog.info? 9).map (fun i=>(i.zero,i.size,i.bytes))=some (some (.string ⟨#[]⟩),1,16):=by kernel_rfl
def LRes' (r:List (List UInt8)) (w:World) (e:Ending) (w':World):Prop :=
 ∃ v,e=.returned v∧w'.ownsRow w.heap.size 9 1 v r.length (r.map sv)∧Below w.heap.size w w'
end Go.Proofs.YtgonemalnljabaaGreatDoor
