/- EGivP -/
import Derived.Test.YtgonemalnljabaaDoorYE1
import Derived.Test.YtgonemalnljabaaDoorYG3
import Derived.Test.YtgonemalnljabaaDoorYA6
import Derived.Test.YtgonemalnljabaaDoorYV1
set_option maxRecDepth 100000
set_option maxHeartbeats 16000000
set_option linter.unusedSimpArgs false
set_option linter.unusedVariables false
namespace Go.Proofs.YtgonemalnljabaaDoor
open Go.ChangeShapes Go.WideShapes Go.ChangeAt Go.RowKit
theorem ba_app (a b:List UInt8):(⟨a.toArray⟩:ByteArray) ++ ⟨b.toArray⟩=⟨(a ++ b).toArray⟩:=by
 apply ByteArray.ext
 simp
theorem flat_take_le (l:List (List UInt8)) (k:Nat):(l.take k).flatten.length≤l.flatten.length:=by
 have h:=congrArg List.length (congrArg List.flatten (List.take_append_drop k l))
 rw [List.flatten_append,List.length_append] at h
 omega
theorem mem_take_succ {l:List (List UInt8)} {k:Nat} (h:k < l.length) {P:List UInt8→Prop} (h1:∀ a∈l.take k,P a) (h2:P l[k]):∀ a∈l.take (k+1),P a:=by
 intro a ha
 rw [List.take_succ_eq_append_getElem h] at ha
 rcases List.mem_append.1 ha with ha | ha
 ·exact h1 a ha
 ·rw [List.mem_singleton.1 ha];exact h2
end Go.Proofs.YtgonemalnljabaaDoor
