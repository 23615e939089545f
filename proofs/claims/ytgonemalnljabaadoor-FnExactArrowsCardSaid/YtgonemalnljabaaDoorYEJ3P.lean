/- EJ3P -/
import Derived.Test.YtgonemalnljabaaDoorYR1
set_option maxRecDepth 100000
set_option maxHeartbeats 16000000
set_option linter.unusedSimpArgs false
set_option linter.unusedVariables false
namespace Go.Proofs.YtgonemalnljabaaDoor
open Go.ChangeShapes Go.WideShapes Go.ChangeAt Go.RowKit
theorem termOk_iff {l:List UInt8}:termOk l=true↔∃ t,IsTm l t:=by
 unfold termOk
 constructor
 ·intro h
  obtain ⟨t,ht⟩:=Option.isSome_iff_exists.1 h
  exact ⟨t,termOf_is ht⟩
 ·rintro ⟨t,ht⟩
  rw [termOf_some ht]
  rfl
theorem AllTm.ok {ls:List (List UInt8)} {ts:List Tm} (h:AllTm ls ts):∀ t∈ts,t.Ok:=fun t ht=>(h.2 t ht).1
theorem AllTm.all {ls:List (List UInt8)} {ts:List Tm} (h:AllTm ls ts):∀ a∈ls,termOk a=true:=fun a ha=>by
 rw [← h.1] at ha
 obtain ⟨t,ht,rfl⟩:=List.mem_map.1 ha
 exact termOk_iff.2 ⟨t,h.2 t ht⟩
end Go.Proofs.YtgonemalnljabaaDoor
