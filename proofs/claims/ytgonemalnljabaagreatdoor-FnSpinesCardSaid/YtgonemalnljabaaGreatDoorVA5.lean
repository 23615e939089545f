/- TReadU TAll -/
import Derived.Test.YtgonemalnljabaaGreatDoorVA4
import Derived.Test.YtgonemalnljabaaGreatDoorVTReadT
set_option maxRecDepth 100000
set_option maxHeartbeats 16000000
set_option linter.unusedSimpArgs false
set_option linter.unusedVariables false
namespace Go.Proofs.YtgonemalnljabaaGreatDoor
open Go.ChangeShapes Go.WideShapes Go.ChangeAt Go.RowKit
theorem isTm_tat {l:List UInt8} (hl:l.length≤2000) (t:Tm):IsTm l t↔Tat l t []:=by
 constructor
 ·rintro ⟨h1,h2,_⟩
  exact ⟨h1,by rw [h2];simp⟩
 ·rintro ⟨h1,h2⟩
  exact ⟨h1,by rw [h2];simp,hl⟩
end Go.Proofs.YtgonemalnljabaaGreatDoor
