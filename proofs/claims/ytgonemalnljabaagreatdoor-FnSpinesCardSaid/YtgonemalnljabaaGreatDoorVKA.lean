/- FSay -/
import Derived.Test.YtgonemalnljabaaGreatDoorVF1
set_option maxRecDepth 100000
set_option maxHeartbeats 16000000
set_option linter.unusedSimpArgs false
set_option linter.unusedVariables false
namespace Go.Proofs.YtgonemalnljabaaGreatDoor
open Go
open Classical in
noncomputable def sayT (st:Option (List UInt8)) (R:Tm):Option (List UInt8):=st.bind fun B=>if R.Ok∧B.length+R.bytes.length≤2000 then some (B ++ R.bytes) else none
theorem sayT_some {B:List UInt8} {R:Tm} (h:R.Ok) (hl:B.length+R.bytes.length≤2000):sayT (some B) R=some (B ++ R.bytes):=if_pos ⟨h,hl⟩
theorem sayT_fail {B:List UInt8} {R:Tm} (h:¬ (R.Ok∧B.length+R.bytes.length≤2000)):sayT (some B) R=none:=if_neg h
end Go.Proofs.YtgonemalnljabaaGreatDoor
