/- TDraw3 -/
import Derived.Test.YtgonemalnljabaaGreatDoorVKD
set_option maxRecDepth 100000
set_option maxHeartbeats 16000000
set_option linter.unusedSimpArgs false
set_option linter.unusedVariables false
namespace Go.Proofs.YtgonemalnljabaaGreatDoor
open Go.ChangeShapes Go.WideShapes Go.ChangeAt Go.RowKit
theorem drawTermTopD {w:World} {v:Value} {l:List UInt8} (hl:CameB w v l) (hn:l.length≤2000000) :
  Calls Tryz.prog 15 #[v] w fun e w'=>(∃ T:Tm,T.Ok∧T.Drawn∧T.bytes.length≤823∧e=.returned (.string ⟨T.bytes.toArray⟩))∧Below w.heap.size w w':=by
 have f1:=Ld (drawNew hl hn)
 have f2:Hid (∀ cb W,Cur w v l cb W→Calls Tryz.prog 57 #[.pointer (some ⟨cb,0,none⟩),.int .i64 1,.int .i64 3] W (TmPostD w v l cb (tmMax 3))):=fun cb W hW=>drawTermD hl hn 3 1 (by decide) (by decide) W hW
 obtain ⟨a0,cap,_,_,rfl,_⟩:=hl
 go_enter Tryz.func15,Tryz.ntmps15
 go_wp2_with fail
 (with_reducible refine f1.out.mono ?_);rintro e w1 ⟨cb,rfl,hc1⟩
 go_wp2_with fail
 (with_reducible refine (f2.out _ _ hc1).mono ?_);rintro e w2 ⟨⟨T,hT,hD,hlT,rfl⟩,hc2⟩
 go_wp2
 go_ret
 exact ⟨⟨T,hT,hD,Nat.le_trans hlT (by decide),rfl⟩,hc2.1⟩
end Go.Proofs.YtgonemalnljabaaGreatDoor
