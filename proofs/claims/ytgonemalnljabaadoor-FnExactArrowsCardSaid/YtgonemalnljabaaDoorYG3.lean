/- TOkS -/
import Derived.Test.YtgonemalnljabaaDoorYA5
set_option maxRecDepth 100000
set_option maxHeartbeats 16000000
set_option linter.unusedSimpArgs false
set_option linter.unusedVariables false
namespace Go.Proofs.YtgonemalnljabaaDoor
open Go.ChangeShapes Go.WideShapes Go.ChangeAt Go.RowKit
theorem specTermOk (s:ByteArray) (w:World) (hs:s.size≤maxLen) :
  Calls Tryd.prog 9 #[.string s] w fun e w'=>e=.returned (.bool (termOk s.data.toList))∧Below w.heap.size w w':=by
 have f1:=Ld (specL06All s w hs)
 go_enter Tryd.func9,Tryd.ntmps9
 go_wp2_with fail
 (with_reducible refine f1.out.mono ?_);rintro e w1 ⟨v,ns,rfl,hr,hb,_,(⟨t,ht,hn,hp⟩ | ⟨hno,rfl⟩)⟩
 ·obtain ⟨la,lc,rfl⟩:=own_sliceN hr
  have hsz:=t.size_pos
  have HE:Hid (termOk s.data.toList=true):=by rw [Hid,termOk,termOf_some ht];rfl
  have d1:decide ((0:Int) < (ns.length:Int))=true:=decide_eq_true (by omega)
  have d1n:decide (0 < ns.length)=true:=decide_eq_true (by omega)
  have HB:=Ld hb
  clear hr ht hn hp hb f1
  go_wp2
  go_ret
  rw [HE.out]
  exact ⟨rfl,HB.out⟩
 ·obtain ⟨la,lc,rfl⟩:=own_sliceN hr
  have HE:Hid (termOk s.data.toList=false):=by rw [Hid,termOk,termOf_none hno];rfl
  have HB:=Ld hb
  clear hr hno hb f1
  go_wp2
  go_ret
  rw [HE.out]
  exact ⟨rfl,HB.out⟩
end Go.Proofs.YtgonemalnljabaaDoor
