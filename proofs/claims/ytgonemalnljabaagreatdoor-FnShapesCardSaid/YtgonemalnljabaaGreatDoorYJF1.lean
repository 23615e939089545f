/- Dr1P Big Dr1 OpenB -/
import Derived.BigQuiet
import Derived.Laws.Bits128
import Derived.ChangeSlices
import Derived.Test.YtgonemalnljabaaGreatDoorYV1
set_option maxRecDepth 100000
set_option maxHeartbeats 16000000
set_option linter.unusedSimpArgs false
set_option linter.unusedVariables false
namespace Go.Proofs.YtgonemalnljabaaGreatDoor
open Go.ChangeShapes Go.WideShapes Go.ChangeAt Go.RowKit
def CameB (w:World) (v:Value) (l:List UInt8):Prop :=
 ∃ a0 cap b off,v=.slice a0 l.length cap∧(0 < l.length→a0=some ⟨b,off,none⟩∧b < w.heap.size)∧∀ j (h:j < l.length),w.cell? ⟨b,off+j,none⟩=some (.int .u8 (l[j].toNat:Int))
def Cur (w0:World) (v:Value) (l:List UInt8) (cb:Nat) (w:World):Prop :=
 Below w0.heap.size w0 w∧w0.heap.size≤cb∧cb < w.heap.size∧∃ (i:Nat) (h:Int),i≤l.length∧w.cell? ⟨cb,0,none⟩=some v∧w.cell? ⟨cb,1,none⟩=some (.int .i64 i)∧w.cell? ⟨cb,2,none⟩=some (.int .i64 h)∧w.frozen? ⟨cb,1,none⟩=false∧w.frozen? ⟨cb,2,none⟩=false
theorem i64_and255 (n:Int):bits .and .i64 n 255=n % 256:=by
 have h255:(BitVec.ofInt 64 255).toNat=2 ^ 8 - 1:=by decide
 have key:(BitVec.ofInt 64 n &&& BitVec.ofInt 64 255).toNat=(n % ((2 ^ 64:Nat):Int)).toNat % 2 ^ 8:=by
  rw [BitVec.toNat_and,BitVec.toNat_ofInt,h255,Nat.and_two_pow_sub_one_eq_mod]
 show IntKind.i64.wrap ((BitVec.ofInt 64 n &&& BitVec.ofInt 64 255).toNat:Nat)=n % 256
 rw [key,IntKind.wrap_i64]
 omega
theorem CameB.below {w w':World} {v:Value} {l:List UInt8} (h:CameB w v l) (hb:Below w.heap.size w w'):CameB w' v l:=by
 obtain ⟨a0,cap,b,off,h1,h2,h3⟩:=h
 refine ⟨a0,cap,b,off,h1,fun h0=>⟨(h2 h0).1,Nat.lt_of_lt_of_le (h2 h0).2 hb.size⟩,fun j hj=>?_⟩
 rw [hb.cell (p:=⟨b,off+j,none⟩) (h2 (by omega)).2]
 exact h3 j hj
theorem bigB {w:World} {v:Value} {l:List UInt8} (hl:CameB w v l) (hm:l.length≤maxLen) :
  Calls Tryz.prog 14 #[v] w fun e w'=>e=.returned (.bool (decide (1048576 < l.length)))∧w'=w:=by
 obtain ⟨a0,cap,_,_,rfl,_⟩:=hl
 unfold maxLen at hm
 by_cases h:1048576 < l.length
 ·have d1:decide ((1048576:Int) < (l.length:Int))=true:=decide_eq_true (by omega)
  have HE:Hid (decide (1048576 < l.length)=true):=decide_eq_true h
  go_enter Tryz.func14,Tryz.ntmps14
  go_wp2
  go_ret
  rw [HE.out]
  exact ⟨rfl,rfl⟩
 ·have d1:decide ((1048576:Int) < (l.length:Int))=false:=decide_eq_false (by omega)
  have HE:Hid (decide (1048576 < l.length)=false):=decide_eq_false h
  go_enter Tryz.func14,Tryz.ntmps14
  go_wp2
  go_ret
  rw [HE.out]
  exact ⟨rfl,rfl⟩
end Go.Proofs.YtgonemalnljabaaGreatDoor
