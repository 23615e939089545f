/- EMath UMath -/
import Derived.Test.YtgonemalnljabaaDoorYA1
set_option maxRecDepth 100000
set_option maxHeartbeats 16000000
set_option linter.unusedSimpArgs false
set_option linter.unusedVariables false
namespace Go.Proofs.YtgonemalnljabaaDoor
open Go
namespace Tm
def args:Tm→List Tm
 | app f a=>f.args ++ [a]
 | _=>[]
end Tm
def catP (ts:List Tm):List UInt8:=(ts.map fun t=>112 :: t.bytes).flatten
def Tm.arrows (ds:List Tm) (t:Tm):Tm:=ds.foldr Tm.pi t
theorem arrows_bytes:∀ (ds:List Tm) (t:Tm),(Tm.arrows ds t).bytes=catP ds ++ t.bytes
 | [],t=>by simp [Tm.arrows,catP]
 | d :: ds,t=>by
  have:=arrows_bytes ds t
  show (Tm.pi d (Tm.arrows ds t)).bytes=_
  rw [Tm.bytes,this]
  simp [catP]
theorem arrows_ok:∀ (ds:List Tm) (t:Tm),t.Ok→(∀ a∈ds,a.Ok)→(Tm.arrows ds t).Ok
 | [],t,k,_=>k
 | d :: ds,t,k,ha=>⟨ha d List.mem_cons_self,arrows_ok ds t k (fun x hx=>ha x (List.mem_cons_of_mem _ hx))⟩
noncomputable def arrowsOf (ds:List (List UInt8)) (t:List UInt8):Option (List UInt8) :=
 if termOk t=true∧(∀ a∈ds,termOk a=true)∧t.length+ds.length+ds.flatten.length≤2000 then some ((ds.map fun d=>112 :: d).flatten ++ t) else none
end Go.Proofs.YtgonemalnljabaaDoor
namespace Go.Proofs.YtgonemalnljabaaDoor
inductive Lv where
 | z | par (k:Fin 3) | up (t:Lv) | mx (a b:Lv) | im (a b:Lv)
def Lv.bytes:Lv→List UInt8
 | .z=>[122]
 | .par k=>[117,UInt8.ofNat (48+k.val)]
 | .up t=>43 :: t.bytes
 | .mx a b=>109 :: (a.bytes ++ b.bytes)
 | .im a b=>105 :: (a.bytes ++ b.bytes)
def Lv.val (V:Fin 3→Nat):Lv→Nat
 | .z=>0
 | .par k=>V k
 | .up t=>t.val V+1
 | .mx a b=>max (a.val V) (b.val V)
 | .im a b=>if b.val V=0 then 0 else max (a.val V) (b.val V)
end Go.Proofs.YtgonemalnljabaaDoor
