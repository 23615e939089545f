/- SpMath -/
import Derived.Test.YtgonemalnljabaaGreatDoorVE1
import Derived.Test.YtgonemalnljabaaGreatDoorVKC
import Derived.Test.YtgonemalnljabaaGreatDoorVTDraw3
import Derived.Test.YtgonemalnljabaaGreatDoorVNsMath
set_option maxRecDepth 100000
set_option maxHeartbeats 16000000
set_option linter.unusedSimpArgs false
set_option linter.unusedVariables false
namespace Go.Proofs.YtgonemalnljabaaGreatDoor
open Go.ChangeShapes Go.WideShapes Go.ChangeAt Go.RowKit
theorem usesIn_own {T:Tm} (hT:T.Ok) (hl:T.bytes.length≤2000):usesIn T.bytes=srt T.cnames:=by rw [usesIn,termOf_some (isTm_own hT hl)]
theorem given_own (T:Tm):T.head.given T.args=T:=by
 induction T with
 | app f a ih1 ih2 =>
  rw [Tm.head,Tm.args,Tm.given,List.foldl_append]
  show Tm.app (f.head.given f.args) a=_
  rw [ih1]
 | _=>rfl
theorem arrows_own (T:Tm):Tm.arrows T.doms T.targ=T:=by
 induction T with
 | pi d b ih1 ih2 =>
  rw [Tm.targ,Tm.doms]
  show Tm.pi d (Tm.arrows b.doms b.targ)=_
  rw [ih2]
 | _=>rfl
theorem names_drawn:∀ {T:Tm},T.Drawn→∀ x∈T.cnames,x∈theNames:=by
 intro T
 induction T with
 | var n=>intro _ x hx;simp [Tm.cnames] at hx
 | sort t=>intro _ x hx;simp [Tm.cnames] at hx
 | const n ls=>intro h x hx;simp only [Tm.cnames,List.mem_singleton] at hx;subst hx;exact h
 | app f a i1 i2=>intro h x hx;exact (List.mem_append.1 hx).elim (i1 h.1 x) (i2 h.2 x)
 | lam f a i1 i2=>intro h x hx;exact (List.mem_append.1 hx).elim (i1 h.1 x) (i2 h.2 x)
 | pi f a i1 i2=>intro h x hx;exact (List.mem_append.1 hx).elim (i1 h.1 x) (i2 h.2 x)
 | lett f a b i1 i2 i3=>intro h x hx;exact (List.mem_append.1 hx).elim (fun k=>(List.mem_append.1 k).elim (i1 h.1 x) (i2 h.2.1 x)) (i3 h.2.2 x)
theorem namesOk_asc {l:List BL} (ha:Asc l) (hn:∀ x∈l,nameOk x=true):namesOk l=true:=by
 refine namesOk_done fun j hj=>?_
 cases j with
 | zero=>exact okAt_zero hj (hn _ (List.getElem_mem hj))
 | succ k =>
  rw [okAt_succ hj (hn _ (List.getElem_mem hj)),decide_eq_true_eq]
  exact List.pairwise_iff_getElem.1 ha k (k+1) (by omega) hj (by omega)
theorem none_not:([110,111,110,101]:List UInt8)∉theNames:=by decide
theorem catB_le {ts:List Tm} {m:Nat} (h:∀ a∈ts,a.bytes.length≤m):(catB ts).length≤ts.length*m:=by
 induction ts with
 | nil=>simp [catB]
 | cons x r ih =>
  have e:catB (x :: r)=x.bytes ++ catB r:=by simp [catB]
  have h1:=h x List.mem_cons_self
  have h2:=ih fun a ha=>h a (List.mem_cons_of_mem _ ha)
  rw [e,List.length_append,List.length_cons,Nat.add_mul]
  omega
end Go.Proofs.YtgonemalnljabaaGreatDoor
