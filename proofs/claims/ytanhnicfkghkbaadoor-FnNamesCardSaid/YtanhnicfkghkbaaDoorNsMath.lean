/-
  Plain: whether a list consists of names and rises strictly.
-/
import Derived.Test.YtanhnicfkghkbaaDoorNMath
namespace Go.Proofs.YtanhnicfkghkbaaDoor
set_option maxRecDepth 100000
open Go.ChangeShapes Go.WideShapes Go.ChangeAt Go.RowKit
set_option linter.unusedSimpArgs false
set_option linter.unusedVariables false

def okAt (l : List (List UInt8)) (k : Nat) : Bool := nameOk (l.getD k []) && (decide (k = 0) || decide (l.getD (k - 1) [] < l.getD k []))
def namesOk (l : List (List UInt8)) : Bool := (List.range l.length).all (okAt l)
theorem namesOk_bad {l : List (List UInt8)} {k : Nat} (h : k < l.length) (hb : okAt l k = false) : namesOk l = false := by
  rw [Bool.eq_false_iff]
  intro h2
  have := List.all_eq_true.1 h2 k (List.mem_range.2 h)
  rw [hb] at this
  cases this
theorem namesOk_done {l : List (List UInt8)} (h : ∀ j, j < l.length → okAt l j = true) : namesOk l = true :=
  List.all_eq_true.2 fun k hk => h k (List.mem_range.1 hk)
theorem okAt_name {l : List (List UInt8)} {k : Nat} (h : k < l.length) (hb : nameOk l[k] = false) : okAt l k = false := by
  simp [okAt, List.getElem?_eq_getElem h, hb]
theorem okAt_zero {l : List (List UInt8)} (h : 0 < l.length) (hb : nameOk l[0] = true) : okAt l 0 = true := by
  simp [okAt, List.getElem?_eq_getElem h, hb]
theorem okAt_succ {l : List (List UInt8)} {k : Nat} (h : k + 1 < l.length) (hb : nameOk l[k + 1] = true) : okAt l (k + 1) = decide (l[k] < l[k + 1]) := by
  have h2 : k < l.length := by omega
  simp [okAt, List.getElem?_eq_getElem h, List.getElem?_eq_getElem h2, hb]

end Go.Proofs.YtanhnicfkghkbaaDoor
