/-
  Whether a list of strings holds one, plainly.
-/
import Derived.Test.YtanhnicfkghkbaaDoorListsP
namespace Go.Proofs.YtanhnicfkghkbaaDoor
set_option maxRecDepth 100000
open Go.ChangeShapes Go.WideShapes Go.ChangeAt Go.RowKit
set_option linter.unusedSimpArgs false
set_option linter.unusedVariables false

theorem own_nil_or {w : World} {b n : Nat} {v : Value} {xs : List Value} (h : w.ownsRow b 9 1 v n xs) (h0 : n = 0) : ∃ a cap, v = .slice a 0 cap := by
  subst h0
  rcases h.2 with ⟨rfl, _⟩ | ⟨g, cap, cur, rfl, _⟩
  · exact ⟨_, _, rfl⟩
  · exact ⟨_, _, rfl⟩
def inL (l : List (List UInt8)) (y : List UInt8) : Bool := decide (y ∈ l)
theorem inL_at {l : List (List UInt8)} {y : List UInt8} {k : Nat} (h : k < l.length) (he : l[k] = y) : inL l y = true := by
  simp only [inL, decide_eq_true_eq]
  rw [← he]
  exact List.getElem_mem h
theorem inL_succ {l : List (List UInt8)} {y : List UInt8} {k : Nat} (h : k < l.length) (h0 : inL (l.take k) y = false) (he : l[k] ≠ y) : inL (l.take (k + 1)) y = false := by
  simp only [inL, decide_eq_false_iff_not] at h0 ⊢
  rw [List.take_succ_eq_append_getElem h, List.mem_append]
  rintro (h1 | h1)
  · exact h0 h1
  · exact he (List.mem_singleton.1 h1).symm

end Go.Proofs.YtanhnicfkghkbaaDoor
