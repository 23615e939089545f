/-
  Blocks that stay as they are (plain lemmas).
-/
import Derived.Test.YtnklajagefedmaaTMath
import Derived.Test.YtnklajagefedmaaNWalks2
namespace Go.Proofs.Ytnklajagefedmaa
set_option maxRecDepth 100000
open Go.ChangeShapes Go.WideShapes Go.ChangeAt Go.RowKit
set_option linter.unusedSimpArgs false

theorem heap_lt {W : World} {g : Nat} {o : Obj} (h : W.heap[g]? = some o) : g < W.heap.size := by
  rcases Nat.lt_or_ge g W.heap.size with h' | h'
  · exact h'
  · rw [Array.getElem?_eq_none h'] at h
    cases h
theorem blk_below {W W' : World} {g : Nat} {o : Obj} (h : W.heap[g]? = some o) (hb : Below W.heap.size W W') : W'.heap[g]? = some o := by
  rw [hb.block _ (heap_lt h)]
  exact h
end Go.Proofs.Ytnklajagefedmaa
