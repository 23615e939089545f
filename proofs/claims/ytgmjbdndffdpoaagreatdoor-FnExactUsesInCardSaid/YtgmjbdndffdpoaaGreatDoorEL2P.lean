/-
  Plain lemmas on rows of strings that lie apart.
-/
import Derived.Test.YtgmjbdndffdpoaaGreatDoorMarks
import Derived.Test.YtgmjbdndffdpoaaGreatDoorListsP
namespace Go.Proofs.YtgmjbdndffdpoaaGreatDoor
set_option maxRecDepth 100000
open Go.ChangeShapes Go.WideShapes Go.ChangeAt Go.RowKit
set_option linter.unusedSimpArgs false

def LoE (v : Value) (m : Nat) : Prop := ∀ k, v.ownBlock = some k → m ≤ k
def HiE (v : Value) (m : Nat) : Prop := ∀ k, v.ownBlock = some k → k < m
theorem own_loE {w : World} {b n : Nat} {v : Value} {xs : List Value} (h : w.ownsRow b 9 1 v n xs) : LoE v b := fun k hk => (h.lt k hk).1
theorem own_hiE {w : World} {b n : Nat} {v : Value} {xs : List Value} (h : w.ownsRow b 9 1 v n xs) : HiE v w.heap.size := fun k hk => (h.lt k hk).2
theorem kept_apartE {w w' : World} {b n M : Nat} {v v' : Value} {xs : List Value} (h : w.ownsRow b 9 1 v n xs) (hg : w.grownBy w' v'.ownBlock) (h1 : HiE v M) (h2 : LoE v' M) : w'.ownsRow b 9 1 v n xs := by
  refine h.kept hg ?_
  rcases hv : v.ownBlock with _ | k
  · exact .inl rfl
  · refine .inr fun e => ?_
    have := h1 k hv; have := h2 k e.symm; omega

end Go.Proofs.YtgmjbdndffdpoaaGreatDoor
