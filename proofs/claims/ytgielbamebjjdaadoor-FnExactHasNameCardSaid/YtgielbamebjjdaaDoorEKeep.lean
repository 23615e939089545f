/-
  Plain lemmas: rows from a block on that are as they were.
-/
import Derived.Test.YtgielbamebjjdaaDoorTRead
import Derived.Test.YtgielbamebjjdaaDoorVPutM
namespace Go.Proofs.YtgielbamebjjdaaDoor
set_option maxRecDepth 100000
open Go.ChangeShapes Go.WideShapes Go.ChangeAt Go.RowKit
set_option linter.unusedSimpArgs false

/-- The rows from B on that W has are as they were. -/
def KeepA (B : Nat) (W W' : World) : Prop := ∀ e z v n xs, W.ownsRow B e z v n xs → W'.ownsRow B e z v n xs
theorem KeepA.refl (B : Nat) (W : World) : KeepA B W W := fun _ _ _ _ _ h => h
theorem KeepA.strs {B : Nat} {W W' : World} (h : KeepA B W W') : KeepS B W W' := fun v n xs hv => h _ _ v n xs hv
theorem KeepA.step {B : Nat} {W wr w2 : World} {ob : Option Nat} (h : KeepA B W wr) (hg : wr.grownBy w2 ob) (ha : ∀ k, ob = some k → k < B ∨ W.heap.size ≤ k) : KeepA B W w2 := fun e z v n xs hv => by
  refine (h e z v n xs hv).kept hg ?_
  rcases hb : v.ownBlock with _ | k
  · exact .inl rfl
  · refine .inr fun e => ?_
    have h1 := hv.lt k hb
    have h2 := ha k e.symm
    omega
theorem KeepA.below {B : Nat} {W wr w2 : World} (h : KeepA B W wr) (hb : Below wr.heap.size wr w2) : KeepA B W w2 := h.step (grownBy_of_below hb none) (fun _ h => by cases h)
theorem own_baseE {W : World} {b b' z n : Nat} {e : TypeId} {v : Value} {xs : List Value} (h : W.ownsRow b e z v n xs) (hb : b' ≤ b) : W.ownsRow b' e z v n xs := by
  refine ⟨h.1, ?_⟩
  rcases h.2 with h1 | ⟨g, cap, cur, h1, h2, h3⟩
  · exact .inl h1
  · exact .inr ⟨g, cap, cur, h1, Nat.le_trans hb h2, h3⟩
def Off (B H : Nat) (v : Value) : Prop := ∀ k, v.ownBlock = some k → k < B ∨ H ≤ k
end Go.Proofs.YtgielbamebjjdaaDoor
