/-
  What is made is new.
-/
import Derived.Test.YtpljjkhlgckfkaaDoorBase
namespace Go.Proofs.YtpljjkhlgckfkaaDoor
set_option maxRecDepth 100000
open Go.ChangeShapes Go.WideShapes Go.ChangeAt Go.RowKit
set_option linter.unusedSimpArgs false
set_option linter.unusedVariables false

theorem alloc_any (w : World) (o : Obj) : Below w.heap.size w (w.alloc o) := (Below.refl _ _).alloc (Nat.le_refl _) _
theorem own_setD {w : World} {b n z : Nat} {e : TypeId} {v : Value} {xs : List Value} (h : w.ownsRow b e z v n xs) (a : Nat) (i : Nat) (u : Value) (ha : a < b) : (w.setCell ⟨a, i, none⟩ u).ownsRow b e z v n xs := by
  refine h.kept (row := some a) ⟨rfl, rfl, rfl, by simp [World.setCell], fun k hk hne => Below.heap_setCell _ _ _ _ (fun e => hne (by rw [e]))⟩ ?_
  rcases hv : v.ownBlock with _ | k
  · exact .inl rfl
  · exact .inr fun e' => by
      have := (h.lt k hv).1
      cases e'
      omega
theorem own_lower {W : World} {b b' z n : Nat} {e : TypeId} {v : Value} {xs : List Value} (h : W.ownsRow b e z v n xs) (hb : b' ≤ b) : W.ownsRow b' e z v n xs := by
  refine ⟨h.1, ?_⟩
  rcases h.2 with h1 | ⟨g, cap, cur, h1, h2, h3⟩
  · exact .inl h1
  · exact .inr ⟨g, cap, cur, h1, Nat.le_trans hb h2, h3⟩
end Go.Proofs.YtpljjkhlgckfkaaDoor
