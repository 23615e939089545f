/-
  The order of labels, by kind and then by name.
-/
import Derived.Test.YtlaoioicefohiaaGMath
import Derived.Test.YtlaoioicefohiaaLb2
namespace Go.Proofs.Ytlaoioicefohiaa
set_option maxRecDepth 100000
theorem lessL_iff (x y : Int × List UInt8) : lessL x.1 x.2 y.1 y.2 = true ↔ x.1 < y.1 ∨ (x.1 = y.1 ∧ x.2 < y.2) := by simp [lessL]
def ordL : SOrd (Int × List UInt8) where
  lt x y := lessL x.1 x.2 y.1 y.2
  irr x := by
    rw [Bool.eq_false_iff]
    intro h
    rcases (lessL_iff x x).1 h with h | ⟨_, h⟩
    · omega
    · exact List.lt_irrefl _ h
  tr x y z h1 h2 := by
    rw [lessL_iff] at h1 h2 ⊢
    rcases h1 with h1 | ⟨h1, h1'⟩ <;> rcases h2 with h2 | ⟨h2, h2'⟩
    · exact .inl (by omega)
    · exact .inl (by omega)
    · exact .inl (by omega)
    · exact .inr ⟨by omega, List.lt_trans h1' h2'⟩
  tot x y h1 h2 := by
    rw [Bool.eq_false_iff, ne_eq, lessL_iff] at h1 h2
    have e1 : x.1 = y.1 := by
      have a1 : ¬ x.1 < y.1 := fun h => h1 (.inl h)
      have a2 : ¬ y.1 < x.1 := fun h => h2 (.inl h)
      omega
    have e2 : x.2 = y.2 := by
      have a1 : ¬ x.2 < y.2 := fun h => h1 (.inr ⟨e1, h⟩)
      have a2 : ¬ y.2 < x.2 := fun h => h2 (.inr ⟨e1.symm, h⟩)
      exact List.le_antisymm (List.not_lt.1 a2) (List.not_lt.1 a1)
    exact Prod.ext e1 e2
end Go.Proofs.Ytlaoioicefohiaa
