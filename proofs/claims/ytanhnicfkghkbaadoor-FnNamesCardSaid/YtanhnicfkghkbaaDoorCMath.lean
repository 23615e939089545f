/-
  Plain lemmas on the comparison of lists of bytes and of numbers by a sign; no function of the program is named here.
-/
import Derived.Test.YtanhnicfkghkbaaDoorBase
import Derived.Lib.Bytealg
import Derived.Lib.Small
namespace Go.Proofs.YtanhnicfkghkbaaDoor
set_option maxRecDepth 100000

theorem cmpB_cases : ∀ a b : List UInt8, (Lib.compareBytes a b = -1 ∧ a < b) ∨ (Lib.compareBytes a b = 0 ∧ a = b) ∨ (Lib.compareBytes a b = 1 ∧ b < a)
  | [], [] => .inr (.inl ⟨rfl, rfl⟩)
  | [], y :: b => .inl ⟨rfl, List.nil_lt_cons _ _⟩
  | x :: a, [] => .inr (.inr ⟨rfl, List.nil_lt_cons _ _⟩)
  | x :: a, y :: b => by
    rw [Lib.compareBytes]
    by_cases h1 : x < y
    · rw [if_pos h1]
      exact .inl ⟨rfl, List.cons_lt_cons_iff.2 (.inl h1)⟩
    · rw [if_neg h1]
      by_cases h2 : y < x
      · rw [if_pos h2]
        exact .inr (.inr ⟨rfl, List.cons_lt_cons_iff.2 (.inl h2)⟩)
      · rw [if_neg h2]
        have e : x = y := UInt8.toNat_inj.1 (by rw [UInt8.lt_iff_toNat_lt] at h1 h2; omega)
        subst e
        rcases cmpB_cases a b with ⟨h, h'⟩ | ⟨h, h'⟩ | ⟨h, h'⟩
        · exact .inl ⟨h, List.cons_lt_cons_iff.2 (.inr ⟨rfl, h'⟩)⟩
        · exact .inr (.inl ⟨h, by rw [h']⟩)
        · exact .inr (.inr ⟨h, List.cons_lt_cons_iff.2 (.inr ⟨rfl, h'⟩)⟩)
theorem cmpB_lt (a b : List UInt8) : decide (Lib.compareBytes a b < 0) = decide (a < b) := by
  rcases cmpB_cases a b with ⟨h, h'⟩ | ⟨h, h'⟩ | ⟨h, h'⟩
  · rw [h]; simp [h']
  · rw [h]; subst h'; simp
  · rw [h]
    have : ¬ a < b := fun h2 => List.lt_irrefl _ (List.lt_trans h2 h')
    simp [this]
theorem cmpB_zero (a b : List UInt8) : Lib.compareBytes a b = 0 ↔ a = b := by
  rcases cmpB_cases a b with ⟨h, h'⟩ | ⟨h, h'⟩ | ⟨h, h'⟩
  · rw [h]
    refine ⟨fun h2 => by omega, fun h2 => ?_⟩
    subst h2
    exact absurd h' (List.lt_irrefl _)
  · rw [h]; simp [h']
  · rw [h]
    refine ⟨fun h2 => by omega, fun h2 => ?_⟩
    subst h2
    exact absurd h' (List.lt_irrefl _)
theorem cmpI_lt (a b : Int) : Lib.compareInt a b < 0 ↔ a < b := by
  unfold Lib.compareInt
  by_cases h1 : a < b
  · simp [h1]
  · by_cases h2 : a > b <;> simp [h1, h2]
theorem cmpI_zero (a b : Int) : Lib.compareInt a b = 0 ↔ a = b := by
  unfold Lib.compareInt
  by_cases h1 : a < b
  · rw [if_pos h1]; omega
  · rw [if_neg h1]
    by_cases h2 : a > b
    · rw [if_pos h2]; omega
    · rw [if_neg h2]; omega
end Go.Proofs.YtanhnicfkghkbaaDoor
