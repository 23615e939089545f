/-
  Plain facts on the drawn names.
-/
import Derived.Test.YtanhnicfkghkbaaDoorDrNm
import Derived.Test.YtanhnicfkghkbaaDoorUnderS
import Derived.Test.YtanhnicfkghkbaaDoorNPartsS
import Derived.Test.YtanhnicfkghkbaaDoorSMath
import Derived.Test.YtanhnicfkghkbaaDoorSWalks
import Derived.Test.YtanhnicfkghkbaaDoorInP
import Derived.Test.YtanhnicfkghkbaaDoorNsMath
namespace Go.Proofs.YtanhnicfkghkbaaDoor
set_option maxRecDepth 100000
open Go.ChangeShapes Go.WideShapes Go.ChangeAt Go.RowKit
set_option linter.unusedSimpArgs false

def dPart : List UInt8 := [46, 112, 97, 114, 116]
theorem name_facts : ∀ x ∈ theNames, nameOk x = true ∧ nameOk (x ++ dPart) = true ∧ under x (x ++ dPart) = true ∧ under (x ++ dPart) x = false ∧ (nparts (x ++ dPart)).length = (nparts x).length + 1 ∧ nameOk (x ++ dPart ++ [46]) = false ∧ under x x = true ∧ (nparts x).length ≤ 5 := by decide
theorem names_srt {a b : List BL} (ha : ∀ x ∈ a, x ∈ theNames) (hb : ∀ x ∈ b, x ∈ theNames) : namesOk (srt (a ++ b)) = true := by
  obtain ⟨s1, s2, _⟩ := srt_spec _ (a ++ b) (Nat.le_refl _)
  refine namesOk_done fun j hj => ?_
  have hm : (srt (a ++ b))[j] ∈ theNames := by
    rcases List.mem_append.1 ((s2 _).1 (List.getElem_mem hj)) with h | h
    · exact ha _ h
    · exact hb _ h
  have e0 : (srt (a ++ b)).getD j [] = (srt (a ++ b))[j] := by rw [List.getD_eq_getElem?_getD, List.getElem?_eq_getElem hj]; rfl
  rw [okAt, e0, (name_facts _ hm).1, Bool.true_and]
  by_cases h0 : j = 0
  · simp [h0]
  · have hj1 : j - 1 < (srt (a ++ b)).length := by omega
    have e1 : (srt (a ++ b)).getD (j - 1) [] = (srt (a ++ b))[j - 1] := by rw [List.getD_eq_getElem?_getD, List.getElem?_eq_getElem hj1]; rfl
    rw [e1]
    have := List.pairwise_iff_getElem.1 s1 (j - 1) j hj1 hj (by omega)
    simp [this]
theorem srt_swap (a b : List BL) : srt (a ++ b) = srt (b ++ a) := by
  obtain ⟨s1, s2, _⟩ := srt_spec _ (a ++ b) (Nat.le_refl _)
  obtain ⟨t1, t2, _⟩ := srt_spec _ (b ++ a) (Nat.le_refl _)
  refine asc_unique _ _ s1 t1 fun z => ?_
  rw [s2, t2, List.mem_append, List.mem_append, Or.comm]
theorem srt_facts (a b : List BL) (ha : 1 ≤ a.length) (ha5 : a.length ≤ 5) (hb5 : b.length ≤ 5) : 1 ≤ (srt (a ++ b)).length ∧ (srt (a ++ b)).length ≤ 10 ∧ (∀ x ∈ a, inL (srt (a ++ b)) x = true) ∧ (∀ x ∈ srt (a ++ b), inL a x = false → inL b x = true) := by
  obtain ⟨_, s2, s3⟩ := srt_spec _ (a ++ b) (Nat.le_refl _)
  rw [List.length_append] at s3
  refine ⟨srt_pos (by rw [List.length_append]; omega), by omega, fun x hx => ?_, fun x hx h => ?_⟩
  · exact decide_eq_true ((s2 x).2 (List.mem_append_left _ hx))
  · have h1 : ¬ x ∈ a := of_decide_eq_false h
    rcases List.mem_append.1 ((s2 x).1 hx) with h2 | h2
    · exact absurd h2 h1
    · exact decide_eq_true h2
end Go.Proofs.YtanhnicfkghkbaaDoor
