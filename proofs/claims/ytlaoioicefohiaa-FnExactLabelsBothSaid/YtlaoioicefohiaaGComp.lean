/-
  Plain lemmas: a list sorted by a strict total order, its repetitions taken out, is the merge that keeps each once; no function of the program is named here.
-/
import Derived.Test.YtlaoioicefohiaaGMath
import Derived.Lib.SlicesCompact
namespace Go.Proofs.Ytlaoioicefohiaa
set_option maxRecDepth 100000
section
variable {α : Type} [Inhabited α] [DecidableEq α] (O : SOrd α)

theorem gcompact_spec (d : Array α) (hs : ∀ i j, i < j → j < d.size → O.le d[i]! d[j]!) : ∀ m, m ≤ d.size →
    Asc O (Lib.compactUpTo d m) ∧ (∀ z, z ∈ Lib.compactUpTo d m ↔ ∃ j, j < m ∧ d[j]! = z) := by
  intro m
  induction m with
  | zero => intro _; simp [Lib.compactUpTo, Asc]
  | succ m ih =>
    intro hm
    obtain ⟨h1, h2⟩ := ih (by omega)
    rw [Lib.compactUpTo_succ]
    by_cases hk : Lib.keeps d m = true
    · rw [if_pos hk]
      constructor
      · refine List.pairwise_append.2 ⟨h1, by simp, fun o ho x hx => ?_⟩
        rw [List.mem_singleton.1 hx]
        obtain ⟨j, hj, rfl⟩ := (h2 o).1 ho
        have hne : d[m]! ≠ d[m - 1]! := by
          simp only [Lib.keeps, decide_eq_true_eq] at hk
          rcases hk with hk | hk
          · omega
          · exact hk
        have h3 : O.ls d[m - 1]! d[m]! := O.lt_of_le_ne (hs (m - 1) m (by omega) (by omega)) (Ne.symm hne)
        by_cases e : j = m - 1
        · rw [e]; exact h3
        · exact O.lt_of_le_lt (hs j (m - 1) (by omega) (by omega)) h3
      · intro z
        rw [List.mem_append, h2, List.mem_singleton]
        constructor
        · rintro (⟨j, hj, e⟩ | rfl)
          · exact ⟨j, by omega, e⟩
          · exact ⟨m, by omega, rfl⟩
        · rintro ⟨j, hj, rfl⟩
          by_cases e : j = m
          · exact .inr (by rw [e])
          · exact .inl ⟨j, by omega, rfl⟩
    · rw [if_neg hk, List.append_nil]
      refine ⟨h1, fun z => ?_⟩
      rw [h2]
      have hm0 : m ≠ 0 ∧ d[m]! = d[m - 1]! := by
        simp only [Lib.keeps, decide_eq_true_eq, not_or, ne_eq, Decidable.not_not] at hk
        exact hk
      constructor
      · rintro ⟨j, hj, e⟩; exact ⟨j, by omega, e⟩
      · rintro ⟨j, hj, e⟩
        by_cases e2 : j = m
        · exact ⟨m - 1, by omega, by rw [← e, e2, hm0.2]⟩
        · exact ⟨j, by omega, e⟩
theorem gcompact_srt (l : List α) : Lib.compact (l.mergeSort fun x y => !O.lt y x) = srt O l := by
  have hp : (l.mergeSort fun x y => !O.lt y x).Pairwise (fun a b => (!O.lt b a) = true) :=
    List.pairwise_mergeSort (fun a b c h1 h2 => by simp only [Bool.not_eq_true'] at *; exact O.le_trans h1 h2) (fun a b => by simp only [Bool.or_eq_true, Bool.not_eq_true']; exact O.le_total a b) l
  have hmem : ∀ z, z ∈ (l.mergeSort fun x y => !O.lt y x) ↔ z ∈ l := fun z => List.mem_mergeSort
  generalize (l.mergeSort fun x y => !O.lt y x) = s at hp hmem
  obtain ⟨c1, c2⟩ := gcompact_spec O s.toArray (fun i j hij hj => by
    have hj2 : j < s.length := by simpa using hj
    have hi2 : i < s.length := by omega
    have := List.pairwise_iff_getElem.1 hp i j hi2 hj2 hij
    simp only [Bool.not_eq_true'] at this
    simpa [getElem!_pos, hi2, hj2, SOrd.le] using this) s.length (by simp)
  obtain ⟨s1, s2, _⟩ := srt_spec O l.length l (Nat.le_refl _)
  refine asc_unique O _ _ c1 s1 fun z => ?_
  show z ∈ Lib.compactUpTo s.toArray s.length ↔ _
  rw [c2, s2, ← hmem]
  constructor
  · rintro ⟨j, hj, rfl⟩
    simp [getElem!_pos, hj]
  · intro hz
    obtain ⟨j, hj, e⟩ := List.getElem_of_mem hz
    exact ⟨j, hj, by simp [getElem!_pos, hj, e]⟩
end
end Go.Proofs.Ytlaoioicefohiaa
