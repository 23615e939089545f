/-
  Plain lemmas on sorted lists of strings: a merge that keeps each once, and that it is the sorted list without repetitions; no function of the program is named here.
-/
import Derived.Test.YtanhnicfkghkbaaDoorBase
import Derived.Lib.SlicesCompact
namespace Go.Proofs.YtanhnicfkghkbaaDoor
set_option maxRecDepth 100000

abbrev BL := List UInt8
def psh (out : List BL) (s : BL) : List BL := if out.getLast? = some s then out else out ++ [s]
def mrg (a b out : List BL) : List BL :=
  match a, b with
  | [], [] => out
  | x :: a', [] => mrg a' [] (psh out x)
  | [], y :: b' => mrg [] b' (psh out y)
  | x :: a', y :: b' => if x ≤ y then mrg a' (y :: b') (psh out x) else mrg (x :: a') b' (psh out y)
termination_by a.length + b.length
def srt (l : List BL) : List BL :=
  if h : l.length < 2 then l else mrg (srt (l.take (l.length / 2))) (srt (l.drop (l.length / 2))) []
termination_by l.length
decreasing_by
  · simp; omega
  · simp; omega
theorem srt_small {l : List BL} (h : l.length < 2) : srt l = l := by rw [srt, dif_pos h]
theorem srt_large {l : List BL} (h : ¬ l.length < 2) : srt l = mrg (srt (l.take (l.length / 2))) (srt (l.drop (l.length / 2))) [] := by rw [srt, dif_neg h]

theorem psh_len (out : List BL) (s : BL) : (psh out s).length ≤ out.length + 1 := by
  unfold psh; split <;> simp
theorem mrg_left {a b : List BL} {i k : Nat} (out : List BL) (hi : i < a.length) (h : ∀ hk : k < b.length, a[i] ≤ b[k]) : mrg (a.drop i) (b.drop k) out = mrg (a.drop (i + 1)) (b.drop k) (psh out a[i]) := by
  rw [List.drop_eq_getElem_cons hi]
  by_cases hk : k < b.length
  · rw [List.drop_eq_getElem_cons hk, mrg, if_pos (h hk)]
  · have e : b.drop k = [] := List.drop_eq_nil_of_le (by omega)
    rw [e, mrg]
theorem mrg_right {a b : List BL} {i k : Nat} (out : List BL) (hk : k < b.length) (h : ∀ hi : i < a.length, ¬ a[i] ≤ b[k]) : mrg (a.drop i) (b.drop k) out = mrg (a.drop i) (b.drop (k + 1)) (psh out b[k]) := by
  rw [List.drop_eq_getElem_cons hk]
  by_cases hi : i < a.length
  · rw [List.drop_eq_getElem_cons hi, mrg, if_neg (h hi)]
  · rw [List.drop_eq_nil_of_le (by omega), mrg]
theorem mrg_done {a b : List BL} {i k : Nat} (out : List BL) (hi : ¬ i < a.length) (hk : ¬ k < b.length) : mrg (a.drop i) (b.drop k) out = out := by
  rw [List.drop_eq_nil_of_le (by omega), List.drop_eq_nil_of_le (by omega), mrg]

def Asc (l : List BL) : Prop := l.Pairwise (· < ·)
theorem lt_ne {x y : BL} (h : x < y) : x ≠ y := fun e => List.lt_irrefl x (by rw [← e] at h; exact h)
theorem lt_of_le_ne {x y : BL} (h : x ≤ y) (hne : x ≠ y) : x < y := by
  by_cases h2 : x < y
  · exact h2
  · exact absurd (List.le_antisymm h (List.not_lt.1 h2)) hne
theorem lt_of_le_lt {x y z : BL} (h : x ≤ y) (h2 : y < z) : x < z := by
  by_cases e : x = y
  · rw [e]; exact h2
  · exact List.lt_trans (lt_of_le_ne h e) h2
theorem psh_mem {out : List BL} {s z : BL} : z ∈ psh out s ↔ z ∈ out ∨ z = s := by
  unfold psh
  split
  · rename_i h
    constructor
    · exact .inl
    · rintro (h2 | rfl)
      · exact h2
      · exact List.mem_of_getLast? h
  · simp
theorem asc_le_last {out : List BL} {s : BL} (h : Asc out) (hs : out.getLast? = some s) : ∀ o ∈ out, o ≤ s := by
  intro o ho
  obtain ⟨r, rfl⟩ : ∃ r, out = r ++ [s] := List.getLast?_eq_some_iff.1 hs
  rcases List.mem_append.1 ho with h1 | h1
  · exact List.le_of_lt ((List.pairwise_append.1 h).2.2 o h1 s (by simp))
  · rw [List.mem_singleton.1 h1]; exact List.le_refl _
theorem psh_asc {out : List BL} {s : BL} (h : Asc out) (hle : ∀ o ∈ out, o ≤ s) : Asc (psh out s) := by
  unfold psh
  split
  · exact h
  · rename_i hne
    refine List.pairwise_append.2 ⟨h, by simp, fun o ho x hx => ?_⟩
    rw [List.mem_singleton.1 hx]
    refine lt_of_le_ne (hle o ho) ?_
    rintro rfl
    cases hl : out.getLast? with
    | none => rw [List.getLast?_eq_none_iff.1 hl] at ho; simp at ho
    | some t =>
      have h1 := asc_le_last h hl o ho
      have h2 := hle t (List.mem_of_getLast? hl)
      exact hne (by rw [hl, List.le_antisymm h2 h1])
theorem asc_cons {x : BL} {l : List BL} (h : Asc (x :: l)) : Asc l ∧ ∀ y ∈ l, x < y := ⟨(List.pairwise_cons.1 h).2, (List.pairwise_cons.1 h).1⟩

theorem mrg_spec : ∀ (n : Nat) (a b out : List BL), a.length + b.length ≤ n → Asc a → Asc b → Asc out → (∀ o ∈ out, (∀ x ∈ a, o ≤ x) ∧ ∀ y ∈ b, o ≤ y) →
    Asc (mrg a b out) ∧ ∀ z, z ∈ mrg a b out ↔ z ∈ out ∨ z ∈ a ∨ z ∈ b := by
  intro n
  induction n with
  | zero =>
    intro a b out hn _ _ ho _
    have h1 : a = [] := List.length_eq_zero_iff.1 (by omega)
    have h2 : b = [] := List.length_eq_zero_iff.1 (by omega)
    subst h1 h2
    rw [mrg]
    exact ⟨ho, by simp⟩
  | succ n ih =>
    intro a b out hn ha hb ho hle
    cases a with
    | nil =>
      cases b with
      | nil => rw [mrg]; exact ⟨ho, by simp⟩
      | cons y b =>
        rw [mrg]
        obtain ⟨hb1, hb2⟩ := asc_cons hb
        obtain ⟨h1, h2⟩ := ih [] b (psh out y) (by simp at hn ⊢; omega) ha hb1 (psh_asc ho fun o h => (hle o h).2 y (by simp)) (fun o h => by
          refine ⟨by simp, fun z hz => ?_⟩
          rcases psh_mem.1 h with h | rfl
          · exact (hle o h).2 z (by simp [hz])
          · exact List.le_of_lt (hb2 z hz))
        refine ⟨h1, fun z => ?_⟩
        rw [h2, psh_mem]
        simp [or_assoc]
    | cons x a =>
      obtain ⟨ha1, ha2⟩ := asc_cons ha
      cases b with
      | nil =>
        rw [mrg]
        obtain ⟨h1, h2⟩ := ih a [] (psh out x) (by simp at hn ⊢; omega) ha1 hb (psh_asc ho fun o h => (hle o h).1 x (by simp)) (fun o h => by
          refine ⟨fun z hz => ?_, by simp⟩
          rcases psh_mem.1 h with h | rfl
          · exact (hle o h).1 z (by simp [hz])
          · exact List.le_of_lt (ha2 z hz))
        refine ⟨h1, fun z => ?_⟩
        rw [h2, psh_mem]
        simp [or_assoc]
      | cons y b =>
        obtain ⟨hb1, hb2⟩ := asc_cons hb
        rw [mrg]
        split
        · rename_i hxy
          obtain ⟨h1, h2⟩ := ih a (y :: b) (psh out x) (by simp at hn ⊢; omega) ha1 hb (psh_asc ho fun o h => (hle o h).1 x (by simp)) (fun o h => by
            rcases psh_mem.1 h with h | rfl
            · exact ⟨fun z hz => (hle o h).1 z (by simp [hz]), (hle o h).2⟩
            · refine ⟨fun z hz => List.le_of_lt (ha2 z hz), fun z hz => ?_⟩
              rcases List.mem_cons.1 hz with rfl | hz
              · exact hxy
              · exact List.le_trans hxy (List.le_of_lt (hb2 z hz)))
          refine ⟨h1, fun z => ?_⟩
          rw [h2, psh_mem]
          simp [or_assoc]
        · rename_i hxy
          have hyx : y ≤ x := (List.le_total x y).resolve_left hxy
          obtain ⟨h1, h2⟩ := ih (x :: a) b (psh out y) (by simp at hn ⊢; omega) ha hb1 (psh_asc ho fun o h => (hle o h).2 y (by simp)) (fun o h => by
            rcases psh_mem.1 h with h | rfl
            · exact ⟨(hle o h).1, fun z hz => (hle o h).2 z (by simp [hz])⟩
            · refine ⟨fun z hz => ?_, fun z hz => List.le_of_lt (hb2 z hz)⟩
              rcases List.mem_cons.1 hz with rfl | hz
              · exact hyx
              · exact List.le_trans hyx (List.le_of_lt (ha2 z hz)))
          refine ⟨h1, fun z => ?_⟩
          rw [h2, psh_mem]
          simp only [List.mem_cons]
          constructor
          · rintro ((h | h) | h | h)
            · exact .inl h
            · exact .inr (.inr (.inl h))
            · exact .inr (.inl h)
            · exact .inr (.inr (.inr h))
          · rintro (h | h | h | h)
            · exact .inl (.inl h)
            · exact .inr (.inl h)
            · exact .inl (.inr h)
            · exact .inr (.inr h)
theorem mrg_len : ∀ (n : Nat) (a b out : List BL), a.length + b.length ≤ n → (mrg a b out).length ≤ out.length + a.length + b.length := by
  intro n
  induction n with
  | zero =>
    intro a b out hn
    have h1 : a = [] := List.length_eq_zero_iff.1 (by omega)
    have h2 : b = [] := List.length_eq_zero_iff.1 (by omega)
    subst h1 h2
    rw [mrg]; simp
  | succ n ih =>
    intro a b out hn
    cases a with
    | nil =>
      cases b with
      | nil => rw [mrg]; simp
      | cons y b =>
        rw [mrg]
        have := ih [] b (psh out y) (by simp at hn ⊢; omega)
        have := psh_len out y
        simp at *; omega
    | cons x a =>
      cases b with
      | nil =>
        rw [mrg]
        have := ih a [] (psh out x) (by simp at hn ⊢; omega)
        have := psh_len out x
        simp at *; omega
      | cons y b =>
        rw [mrg]
        split
        · have := ih a (y :: b) (psh out x) (by simp at hn ⊢; omega)
          have := psh_len out x
          simp at *; omega
        · have := ih (x :: a) b (psh out y) (by simp at hn ⊢; omega)
          have := psh_len out y
          simp at *; omega
theorem srt_spec : ∀ (n : Nat) (l : List BL), l.length ≤ n → Asc (srt l) ∧ (∀ z, z ∈ srt l ↔ z ∈ l) ∧ (srt l).length ≤ l.length := by
  intro n
  induction n using Nat.strongRecOn with
  | ind n ih =>
    intro l hl
    by_cases h : l.length < 2
    · rw [srt_small h]
      refine ⟨?_, fun z => Iff.rfl, Nat.le_refl _⟩
      match l, h with
      | [], _ => exact List.Pairwise.nil
      | [x], _ => exact List.pairwise_singleton _ _
    · have e1 : (l.take (l.length / 2)).length = l.length / 2 := by simp; omega
      have e2 : (l.drop (l.length / 2)).length = l.length - l.length / 2 := by simp
      obtain ⟨a1, a2, a3⟩ := ih (l.length / 2) (by omega) (l.take (l.length / 2)) (by omega)
      obtain ⟨b1, b2, b3⟩ := ih (l.length - l.length / 2) (by omega) (l.drop (l.length / 2)) (by omega)
      rw [srt_large h]
      obtain ⟨m1, m2⟩ := mrg_spec _ _ _ [] (Nat.le_refl _) a1 b1 List.Pairwise.nil (by simp)
      refine ⟨m1, fun z => ?_, ?_⟩
      · rw [m2, a2, b2]
        simp only [List.not_mem_nil, false_or]
        rw [← List.mem_append, List.take_append_drop]
      · have := mrg_len _ (srt (l.take (l.length / 2))) (srt (l.drop (l.length / 2))) [] (Nat.le_refl _)
        simp only [List.length_nil] at this
        omega
theorem asc_unique : ∀ (a b : List BL), Asc a → Asc b → (∀ z, z ∈ a ↔ z ∈ b) → a = b := by
  intro a
  induction a with
  | nil =>
    intro b _ _ h
    cases b with
    | nil => rfl
    | cons y b => have := (h y).2 (by simp); simp at this
  | cons x a ih =>
    intro b ha hb h
    cases b with
    | nil => have := (h x).1 (by simp); simp at this
    | cons y b =>
      obtain ⟨ha1, ha2⟩ := asc_cons ha
      obtain ⟨hb1, hb2⟩ := asc_cons hb
      have hxy : x = y := by
        rcases List.mem_cons.1 ((h x).1 (by simp)) with e | hx
        · exact e
        · rcases List.mem_cons.1 ((h y).2 (by simp)) with e | hy
          · exact e.symm
          · exact absurd (List.lt_trans (ha2 y hy) (hb2 x hx)) (List.lt_irrefl x)
      subst hxy
      rw [ih b ha1 hb1 fun z => ?_]
      constructor
      · intro hz
        rcases List.mem_cons.1 ((h z).1 (by simp [hz])) with rfl | hz2
        · exact absurd (ha2 z hz) (List.lt_irrefl z)
        · exact hz2
      · intro hz
        rcases List.mem_cons.1 ((h z).2 (by simp [hz])) with rfl | hz2
        · exact absurd (hb2 z hz) (List.lt_irrefl z)
        · exact hz2

theorem compact_spec (d : Array BL) (hs : ∀ i j, i < j → j < d.size → d[i]! ≤ d[j]!) : ∀ m, m ≤ d.size →
    Asc (Lib.compactUpTo d m) ∧ (∀ z, z ∈ Lib.compactUpTo d m ↔ ∃ j, j < m ∧ d[j]! = z) := by
  intro m
  induction m with
  | zero => intro _; simp [Lib.compactUpTo, Asc]
  | succ m ih =>
    intro hm
    obtain ⟨h1, h2⟩ := ih (by omega)
    rw [Lib.compactUpTo_succ]
    by_cases hk : Lib.keeps d m = true
    · rw [if_pos hk]
      constructor
      · refine List.pairwise_append.2 ⟨h1, by simp, fun o ho x hx => ?_⟩
        rw [List.mem_singleton.1 hx]
        obtain ⟨j, hj, rfl⟩ := (h2 o).1 ho
        have hne : d[m]! ≠ d[m - 1]! := by
          simp only [Lib.keeps, decide_eq_true_eq] at hk
          rcases hk with hk | hk
          · omega
          · exact hk
        have h3 : d[m - 1]! < d[m]! := lt_of_le_ne (hs (m - 1) m (by omega) (by omega)) (Ne.symm hne)
        by_cases e : j = m - 1
        · rw [e]; exact h3
        · exact lt_of_le_lt (hs j (m - 1) (by omega) (by omega)) h3
      · intro z
        rw [List.mem_append, h2, List.mem_singleton]
        constructor
        · rintro (⟨j, hj, e⟩ | rfl)
          · exact ⟨j, by omega, e⟩
          · exact ⟨m, by omega, rfl⟩
        · rintro ⟨j, hj, rfl⟩
          by_cases e : j = m
          · exact .inr (by rw [e])
          · exact .inl ⟨j, by omega, rfl⟩
    · rw [if_neg hk, List.append_nil]
      refine ⟨h1, fun z => ?_⟩
      rw [h2]
      have hm0 : m ≠ 0 ∧ d[m]! = d[m - 1]! := by
        simp only [Lib.keeps, decide_eq_true_eq, not_or, ne_eq, Decidable.not_not] at hk
        exact hk
      constructor
      · rintro ⟨j, hj, e⟩; exact ⟨j, by omega, e⟩
      · rintro ⟨j, hj, e⟩
        by_cases e2 : j = m
        · exact ⟨m - 1, by omega, by rw [← e, e2, hm0.2]⟩
        · exact ⟨j, by omega, e⟩
theorem compact_srt (l : List BL) : Lib.compact (l.mergeSort fun x y => decide (x ≤ y)) = srt l := by
  have hp : (l.mergeSort fun x y => decide (x ≤ y)).Pairwise (fun a b => decide (a ≤ b) = true) :=
    List.pairwise_mergeSort (fun a b c h1 h2 => by simp only [decide_eq_true_eq] at *; exact List.le_trans h1 h2) (fun a b => by simp only [Bool.or_eq_true, decide_eq_true_eq]; exact List.le_total a b) l
  have hmem : ∀ z, z ∈ (l.mergeSort fun x y => decide (x ≤ y)) ↔ z ∈ l := fun z => List.mem_mergeSort
  generalize (l.mergeSort fun x y => decide (x ≤ y)) = s at hp hmem
  obtain ⟨c1, c2⟩ := compact_spec s.toArray (fun i j hij hj => by
    have hj2 : j < s.length := by simpa using hj
    have hi2 : i < s.length := by omega
    have := List.pairwise_iff_getElem.1 hp i j hi2 hj2 hij
    simpa [getElem!_pos, hi2, hj2] using this) s.length (by simp)
  obtain ⟨s1, s2, _⟩ := srt_spec l.length l (Nat.le_refl _)
  refine asc_unique _ _ c1 s1 fun z => ?_
  show z ∈ Lib.compactUpTo s.toArray s.length ↔ _
  rw [c2, s2, ← hmem]
  constructor
  · rintro ⟨j, hj, rfl⟩
    simp [getElem!_pos, hj]
  · intro hz
    obtain ⟨j, hj, e⟩ := List.getElem_of_mem hz
    exact ⟨j, hj, by simp [getElem!_pos, hj, e]⟩
end Go.Proofs.YtanhnicfkghkbaaDoor
