/-
  Plain lemmas on lists that are sorted by a strict total order given as a test: a merge that keeps each once; no function of the program is named here.
-/
import Derived.Test.YtlaoioicefohiaaBase
namespace Go.Proofs.Ytlaoioicefohiaa
set_option maxRecDepth 100000

/-- A strict total order, as a test. -/
structure SOrd (α : Type) where
  lt : α → α → Bool
  irr : ∀ x, lt x x = false
  tr : ∀ x y z, lt x y = true → lt y z = true → lt x z = true
  tot : ∀ x y, lt x y = false → lt y x = false → x = y

section
variable {α : Type} (O : SOrd α)
def SOrd.ls (x y : α) : Prop := O.lt x y = true
def SOrd.le (x y : α) : Prop := O.lt y x = false
theorem SOrd.le_refl (x : α) : O.le x x := O.irr x
theorem SOrd.lt_irrefl (x : α) : ¬ O.ls x x := by intro h; have := O.irr x; unfold SOrd.ls at h; rw [this] at h; cases h
theorem SOrd.lt_trans {x y z : α} (h1 : O.ls x y) (h2 : O.ls y z) : O.ls x z := O.tr x y z h1 h2
theorem SOrd.le_of_lt {x y : α} (h : O.ls x y) : O.le x y := by
  cases e : O.lt y x with
  | false => exact e
  | true => exact absurd (O.tr x y x h e) (O.lt_irrefl x)
theorem SOrd.le_antisymm {x y : α} (h1 : O.le x y) (h2 : O.le y x) : x = y := O.tot x y h2 h1
theorem SOrd.le_total (x y : α) : O.le x y ∨ O.le y x := by
  cases e : O.lt y x with
  | false => exact .inl e
  | true => exact .inr (O.le_of_lt e)
theorem SOrd.lt_of_le_ne {x y : α} (h : O.le x y) (hne : x ≠ y) : O.ls x y := by
  cases e : O.lt x y with
  | true => exact e
  | false => exact absurd (O.tot x y e h) hne
theorem SOrd.le_trans {x y z : α} (h1 : O.le x y) (h2 : O.le y z) : O.le x z := by
  cases e : O.lt z x with
  | false => exact e
  | true =>
    cases e2 : O.lt y z with
    | true => have := O.tr y z x e2 e; unfold SOrd.le at h1; rw [this] at h1; cases h1
    | false =>
      have := O.tot y z e2 h2
      subst this
      unfold SOrd.le at h1
      rw [e] at h1
      cases h1
theorem SOrd.lt_of_le_lt {x y z : α} (h : O.le x y) (h2 : O.ls y z) : O.ls x z := by
  cases e : O.lt x y with
  | true => exact O.lt_trans e h2
  | false => rw [O.tot x y e h]; exact h2
def Asc (l : List α) : Prop := l.Pairwise O.ls
theorem asc_le_last {out : List α} {s : α} (h : Asc O out) (hs : out.getLast? = some s) : ∀ o ∈ out, O.le o s := by
  intro o ho
  obtain ⟨r, rfl⟩ : ∃ r, out = r ++ [s] := List.getLast?_eq_some_iff.1 hs
  rcases List.mem_append.1 ho with h1 | h1
  · exact O.le_of_lt ((List.pairwise_append.1 h).2.2 o h1 s (by simp))
  · rw [List.mem_singleton.1 h1]; exact O.le_refl _
theorem asc_cons {x : α} {l : List α} (h : Asc O (x :: l)) : Asc O l ∧ ∀ y ∈ l, O.ls x y := ⟨(List.pairwise_cons.1 h).2, (List.pairwise_cons.1 h).1⟩

theorem asc_unique : ∀ (a b : List α), Asc O a → Asc O b → (∀ z, z ∈ a ↔ z ∈ b) → a = b := by
  intro a
  induction a with
  | nil =>
    intro b _ _ h
    cases b with
    | nil => rfl
    | cons y b => have := (h y).2 (by simp); simp at this
  | cons x a ih =>
    intro b ha hb h
    cases b with
    | nil => have := (h x).1 (by simp); simp at this
    | cons y b =>
      obtain ⟨ha1, ha2⟩ := asc_cons O ha
      obtain ⟨hb1, hb2⟩ := asc_cons O hb
      have hxy : x = y := by
        rcases List.mem_cons.1 ((h x).1 (by simp)) with e | hx
        · exact e
        · rcases List.mem_cons.1 ((h y).2 (by simp)) with e | hy
          · exact e.symm
          · exact absurd (O.lt_trans (ha2 y hy) (hb2 x hx)) (O.lt_irrefl x)
      subst hxy
      rw [ih b ha1 hb1 fun z => ?_]
      constructor
      · intro hz
        rcases List.mem_cons.1 ((h z).1 (by simp [hz])) with rfl | hz2
        · exact absurd (ha2 z hz) (O.lt_irrefl z)
        · exact hz2
      · intro hz
        rcases List.mem_cons.1 ((h z).2 (by simp [hz])) with rfl | hz2
        · exact absurd (hb2 z hz) (O.lt_irrefl z)
        · exact hz2

end
section
variable {α : Type} [DecidableEq α] (O : SOrd α)
def psh (out : List α) (s : α) : List α := if out.getLast? = some s then out else out ++ [s]
def mrg (a b out : List α) : List α :=
  match a, b with
  | [], [] => out
  | x :: a', [] => mrg a' [] (psh out x)
  | [], y :: b' => mrg [] b' (psh out y)
  | x :: a', y :: b' => if O.lt y x = false then mrg a' (y :: b') (psh out x) else mrg (x :: a') b' (psh out y)
termination_by a.length + b.length
def srt (l : List α) : List α :=
  if h : l.length < 2 then l else mrg O (srt (l.take (l.length / 2))) (srt (l.drop (l.length / 2))) []
termination_by l.length
decreasing_by
  · simp; omega
  · simp; omega
theorem srt_small {l : List α} (h : l.length < 2) : srt O l = l := by rw [srt, dif_pos h]
theorem srt_large {l : List α} (h : ¬ l.length < 2) : srt O l = mrg O (srt O (l.take (l.length / 2))) (srt O (l.drop (l.length / 2))) [] := by rw [srt, dif_neg h]

theorem psh_len (out : List α) (s : α) : (psh out s).length ≤ out.length + 1 := by
  unfold psh; split <;> simp
theorem mrg_left {a b : List α} {i k : Nat} (out : List α) (hi : i < a.length) (h : ∀ hk : k < b.length, O.lt b[k] a[i] = false) : mrg O (a.drop i) (b.drop k) out = mrg O (a.drop (i + 1)) (b.drop k) (psh out a[i]) := by
  rw [List.drop_eq_getElem_cons hi]
  by_cases hk : k < b.length
  · rw [List.drop_eq_getElem_cons hk, mrg, if_pos (h hk)]
  · have e : b.drop k = [] := List.drop_eq_nil_of_le (by omega)
    rw [e, mrg]
theorem mrg_right {a b : List α} {i k : Nat} (out : List α) (hk : k < b.length) (h : ∀ hi : i < a.length, ¬ O.lt b[k] a[i] = false) : mrg O (a.drop i) (b.drop k) out = mrg O (a.drop i) (b.drop (k + 1)) (psh out b[k]) := by
  rw [List.drop_eq_getElem_cons hk]
  by_cases hi : i < a.length
  · rw [List.drop_eq_getElem_cons hi, mrg, if_neg (h hi)]
  · rw [List.drop_eq_nil_of_le (by omega), mrg]
theorem mrg_done {a b : List α} {i k : Nat} (out : List α) (hi : ¬ i < a.length) (hk : ¬ k < b.length) : mrg O (a.drop i) (b.drop k) out = out := by
  rw [List.drop_eq_nil_of_le (by omega), List.drop_eq_nil_of_le (by omega), mrg]

theorem psh_mem {out : List α} {s z : α} : z ∈ psh out s ↔ z ∈ out ∨ z = s := by
  unfold psh
  split
  · rename_i h
    constructor
    · exact .inl
    · rintro (h2 | rfl)
      · exact h2
      · exact List.mem_of_getLast? h
  · simp
theorem psh_asc {out : List α} {s : α} (h : Asc O out) (hle : ∀ o ∈ out, O.le o s) : Asc O (psh out s) := by
  unfold psh
  split
  · exact h
  · rename_i hne
    refine List.pairwise_append.2 ⟨h, by simp, fun o ho x hx => ?_⟩
    rw [List.mem_singleton.1 hx]
    refine O.lt_of_le_ne (hle o ho) ?_
    rintro rfl
    cases hl : out.getLast? with
    | none => rw [List.getLast?_eq_none_iff.1 hl] at ho; simp at ho
    | some t =>
      have h1 := asc_le_last O h hl o ho
      have h2 := hle t (List.mem_of_getLast? hl)
      exact hne (by rw [hl, O.le_antisymm h2 h1])
theorem mrg_spec : ∀ (n : Nat) (a b out : List α), a.length + b.length ≤ n → Asc O a → Asc O b → Asc O out → (∀ o ∈ out, (∀ x ∈ a, O.le o x) ∧ ∀ y ∈ b, O.le o y) →
    Asc O (mrg O a b out) ∧ ∀ z, z ∈ mrg O a b out ↔ z ∈ out ∨ z ∈ a ∨ z ∈ b := by
  intro n
  induction n with
  | zero =>
    intro a b out hn _ _ ho _
    have h1 : a = [] := List.length_eq_zero_iff.1 (by omega)
    have h2 : b = [] := List.length_eq_zero_iff.1 (by omega)
    subst h1 h2
    rw [mrg]
    exact ⟨ho, by simp⟩
  | succ n ih =>
    intro a b out hn ha hb ho hle
    cases a with
    | nil =>
      cases b with
      | nil => rw [mrg]; exact ⟨ho, by simp⟩
      | cons y b =>
        rw [mrg]
        obtain ⟨hb1, hb2⟩ := asc_cons O hb
        obtain ⟨h1, h2⟩ := ih [] b (psh out y) (by simp at hn ⊢; omega) ha hb1 (psh_asc O ho fun o h => (hle o h).2 y (by simp)) (fun o h => by
          refine ⟨by simp, fun z hz => ?_⟩
          rcases psh_mem.1 h with h | rfl
          · exact (hle o h).2 z (by simp [hz])
          · exact O.le_of_lt (hb2 z hz))
        refine ⟨h1, fun z => ?_⟩
        rw [h2, psh_mem]
        simp [or_assoc]
    | cons x a =>
      obtain ⟨ha1, ha2⟩ := asc_cons O ha
      cases b with
      | nil =>
        rw [mrg]
        obtain ⟨h1, h2⟩ := ih a [] (psh out x) (by simp at hn ⊢; omega) ha1 hb (psh_asc O ho fun o h => (hle o h).1 x (by simp)) (fun o h => by
          refine ⟨fun z hz => ?_, by simp⟩
          rcases psh_mem.1 h with h | rfl
          · exact (hle o h).1 z (by simp [hz])
          · exact O.le_of_lt (ha2 z hz))
        refine ⟨h1, fun z => ?_⟩
        rw [h2, psh_mem]
        simp [or_assoc]
      | cons y b =>
        obtain ⟨hb1, hb2⟩ := asc_cons O hb
        rw [mrg]
        split
        · rename_i hxy
          obtain ⟨h1, h2⟩ := ih a (y :: b) (psh out x) (by simp at hn ⊢; omega) ha1 hb (psh_asc O ho fun o h => (hle o h).1 x (by simp)) (fun o h => by
            rcases psh_mem.1 h with h | rfl
            · exact ⟨fun z hz => (hle o h).1 z (by simp [hz]), (hle o h).2⟩
            · refine ⟨fun z hz => O.le_of_lt (ha2 z hz), fun z hz => ?_⟩
              rcases List.mem_cons.1 hz with rfl | hz
              · exact hxy
              · exact O.le_trans hxy (O.le_of_lt (hb2 z hz)))
          refine ⟨h1, fun z => ?_⟩
          rw [h2, psh_mem]
          simp [or_assoc]
        · rename_i hxy
          have hyx : O.le y x := (O.le_total x y).resolve_left hxy
          obtain ⟨h1, h2⟩ := ih (x :: a) b (psh out y) (by simp at hn ⊢; omega) ha hb1 (psh_asc O ho fun o h => (hle o h).2 y (by simp)) (fun o h => by
            rcases psh_mem.1 h with h | rfl
            · exact ⟨(hle o h).1, fun z hz => (hle o h).2 z (by simp [hz])⟩
            · refine ⟨fun z hz => ?_, fun z hz => O.le_of_lt (hb2 z hz)⟩
              rcases List.mem_cons.1 hz with rfl | hz
              · exact hyx
              · exact O.le_trans hyx (O.le_of_lt (ha2 z hz)))
          refine ⟨h1, fun z => ?_⟩
          rw [h2, psh_mem]
          simp only [List.mem_cons]
          constructor
          · rintro ((h | h) | h | h)
            · exact .inl h
            · exact .inr (.inr (.inl h))
            · exact .inr (.inl h)
            · exact .inr (.inr (.inr h))
          · rintro (h | h | h | h)
            · exact .inl (.inl h)
            · exact .inr (.inl h)
            · exact .inl (.inr h)
            · exact .inr (.inr h)
theorem mrg_len : ∀ (n : Nat) (a b out : List α), a.length + b.length ≤ n → (mrg O a b out).length ≤ out.length + a.length + b.length := by
  intro n
  induction n with
  | zero =>
    intro a b out hn
    have h1 : a = [] := List.length_eq_zero_iff.1 (by omega)
    have h2 : b = [] := List.length_eq_zero_iff.1 (by omega)
    subst h1 h2
    rw [mrg]; simp
  | succ n ih =>
    intro a b out hn
    cases a with
    | nil =>
      cases b with
      | nil => rw [mrg]; simp
      | cons y b =>
        rw [mrg]
        have := ih [] b (psh out y) (by simp at hn ⊢; omega)
        have := psh_len out y
        simp at *; omega
    | cons x a =>
      cases b with
      | nil =>
        rw [mrg]
        have := ih a [] (psh out x) (by simp at hn ⊢; omega)
        have := psh_len out x
        simp at *; omega
      | cons y b =>
        rw [mrg]
        split
        · have := ih a (y :: b) (psh out x) (by simp at hn ⊢; omega)
          have := psh_len out x
          simp at *; omega
        · have := ih (x :: a) b (psh out y) (by simp at hn ⊢; omega)
          have := psh_len out y
          simp at *; omega
theorem srt_spec : ∀ (n : Nat) (l : List α), l.length ≤ n → Asc O (srt O l) ∧ (∀ z, z ∈ srt O l ↔ z ∈ l) ∧ (srt O l).length ≤ l.length := by
  intro n
  induction n using Nat.strongRecOn with
  | ind n ih =>
    intro l hl
    by_cases h : l.length < 2
    · rw [srt_small O h]
      refine ⟨?_, fun z => Iff.rfl, Nat.le_refl _⟩
      match l, h with
      | [], _ => exact List.Pairwise.nil
      | [x], _ => exact List.pairwise_singleton _ _
    · have e1 : (l.take (l.length / 2)).length = l.length / 2 := by simp; omega
      have e2 : (l.drop (l.length / 2)).length = l.length - l.length / 2 := by simp
      obtain ⟨a1, a2, a3⟩ := ih (l.length / 2) (by omega) (l.take (l.length / 2)) (by omega)
      obtain ⟨b1, b2, b3⟩ := ih (l.length - l.length / 2) (by omega) (l.drop (l.length / 2)) (by omega)
      rw [srt_large O h]
      obtain ⟨m1, m2⟩ := mrg_spec O _ _ _ [] (Nat.le_refl _) a1 b1 List.Pairwise.nil (by simp)
      refine ⟨m1, fun z => ?_, ?_⟩
      · rw [m2, a2, b2]
        simp only [List.not_mem_nil, false_or]
        rw [← List.mem_append, List.take_append_drop]
      · have := mrg_len O _ (srt O (l.take (l.length / 2))) (srt O (l.drop (l.length / 2))) [] (Nat.le_refl _)
        simp only [List.length_nil] at this
        omega
end
end Go.Proofs.Ytlaoioicefohiaa
