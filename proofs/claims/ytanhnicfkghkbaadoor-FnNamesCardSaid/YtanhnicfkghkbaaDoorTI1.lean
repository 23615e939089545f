/-
  A text cut at one byte: contracts of strings.Cut, strings.Clone and (*impl.termReader).before.
-/
import Derived.Test.YtanhnicfkghkbaaDoorTMath
import Derived.Test.YtanhnicfkghkbaaDoorShelfC
import Derived.Test.YtanhnicfkghkbaaDoorShelfI
namespace Go.Proofs.YtanhnicfkghkbaaDoor
set_option maxRecDepth 100000
open Go.ChangeShapes Go.WideShapes Go.ChangeAt Go.RowKit
set_option linter.unusedSimpArgs false

/-- A text cut at the first c; without one the second part is empty. -/
def cutC (c : UInt8) : List UInt8 → List UInt8 × List UInt8 × Bool
  | [] => ([], [], false)
  | x :: r => if x = c then ([], r, true) else (x :: (cutC c r).1, (cutC c r).2.1, (cutC c r).2.2)
theorem cutC_no {c : UInt8} {t : List UInt8} (h : Lib.indexByte t c = -1) : cutC c t = (t, [], false) := by
  induction t with
  | nil => rfl
  | cons x r ih =>
    unfold Lib.indexByte at h
    by_cases hc : x = c
    · simp [hc] at h
    · have hc' : (x == c) = false := beq_eq_false_iff_ne.2 hc
      rw [hc'] at h
      by_cases h2 : Lib.indexByte r c = -1
      · simp [cutC, hc, ih h2]
      · have := Lib.indexByte_ge r c
        simp [h2] at h
        omega
theorem cutC_yes {c : UInt8} {t : List UInt8} : ∀ {i : Nat}, Lib.indexByte t c = (i : Int) → i < t.length ∧ cutC c t = (t.take i, t.drop (i + 1), true) := by
  induction t with
  | nil => intro i h; unfold Lib.indexByte at h; omega
  | cons x r ih =>
    intro i h
    unfold Lib.indexByte at h
    by_cases hc : x = c
    · subst hc
      have hi : i = 0 := by simp at h; omega
      subst hi
      exact ⟨by simp, by simp [cutC]⟩
    · have hc' : (x == c) = false := beq_eq_false_iff_ne.2 hc
      rw [hc'] at h
      by_cases h2 : Lib.indexByte r c = -1
      · simp [h2] at h
      · have hge := Lib.indexByte_ge r c
        have hb : (Lib.indexByte r c == -1) = false := beq_eq_false_iff_ne.2 h2
        rw [hb] at h
        simp only [Bool.false_eq_true, if_false] at h
        obtain ⟨j, rfl⟩ : ∃ j, i = j + 1 := ⟨i - 1, by omega⟩
        obtain ⟨e1, e2⟩ := ih (i := j) (by omega)
        exact ⟨by simp; omega, by simp [cutC, hc, e2]⟩
theorem cutC_split {c : UInt8} : ∀ {p : List UInt8} (r : List UInt8), c ∉ p → cutC c (p ++ c :: r) = (p, r, true)
  | [], r, _ => by simp [cutC]
  | x :: p, r, h => by
    have h1 : x ≠ c := fun e => h (by simp [e])
    have h2 := cutC_split (p := p) r (fun hm => h (List.mem_cons_of_mem _ hm))
    simp [cutC, h1, h2]
theorem cutC_true {c : UInt8} : ∀ {t p r : List UInt8}, cutC c t = (p, r, true) → c ∉ p ∧ t = p ++ c :: r
  | [], p, r, h => by simp [cutC] at h
  | x :: t, p, r, h => by
    rw [cutC] at h
    by_cases hx : x = c
    · rw [if_pos hx] at h
      simp only [Prod.mk.injEq, and_true] at h
      obtain ⟨rfl, rfl⟩ := h
      exact ⟨by simp, by simp [hx]⟩
    · rw [if_neg hx] at h
      rcases hh : cutC c t with ⟨p', r', b⟩
      rw [hh] at h
      simp only [Prod.mk.injEq] at h
      obtain ⟨rfl, rfl, rfl⟩ := h
      obtain ⟨h1, h2⟩ := cutC_true hh
      exact ⟨fun hm => (List.mem_cons.1 hm).elim (fun e => hx e.symm) h1, by rw [h2]; rfl⟩
theorem cutC_false {c : UInt8} : ∀ {t p r : List UInt8}, cutC c t = (p, r, false) → c ∉ t ∧ p = t ∧ r = []
  | [], p, r, h => by simp [cutC] at h; simp [h]
  | x :: t, p, r, h => by
    rw [cutC] at h
    by_cases hx : x = c
    · rw [if_pos hx] at h; simp at h
    · rw [if_neg hx] at h
      rcases hh : cutC c t with ⟨p', r', b⟩
      rw [hh] at h
      simp only [Prod.mk.injEq] at h
      obtain ⟨rfl, rfl, rfl⟩ := h
      obtain ⟨h1, h2, h3⟩ := cutC_false hh
      exact ⟨fun hm => (List.mem_cons.1 hm).elim (fun e => hx e.symm) h1, by rw [h2], h3⟩
theorem cutC_len {c : UInt8} {t p r : List UInt8} {b : Bool} (h : cutC c t = (p, r, b)) : p.length ≤ t.length ∧ r.length ≤ t.length := by
  cases b
  · obtain ⟨_, rfl, rfl⟩ := cutC_false h
    simp
  · obtain ⟨_, rfl⟩ := cutC_true h
    simp; omega

theorem ext_takeC (s : ByteArray) (i : Nat) : s.extract 0 i = ⟨(s.data.toList.take i).toArray⟩ := by
  apply ByteArray.ext
  rw [ByteArray.data_extract]
  apply Array.ext'
  rw [Array.toList_extract]
  simp [List.extract]
theorem ext_dropC (s : ByteArray) (i : Nat) : s.extract i s.size = ⟨(s.data.toList.drop i).toArray⟩ := by
  apply ByteArray.ext
  rw [ByteArray.data_extract]
  apply Array.ext'
  rw [Array.toList_extract, List.extract, List.take_of_length_le]
  rw [List.length_drop]
  exact Nat.le_refl _

def CutRes (x : List UInt8 × List UInt8 × Bool) : Value := .tuple #[.string ⟨x.1.toArray⟩, .string ⟨x.2.1.toArray⟩, .bool x.2.2]
end Go.Proofs.YtanhnicfkghkbaaDoor
