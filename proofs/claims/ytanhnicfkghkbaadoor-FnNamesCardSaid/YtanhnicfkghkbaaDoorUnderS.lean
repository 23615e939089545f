/-
  The contract of spec.Under.
-/
import Derived.Test.YtanhnicfkghkbaaDoorNLe
import Derived.Test.YtanhnicfkghkbaaDoorNPartsS
namespace Go.Proofs.YtanhnicfkghkbaaDoor
set_option maxRecDepth 100000
open Go.ChangeShapes Go.WideShapes Go.ChangeAt Go.RowKit

theorem cutF_append (y : UInt8) (p t : List UInt8) : ∀ q, cutF y q (p ++ y :: t) = cutF y q p ++ cutF y [] t := by
  induction p with
  | nil => intro q; simp [cutF]
  | cons c p ih =>
    intro q
    rw [List.cons_append, cutF, cutF]
    split
    · rw [ih]; simp
    · rw [ih]
def jn (ps : List (List UInt8)) : List UInt8 := (ps.map (· ++ [46])).flatten
theorem jn_cut (l : List UInt8) : ∀ q, jn (cutF 46 q l) = q ++ l ++ [46] := by
  induction l with
  | nil => intro q; simp [cutF, jn]
  | cons c l ih =>
    intro q
    rw [cutF]
    split
    · rename_i h
      have := ih []
      simp only [jn] at this
      simp [jn, this, h]
    · rw [ih]; simp
theorem prefix_cut (p n : List UInt8) : (p ++ [46]).isPrefixOf (n ++ [46]) = (cutL p).isPrefixOf (cutL n) := by
  rw [Bool.eq_iff_iff, List.isPrefixOf_iff_prefix, List.isPrefixOf_iff_prefix]
  constructor
  · rintro ⟨t, e⟩
    rcases List.eq_nil_or_concat t with rfl | ⟨t', c, rfl⟩
    · rw [List.append_nil] at e
      have : p = n := by simpa using e
      subst this
      exact List.prefix_refl _
    · rw [List.concat_eq_append] at e
      have e2 : (p ++ [46] ++ t') ++ [c] = n ++ [46] := by rw [← e]; simp
      obtain ⟨e3, _⟩ := List.append_inj' e2 rfl
      subst e3
      refine ⟨cutF 46 [] t', ?_⟩
      simp only [cutL, List.append_assoc, List.cons_append, List.nil_append]
      rw [cutF_append]
  · rintro ⟨t, e⟩
    have h1 := jn_cut p []
    have h2 := jn_cut n []
    simp only [cutL] at e
    rw [← e] at h2
    refine ⟨jn t, ?_⟩
    simp only [List.nil_append] at h1 h2
    rw [← h1, ← h2]
    simp [jn]
def under (p n : List UInt8) : Bool := nameOk p && nameOk n && (cutL p).isPrefixOf (cutL n)
theorem under_long {p n : List UInt8} (h : (cutL n).length < (cutL p).length) : under p n = false := by
  rw [Bool.eq_false_iff]
  intro h2
  simp only [under, Bool.and_eq_true, List.isPrefixOf_iff_prefix] at h2
  have := h2.2.length_le
  omega
theorem under_part {p n : List UInt8} {k : Nat} (h1 : k < (cutL p).length) (h2 : k < (cutL n).length) (hne : (cutL p)[k] ≠ (cutL n)[k]) : under p n = false := by
  rw [Bool.eq_false_iff]
  intro h
  simp only [under, Bool.and_eq_true, List.isPrefixOf_iff_prefix] at h
  obtain ⟨t, e⟩ := h.2
  apply hne
  have e' := e.symm
  simp only [e']
  rw [List.getElem_append_left h1]
theorem under_done {p n : List UInt8} (hp : nameOk p = true) (hn : nameOk n = true) (h : (cutL p).take (cutL p).length = (cutL n).take (cutL p).length) : under p n = true := by
  simp only [under, hp, hn, Bool.true_and, List.isPrefixOf_iff_prefix]
  rw [List.take_length] at h
  rw [h]
  exact List.take_prefix _ _
theorem take_succ_eq {a b : List (List UInt8)} {k : Nat} (h1 : k < a.length) (h2 : k < b.length) (h : a.take k = b.take k) (he : a[k] = b[k]) : a.take (k + 1) = b.take (k + 1) := by
  rw [List.take_succ_eq_append_getElem h1, List.take_succ_eq_append_getElem h2, h, he]

end Go.Proofs.YtanhnicfkghkbaaDoor
