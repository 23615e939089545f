/-
  Plain lemmas on names as lists of bytes: the scan of a name and its parts at dots; no function of the program is named here.
-/
import Derived.Test.YtanhnicfkghkbaaDoorBase
namespace Go.Proofs.YtanhnicfkghkbaaDoor
set_option maxRecDepth 100000

def azB (c : UInt8) : Bool := decide (97 ≤ c.toNat) && decide (c.toNat ≤ 122)
def dgB (c : UInt8) : Bool := decide (48 ≤ c.toNat) && decide (c.toNat ≤ 57)
def alB (c : UInt8) : Bool := azB c || dgB c
def partOk : List UInt8 → Bool
  | [] => false
  | c :: r => azB c && (c :: r).all alB
def cutF (by' : UInt8) : List UInt8 → List UInt8 → List (List UInt8)
  | p, [] => [p]
  | p, c :: r => if c = by' then p :: cutF by' [] r else cutF by' (p ++ [c]) r
def scan : List UInt8 → Nat → Bool → Bool
  | [], d, b => b && decide (d ≤ 5)
  | c :: r, d, b => if azB c = true then scan r d true else if dgB c = true ∧ b = true then scan r d b else if c = 46 ∧ b = true then scan r (d + 1) false else false
def cutL (l : List UInt8) : List (List UInt8) := cutF 46 [] l
def nameOk (l : List UInt8) : Bool := decide (l.length ≤ 40) && decide ((cutL l).length ≤ 5) && (cutL l).all partOk

theorem cutF_head (b : UInt8) (l : List UInt8) : ∀ p, ∃ t r, cutF b p l = (p ++ t) :: r := by
  induction l with
  | nil => intro p; exact ⟨[], [], by simp [cutF]⟩
  | cons c l ih =>
    intro p
    by_cases h : c = b
    · exact ⟨[], cutF b [] l, by simp [cutF, h]⟩
    · obtain ⟨t, r, e⟩ := ih (p ++ [c])
      exact ⟨c :: t, r, by rw [cutF, if_neg h, e]; simp⟩
theorem cutF_pos (b : UInt8) (p l : List UInt8) : 0 < (cutF b p l).length := by
  obtain ⟨t, r, e⟩ := cutF_head b l p
  rw [e]; simp
theorem cutF_len (b : UInt8) (l : List UInt8) : ∀ p, (cutF b p l).length ≤ l.length + 1 := by
  induction l with
  | nil => intro p; simp [cutF]
  | cons c l ih =>
    intro p
    by_cases h : c = b
    · have := ih []; simp [cutF, h]; omega
    · have := ih (p ++ [c]); simp only [cutF, if_neg h, List.length_cons]; omega
theorem az_not46 {c : UInt8} (h : azB c = true) : c ≠ 46 := by
  rintro rfl; revert h; decide
theorem dg_not46 {c : UInt8} (h : dgB c = true) : c ≠ 46 := by
  rintro rfl; revert h; decide
theorem partOk_snoc {p : List UInt8} {c : UInt8} (h : partOk p = true) (hc : alB c = true) : partOk (p ++ [c]) = true := by
  cases p with
  | nil => simp [partOk] at h
  | cons x r =>
    simp only [partOk, Bool.and_eq_true] at h
    simp only [List.cons_append, partOk, Bool.and_eq_true, h.1, true_and]
    have h2 := h.2
    simp only [List.all_cons, List.all_append, List.all_nil, Bool.and_true, Bool.and_eq_true] at h2 ⊢
    exact ⟨h2.1, h2.2, hc⟩
theorem partOk_bad (p t : List UInt8) {c : UInt8} (hc : alB c = false) : partOk ((p ++ [c]) ++ t) = false := by
  cases p with
  | nil => simp [partOk, hc]
  | cons x r => simp [partOk, hc]
theorem partOk_badHead (t : List UInt8) {c : UInt8} (hc : azB c = false) : partOk (([] ++ [c]) ++ t) = false := by
  simp [partOk, hc]

theorem scan_cut (l : List UInt8) : ∀ (p : List UInt8) (d : Nat), (p = [] ∨ partOk p = true) → 0 < d →
    scan l d (decide (p ≠ [])) = (decide (d - 1 + (cutF 46 p l).length ≤ 5) && (cutF 46 p l).all partOk) := by
  induction l with
  | nil =>
    intro p d hp hd
    rcases hp with rfl | hp
    · simp [scan, cutF, partOk]
    · have hne : p ≠ [] := by rintro rfl; simp [partOk] at hp
      simp only [scan, cutF, hne, ne_eq, not_false_eq_true, decide_true, Bool.true_and, List.length_cons, List.length_nil, List.all_cons, List.all_nil, hp, Bool.and_true]
      congr 1
      apply propext
      omega
  | cons c l ih =>
    intro p d hp hd
    by_cases haz : azB c = true
    · have h46 := az_not46 haz
      have hal : alB c = true := by simp [alB, haz]
      have hq : partOk (p ++ [c]) = true := by
        rcases hp with rfl | hp
        · simp [partOk, haz, hal]
        · exact partOk_snoc hp hal
      have := ih (p ++ [c]) d (.inr hq) hd
      rw [scan, if_pos haz, cutF, if_neg h46, ← this]
      simp
    · rw [Bool.not_eq_true] at haz
      by_cases hdg : dgB c = true
      · have h46 := dg_not46 hdg
        rcases hp with rfl | hp
        · have e : scan (c :: l) d (decide (([] : List UInt8) ≠ [])) = false := by simp [scan, haz, h46]
          rw [e, cutF, if_neg h46]
          obtain ⟨t, r, e⟩ := cutF_head 46 l ([] ++ [c])
          rw [e, List.all_cons, partOk_badHead t haz]
          simp
        · have hne : p ≠ [] := by rintro rfl; simp [partOk] at hp
          have hal : alB c = true := by simp [alB, hdg]
          have := ih (p ++ [c]) d (.inr (partOk_snoc hp hal)) hd
          rw [cutF, if_neg h46, ← this]
          simp [scan, haz, hdg, hne]
      · rw [Bool.not_eq_true] at hdg
        have hal : alB c = false := by simp [alB, haz, hdg]
        by_cases h46 : c = 46
        · subst h46
          rcases hp with rfl | hp
          · simp [scan, haz, hdg, cutF, partOk]
          · have hne : p ≠ [] := by rintro rfl; simp [partOk] at hp
            have := ih [] (d + 1) (.inl rfl) (by omega)
            have e : scan (46 :: l) d (decide (p ≠ [])) = scan l (d + 1) (decide (([] : List UInt8) ≠ [])) := by simp [scan, haz, hdg, hne]
            rw [e, this]
            simp only [cutF, if_true, List.length_cons, List.all_cons, hp, Bool.true_and]
            congr 1
            congr 1
            apply propext
            omega
        · have e : scan (c :: l) d (decide (p ≠ [])) = false := by simp [scan, haz, hdg, h46]
          rw [e, cutF, if_neg h46]
          obtain ⟨t, r, e⟩ := cutF_head 46 l (p ++ [c])
          rw [e, List.all_cons, partOk_bad p t hal]
          simp
theorem nameOk_scan (l : List UInt8) (h : l.length ≤ 40) : nameOk l = scan l 1 false := by
  have := scan_cut l [] 1 (.inl rfl) (by decide)
  simp only [ne_eq, not_true_eq_false, decide_false, Nat.sub_self, Nat.zero_add] at this
  rw [this, nameOk, cutL]
  simp [h]
theorem nameOk_long {l : List UInt8} (h : 40 < l.length) : nameOk l = false := by
  simp [nameOk, show ¬ l.length ≤ 40 by omega]
theorem scan_nil (d : Nat) (b : Bool) : scan [] d b = (b && decide (d ≤ 5)) := rfl
theorem scan_drop {l : List UInt8} {k : Nat} (h : k < l.length) (d : Nat) (b : Bool) : scan (l.drop k) d b = if azB l[k] = true then scan (l.drop (k + 1)) d true else if dgB l[k] = true ∧ b = true then scan (l.drop (k + 1)) d b else if l[k] = 46 ∧ b = true then scan (l.drop (k + 1)) (d + 1) false else false := by
  rw [List.drop_eq_getElem_cons h, scan]
end Go.Proofs.YtanhnicfkghkbaaDoor
