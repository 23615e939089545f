/-
  Plain mathematics: the decimal text of a number of at most ten digits is read back as the number.
-/
import Derived.Lib.ItoaNum
import Derived.Lib.ItoaMem
import Derived.Lib.AtoiTie
namespace Go.Proofs.YtanhnicfkghkbaaDoor
open Go

theorem decFrom_snoc : ∀ (l : List UInt8) (acc a d : Nat) (c : UInt8), Lib.decFrom acc l = some a → Lib.digitVal c = some d → Lib.decFrom acc (l ++ [c]) = some (a * 10 + d)
  | [], acc, a, d, c, h, hc => by
    simp only [Lib.decFrom] at h
    injection h with h
    subst h
    simp only [List.nil_append, Lib.decFrom, hc]
  | b :: r, acc, a, d, c, h, hc => by
    simp only [List.cons_append, Lib.decFrom] at h ⊢
    cases hb : Lib.digitVal b with
    | none => rw [hb] at h; cases h
    | some e => rw [hb] at h; exact decFrom_snoc r _ a d c h hc
theorem digit_of (k : Nat) (h : k < 10) : Lib.digitVal (UInt8.ofNat (48 + k)) = some k := by
  have e : (UInt8.ofNat (48 + k)).toNat = 48 + k := UInt8.toNat_ofNat_of_lt (by show 48 + k < 256; omega)
  unfold Lib.digitVal
  rw [e, if_pos (by omega)]
  congr 1
  omega
theorem decFrom_digits (u : Nat) : Lib.decFrom 0 (Lib.decDigits u) = some u := by
  induction u using Nat.strongRecOn with
  | _ u ih =>
    rw [Lib.decDigits]
    by_cases h : u < 10
    · rw [dif_pos h]
      have := decFrom_snoc [] 0 0 u _ rfl (digit_of u h)
      simpa using this
    · rw [dif_neg h, decFrom_snoc _ 0 _ _ _ (ih (u / 10) (by omega)) (digit_of (u % 10) (by omega))]
      congr 1
      omega
theorem digits_inj {m n : Nat} (h : Lib.decDigits m = Lib.decDigits n) : m = n := by
  have h1 := decFrom_digits m
  rw [h, decFrom_digits n] at h1
  injection h1 with h1
  exact h1.symm
theorem nDigits_le : ∀ (k u : Nat), u < 10 ^ (k + 1) → Lib.nDigits u ≤ k + 1
  | 0, u, h => by rw [Lib.nDigits_small (by simpa using h)]; exact Nat.le_refl _
  | k + 1, u, h => by
    rw [Lib.nDigits]
    split
    · omega
    · have := nDigits_le k (u / 10) (by rw [Nat.pow_succ] at h; omega)
      omega
theorem digits_len {u : Nat} (h : u ≤ 1000000000) : (Lib.decDigits u).length ≤ 10 := by
  rw [Lib.decDigits_length]
  exact nDigits_le 9 u (by omega)
theorem digits_ne (u : Nat) : Lib.decDigits u ≠ [] := by
  rw [Lib.decDigits]
  split <;> simp
theorem digits_atoi {u : Nat} (h : u ≤ 1000000000) : Lib.atoiAll (Lib.decDigits u) = .ok (u : Int) := by
  rw [Lib.atoiAll_short _ (by have := digits_len h; omega)]
  have hd := decFrom_digits u
  have hne := digits_ne u
  cases hl : Lib.decDigits u with
  | nil => exact absurd hl hne
  | cons b r =>
    rw [hl] at hd
    obtain ⟨d, hdv⟩ := Lib.digit_of_decFrom (b :: r) 0 u hd 0 b rfl
    have hb := Lib.digitVal_eq hdv
    have h1 : (b == 45) = false := by
      rw [beq_eq_false_iff_ne]
      rintro rfl
      have := hb.1
      simp at this
    have h2 : (b == 43) = false := by
      rw [beq_eq_false_iff_ne]
      rintro rfl
      have := hb.1
      simp at this
    simp only [Lib.atoi, h1, h2, Lib.decNat, List.isEmpty_cons, Bool.false_eq_true, if_false, hd]
    rfl
/-- The text l is the decimal text of n, and n is at most 1000000000. -/
def IsDec (l : List UInt8) (n : Nat) : Prop := n ≤ 1000000000 ∧ Lib.decDigits n = l
theorem IsDec.uniq {l : List UInt8} {m n : Nat} (h : IsDec l m) (k : IsDec l n) : m = n := digits_inj (h.2.trans k.2.symm)
theorem IsDec.len {l : List UInt8} {n : Nat} (h : IsDec l n) : l.length ≤ 10 := by rw [← h.2]; exact digits_len h.1
theorem IsDec.from_ {l : List UInt8} {n : Nat} (h : IsDec l n) : Lib.decFrom 0 l = some n := by rw [← h.2]; exact decFrom_digits n
theorem IsDec.atoi {l : List UInt8} {n : Nat} (h : IsDec l n) : Lib.atoiAll l = .ok (n : Int) := by rw [← h.2]; exact digits_atoi h.1
end Go.Proofs.YtanhnicfkghkbaaDoor
