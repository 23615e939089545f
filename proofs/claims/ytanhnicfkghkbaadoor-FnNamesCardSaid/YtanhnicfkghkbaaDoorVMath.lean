/-
  Plain lemmas on universe levels as lists of bytes: where a level ends, its parameters, what is put into it; no function of the program is named here.
-/
import Derived.Test.YtanhnicfkghkbaaDoorBase
namespace Go.Proofs.YtanhnicfkghkbaaDoor
set_option maxRecDepth 100000

/-- How many bytes so many levels take at the head of a text. -/
def lend : Nat → List UInt8 → Option Nat
  | 0, _ => some 0
  | _ + 1, [] => none
  | n + 1, [c] => if c = 122 then (lend n []).map (· + 1) else none
  | n + 1, c :: d :: r =>
    if c = 122 then (lend n (d :: r)).map (· + 1)
    else if c = 43 then (lend (n + 1) (d :: r)).map (· + 1)
    else if c = 109 ∨ c = 105 then (lend (n + 2) (d :: r)).map (· + 1)
    else if c = 117 then (if 48 ≤ d.toNat ∧ d.toNat ≤ 50 then (lend n r).map (· + 2) else none)
    else none
termination_by _ l => l.length

theorem lend_zero (l : List UInt8) : lend 0 l = some 0 := by rw [lend]
theorem lend_nil (n : Nat) : lend (n + 1) [] = none := by rw [lend]
theorem lend_z (n : Nat) (r : List UInt8) : lend (n + 1) (122 :: r) = (lend n r).map (· + 1) := by
  cases r with
  | nil => rw [lend]; simp
  | cons d r => rw [lend]; simp
theorem lend_up (n : Nat) (r : List UInt8) : lend (n + 1) (43 :: r) = (lend (n + 1) r).map (· + 1) := by
  cases r with
  | nil => rw [lend_nil, lend]; simp
  | cons d r => rw [lend]; simp
theorem lend_two (n : Nat) {c : UInt8} (hc : c = 109 ∨ c = 105) (r : List UInt8) : lend (n + 1) (c :: r) = (lend (n + 2) r).map (· + 1) := by
  have h1 : c ≠ 122 := by rcases hc with rfl | rfl <;> decide
  have h2 : c ≠ 43 := by rcases hc with rfl | rfl <;> decide
  cases r with
  | nil => rw [lend_nil, lend, if_neg h1]; simp
  | cons d r => rw [lend, if_neg h1, if_neg h2, if_pos hc]
theorem lend_par (n : Nat) {d : UInt8} (h1 : 48 ≤ d.toNat) (h2 : d.toNat ≤ 50) (r : List UInt8) : lend (n + 1) (117 :: d :: r) = (lend n r).map (· + 2) := by
  rw [lend]; simp [h1, h2]
theorem lend_par_bad (n : Nat) {d : UInt8} (h : ¬ (48 ≤ d.toNat ∧ d.toNat ≤ 50)) (r : List UInt8) : lend (n + 1) (117 :: d :: r) = none := by
  rw [lend]; simp [h]
theorem lend_par_end (n : Nat) : lend (n + 1) [117] = none := by rw [lend]; simp
theorem lend_bad (n : Nat) {c : UInt8} (h1 : c ≠ 122) (h2 : c ≠ 43) (h3 : ¬ (c = 109 ∨ c = 105)) (h4 : c ≠ 117) (r : List UInt8) : lend (n + 1) (c :: r) = none := by
  cases r with
  | nil => rw [lend, if_neg h1]
  | cons d r => rw [lend, if_neg h1, if_neg h2, if_neg h3, if_neg h4]

/-- The way a reader goes: every byte is of one of these. -/
theorem lend_ind {motive : Nat → List UInt8 → Prop} (zero : ∀ l, motive 0 l) (nil : ∀ n, motive (n + 1) [])
    (z : ∀ n r, motive n r → motive (n + 1) (122 :: r)) (up : ∀ n r, motive (n + 1) r → motive (n + 1) (43 :: r))
    (two : ∀ n c r, c = 109 ∨ c = 105 → motive (n + 2) r → motive (n + 1) (c :: r)) (par : ∀ n d r, 48 ≤ d.toNat → d.toNat ≤ 50 → motive n r → motive (n + 1) (117 :: d :: r))
    (bad : ∀ n c r, lend (n + 1) (c :: r) = none → motive (n + 1) (c :: r)) : ∀ (l : List UInt8) (n : Nat), motive n l := by
  intro l
  induction hl : l.length using Nat.strongRecOn generalizing l with
  | ind k ih =>
    intro n
    cases n with
    | zero => exact zero l
    | succ n =>
      cases l with
      | nil => exact nil n
      | cons c r =>
        have hr : r.length < k := by simp at hl; omega
        by_cases h1 : c = 122
        · subst h1; exact z n r (ih _ hr r rfl n)
        by_cases h2 : c = 43
        · subst h2; exact up n r (ih _ hr r rfl (n + 1))
        by_cases h3 : c = 109 ∨ c = 105
        · exact two n c r h3 (ih _ hr r rfl (n + 2))
        by_cases h4 : c = 117
        · subst h4
          cases r with
          | nil => exact bad n 117 [] (lend_par_end n)
          | cons d r =>
            by_cases h5 : 48 ≤ d.toNat ∧ d.toNat ≤ 50
            · exact par n d r h5.1 h5.2 (ih _ (by simp at hl; omega) r rfl n)
            · exact bad n 117 (d :: r) (lend_par_bad n h5 r)
        · exact bad n c r (lend_bad n h1 h2 h3 h4 r)

def levelOk (l : List UInt8) : Bool := decide (l.length ≤ 60) && decide (lend 1 l = some l.length)
def levelEnd (l : List UInt8) (at' : Int) : Int :=
  if 10000 < l.length ∨ at' < 0 ∨ (l.length : Int) < at' then -1 else match lend 1 (l.drop at'.toNat) with
    | some k => at' + k
    | none => -1
/-- The greatest parameter's number plus one, if no greater one came before. -/
def parF : Nat → List UInt8 → Nat
  | n, [] => n
  | n, c :: r => parF (if c = 117 ∧ n < (r.headD 0).toNat - 47 then (r.headD 0).toNat - 47 else n) r
def levelParams (l : List UInt8) : Nat := if levelOk l = true then parF 0 l else 0
def levelUps (l : List UInt8) : Nat := if levelOk l = true then l.count 43 else 0
def putF (args : List (List UInt8)) : List UInt8 → List UInt8
  | [] => []
  | [c] => [c]
  | c :: d :: r => if c = 117 then args.getD (d.toNat - 48) [] ++ putF args r else c :: putF args (d :: r)
termination_by l => l.length
def levelPut (l : List UInt8) (args : List (List UInt8)) : Option (List UInt8) :=
  if levelOk l = true ∧ args.length ≤ 3 ∧ levelParams l ≤ args.length ∧ (∀ x ∈ args, levelOk x = true) ∧ (putF args l).length ≤ 60 then some (putF args l) else none

theorem levelOk_len {l : List UInt8} (h : levelOk l = true) : l.length ≤ 60 ∧ lend 1 l = some l.length := by
  simpa [levelOk] using h
/-- In a text that so many levels fill, a parameter has its digit. -/
theorem lend_par_at : ∀ (l : List UInt8) (n : Nat), lend n l = some l.length → ∀ i (hi : i < l.length), l[i] = 117 → ∃ hj : i + 1 < l.length, 48 ≤ l[i + 1].toNat ∧ l[i + 1].toNat ≤ 50 := by
  refine lend_ind (motive := fun n l => lend n l = some l.length → ∀ i (hi : i < l.length), l[i] = 117 → ∃ hj : i + 1 < l.length, 48 ≤ l[i + 1].toNat ∧ l[i + 1].toNat ≤ 50) ?_ ?_ ?_ ?_ ?_ ?_ ?_
  · intro l h i hi _
    rw [lend_zero] at h
    have := Option.some.inj h
    omega
  · intro n h; rw [lend_nil] at h; cases h
  · intro n r ih h i hi he
    rw [lend_z] at h
    have h' : lend n r = some r.length := by
      cases hr : lend n r with
      | none => rw [hr] at h; cases h
      | some k => rw [hr] at h; simp at h; rw [h]
    cases i with
    | zero => exact absurd he (by simp)
    | succ i =>
      obtain ⟨hj, h2⟩ := ih h' i (by simpa using hi) (by simpa using he)
      exact ⟨by simpa using hj, by simpa using h2⟩
  · intro n r ih h i hi he
    rw [lend_up] at h
    have h' : lend (n + 1) r = some r.length := by
      cases hr : lend (n + 1) r with
      | none => rw [hr] at h; cases h
      | some k => rw [hr] at h; simp at h; rw [h]
    cases i with
    | zero => exact absurd he (by simp)
    | succ i =>
      obtain ⟨hj, h2⟩ := ih h' i (by simpa using hi) (by simpa using he)
      exact ⟨by simpa using hj, by simpa using h2⟩
  · intro n c r hc ih h i hi he
    rw [lend_two n hc] at h
    have h' : lend (n + 2) r = some r.length := by
      cases hr : lend (n + 2) r with
      | none => rw [hr] at h; cases h
      | some k => rw [hr] at h; simp at h; rw [h]
    cases i with
    | zero => simp at he; subst he; rcases hc with hc | hc <;> exact absurd hc (by decide)
    | succ i =>
      obtain ⟨hj, h2⟩ := ih h' i (by simpa using hi) (by simpa using he)
      exact ⟨by simpa using hj, by simpa using h2⟩
  · intro n d r h1 h2 ih h i hi he
    rw [lend_par n h1 h2] at h
    have h' : lend n r = some r.length := by
      cases hr : lend n r with
      | none => rw [hr] at h; cases h
      | some k => rw [hr] at h; simp at h; rw [h]
    cases i with
    | zero => exact ⟨by simp, h1, h2⟩
    | succ i =>
      cases i with
      | zero => simp at he; subst he; exact absurd h2 (by decide)
      | succ i =>
        obtain ⟨hj, h3⟩ := ih h' i (by simpa using hi) (by simpa using he)
        exact ⟨by simpa using hj, by simpa using h3⟩
  · intro n c r h0 h; rw [h0] at h; cases h
end Go.Proofs.YtanhnicfkghkbaaDoor
