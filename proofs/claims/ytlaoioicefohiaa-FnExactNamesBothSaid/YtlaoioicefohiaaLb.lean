/-
  Contracts of the laws' helpers on one label and of spec.l01In, l03Word, l03Less, LabelOk.
-/
import Derived.Test.YtlaoioicefohiaaNWalks2
import Derived.Laws.Cover1
import Derived.Laws.ResultCell
import Derived.Sort.Walk0
namespace Go.Proofs.Ytlaoioicefohiaa
set_option maxRecDepth 100000
open Go.ChangeShapes Go.WideShapes Go.ChangeAt Go.RowKit
set_option linter.unusedSimpArgs false

theorem szLabel (k : Int) (n : List UInt8) (left : Nat) (w : World) (hn : n.length ≤ maxLen) (hl : left ≤ 1048576) :
    Calls Try.prog 18 #[.agg #[.int .i64 k, .string ⟨n.toArray⟩], .int .i64 (left : Int)] w fun e w' => e = .returned (.int .i64 (if left < n.length then -1 else ((left - n.length : Nat) : Int))) ∧ Below w.heap.size w w' := by
  unfold maxLen at hn
  by_cases h : left < n.length
  · rw [if_pos h]
    have hd : decide ((left : Int) - (n.length : Int) < 0) = true := decide_eq_true (by omega)
    go_enter Try.func18, Try.ntmps18
    go_wp2
    go_ret
    exact ⟨rfl, (Below.refl _ _).alloc (Nat.le_refl _) _⟩
  · rw [if_neg h]
    have hd : decide ((left : Int) - (n.length : Int) < 0) = false := decide_eq_false (by omega)
    go_enter Try.func18, Try.ntmps18
    go_wp2
    go_ret
    exact ⟨by go_num, (Below.refl _ _).alloc (Nat.le_refl _) _⟩

theorem eqLabel (k1 k2 : Int) (n1 n2 : List UInt8) (w : World) :
    Calls Try.prog 26 #[.agg #[.int .i64 k1, .string ⟨n1.toArray⟩], .agg #[.int .i64 k2, .string ⟨n2.toArray⟩]] w fun e w' => e = .returned (.bool (k1 == k2 && n1 == n2)) ∧ Below w.heap.size w w' := by
  have hB : ∀ o1 o2, Below w.heap.size w ((w.alloc o1).alloc o2) := fun o1 o2 => ((Below.refl _ _).alloc (Nat.le_refl _) o1).alloc (by simp) o2
  by_cases h1 : k1 = k2
  · subst h1
    by_cases h2 : n1 = n2
    · subst h2
      go_enter Try.func26, Try.ntmps26
      go_wp2
      go_ret
      exact ⟨by simp, hB _ _⟩
    · have hb : (n1 == n2) = false := by rw [beq_eq_false_iff_ne]; exact h2
      go_enter Try.func26, Try.ntmps26
      go_wp2
      go_ret
      exact ⟨by simp [hb], hB _ _⟩
  · have hb : (k1 == k2) = false := by rw [beq_eq_false_iff_ne]; exact h1
    go_enter Try.func26, Try.ntmps26
    go_wp2
    go_ret
    exact ⟨by simp [hb], hB _ _⟩

theorem toLabel (k : Int) (n : List UInt8) (w : World) :
    Calls Try.prog 20 #[.agg #[.int .i64 k, .string ⟨n.toArray⟩]] w fun e w' => e = .returned (.agg #[.int .i64 k, .string ⟨n.toArray⟩]) ∧ Below w.heap.size w w' := by
  have hB : ∀ o1 o2 o3, Below w.heap.size w (((w.alloc o1).alloc o2).alloc o3) := fun o1 o2 o3 => (((Below.refl _ _).alloc (Nat.le_refl _) o1).alloc (by simp) o2).alloc (by simp; omega) o3
  go_enter Try.func20, Try.ntmps20
  go_wp2
  refine bodyPost_ret (v := .agg #[.int .i64 k, .string ⟨n.toArray⟩]) (by simp [results, go_sem]) rfl ⟨rfl, hB _ _ _⟩

theorem specIn (x lo hi : Int) (w : World) :
    Calls Try.prog 45 #[.int .i64 x, .int .i64 lo, .int .i64 hi] w fun e w' => e = .returned (.bool (decide (lo ≤ x) && decide (x ≤ hi))) ∧ w' = w := by
  by_cases h1 : lo ≤ x
  · have d1 : decide (lo ≤ x) = true := decide_eq_true h1
    by_cases h2 : x ≤ hi
    · have d2 : decide (x ≤ hi) = true := decide_eq_true h2
      go_enter Try.func45, Try.ntmps45
      go_wp2
      go_ret
      exact ⟨by simp [d1, d2], rfl⟩
    · have d2 : decide (x ≤ hi) = false := decide_eq_false h2
      go_enter Try.func45, Try.ntmps45
      go_wp2
      go_ret
      exact ⟨by simp [d1, d2], rfl⟩
  · have d1 : decide (lo ≤ x) = false := decide_eq_false h1
    go_enter Try.func45, Try.ntmps45
    go_wp2
    go_ret
    exact ⟨by simp [d1], rfl⟩

def kindOk (k : Int) : Bool := decide (1 ≤ k) && decide (k ≤ 5)
def labelOk (k : Int) (n : List UInt8) : Bool := kindOk k && nameOk n
theorem specLabelOk (k : Int) (n : List UInt8) (w : World) (hn : n.length ≤ maxLen) :
    Calls Try.prog 19 #[.agg #[.int .i64 k, .string ⟨n.toArray⟩]] w fun e w' => e = .returned (.bool (labelOk k n)) ∧ Below w.heap.size w w' := by
  have f1 : Hid (∀ W, Calls Try.prog 45 #[.int .i64 k, .int .i64 1, .int .i64 5] W fun e w' => e = .returned (.bool (kindOk k)) ∧ w' = W) := fun W => specIn k 1 5 W
  have f2 := Lib.hid fun W => specNameOk ⟨n.toArray⟩ W (by simpa [ByteArray.size] using hn)
  simp only at f2
  have HR := Lib.hid (show labelOk k n = (kindOk k && nameOk n) from rfl)
  have hB : ∀ o1, Below w.heap.size w (w.alloc o1) := fun o1 => (Below.refl _ _).alloc (Nat.le_refl _) o1
  generalize kindOk k = a at f1 HR
  generalize nameOk n = b at f2 HR
  cases a
  · go_enter Try.func19, Try.ntmps19
    go_wp2_with fail
    (with_reducible refine (f1.out _).mono ?_); rintro e w1 ⟨rfl, rfl⟩
    go_wp2
    go_ret
    rw [HR.out]
    exact ⟨rfl, hB _⟩
  · go_enter Try.func19, Try.ntmps19
    go_wp2_with fail
    (with_reducible refine (f1.out _).mono ?_); rintro e w1 ⟨rfl, rfl⟩
    go_wp2_with fail
    (with_reducible refine (f2.out _).mono ?_); rintro e w2 ⟨rfl, hb2⟩
    go_wp2
    go_ret
    rw [HR.out]
    exact ⟨by simp, (hB _).trans (hb2.mono (by simp))⟩

def wordL (k : Int) : List UInt8 := if k = 1 then [97, 120, 105, 111, 109] else if k = 2 then [111, 112, 97, 113, 117, 101] else if k = 3 then [117, 110, 115, 97, 102, 101] else if k = 4 then [110, 111, 117, 110, 105, 118] else [110, 111, 112, 111, 115]
theorem specWord (k : Int) (w : World) :
    Calls Try.prog 49 #[.int .i64 k] w fun e w' => e = .returned (.string ⟨(wordL k).toArray⟩) ∧ w' = w := by
  by_cases h1 : k = 1
  · subst h1
    go_enter Try.func49, Try.ntmps49
    go_wp2
    go_ret
    exact ⟨rfl, rfl⟩
  by_cases h2 : k = 2
  · subst h2
    go_enter Try.func49, Try.ntmps49
    go_wp2
    go_ret
    exact ⟨rfl, rfl⟩
  by_cases h3 : k = 3
  · subst h3
    go_enter Try.func49, Try.ntmps49
    go_wp2
    go_ret
    exact ⟨rfl, rfl⟩
  by_cases h4 : k = 4
  · subst h4
    go_enter Try.func49, Try.ntmps49
    go_wp2
    go_ret
    exact ⟨rfl, rfl⟩
  have b1 : (k == 1) = false := by rw [beq_eq_false_iff_ne]; exact h1
  have b2 : (k == 2) = false := by rw [beq_eq_false_iff_ne]; exact h2
  have b3 : (k == 3) = false := by rw [beq_eq_false_iff_ne]; exact h3
  have b4 : (k == 4) = false := by rw [beq_eq_false_iff_ne]; exact h4
  have HR := Lib.hid (show wordL k = [110, 111, 112, 111, 115] by simp [wordL, h1, h2, h3, h4])
  go_enter Try.func49, Try.ntmps49
  go_wp2
  go_ret
  rw [HR.out]
  exact ⟨rfl, rfl⟩
end Go.Proofs.Ytlaoioicefohiaa
