/-
  Contracts of impl.kindWord, LabelOk, LabelText and kindOf.
-/
import Derived.Test.YtlaoioicefohiaaLb2
namespace Go.Proofs.Ytlaoioicefohiaa
set_option maxRecDepth 100000
open Go.ChangeShapes Go.WideShapes Go.ChangeAt Go.RowKit
set_option linter.unusedSimpArgs false

def wordI (k : Int) : List UInt8 := if kindOk k = true then wordL k else []
theorem wordI_yes {k : Int} (h : kindOk k = true) : wordI k = wordL k := if_pos h
theorem wordI_no {k : Int} (h : kindOk k = false) : wordI k = [] := if_neg (by rw [h]; decide)

theorem implKindWord (k : Int) (w : World) :
    Calls Try.prog 47 #[.int .i64 k] w fun e w' => e = .returned (.string ⟨(wordI k).toArray⟩) ∧ w' = w := by
  by_cases h1 : k = 1
  · subst h1
    go_enter Try.func47, Try.ntmps47
    go_wp2
    go_ret
    exact ⟨rfl, rfl⟩
  by_cases h2 : k = 2
  · subst h2
    go_enter Try.func47, Try.ntmps47
    go_wp2
    go_ret
    exact ⟨rfl, rfl⟩
  by_cases h3 : k = 3
  · subst h3
    go_enter Try.func47, Try.ntmps47
    go_wp2
    go_ret
    exact ⟨rfl, rfl⟩
  by_cases h4 : k = 4
  · subst h4
    go_enter Try.func47, Try.ntmps47
    go_wp2
    go_ret
    exact ⟨rfl, rfl⟩
  by_cases h5 : k = 5
  · subst h5
    go_enter Try.func47, Try.ntmps47
    go_wp2
    go_ret
    exact ⟨rfl, rfl⟩
  have b1 : (k == 1) = false := by rw [beq_eq_false_iff_ne]; exact h1
  have b2 : (k == 2) = false := by rw [beq_eq_false_iff_ne]; exact h2
  have b3 : (k == 3) = false := by rw [beq_eq_false_iff_ne]; exact h3
  have b4 : (k == 4) = false := by rw [beq_eq_false_iff_ne]; exact h4
  have b5 : (k == 5) = false := by rw [beq_eq_false_iff_ne]; exact h5
  have HR := Lib.hid (show wordI k = [] from wordI_no (by simp [kindOk]; omega))
  go_enter Try.func47, Try.ntmps47
  go_wp2
  go_ret
  rw [HR.out]
  exact ⟨rfl, rfl⟩

theorem wordL_ne (k : Int) : ∃ (c : UInt8) (r : List UInt8), wordL k = c :: r := by
  unfold wordL
  repeat' split
  all_goals exact ⟨_, _, rfl⟩

theorem implLabelOk (k : Int) (n : List UInt8) (w : World) (hn : n.length ≤ maxLen) :
    Calls Try.prog 21 #[.agg #[.int .i64 k, .string ⟨n.toArray⟩]] w fun e w' => e = .returned (.bool (labelOk k n)) ∧ Below w.heap.size w w' := by
  have f1 := Lib.hid fun W => implKindWord k W
  have f2 := Lib.hid fun W => implNameOk ⟨n.toArray⟩ W (by simpa [ByteArray.size] using hn)
  simp only at f2
  have HR := Lib.hid (show labelOk k n = (kindOk k && nameOk n) from rfl)
  have hB : ∀ o1, Below w.heap.size w (w.alloc o1) := fun o1 => (Below.refl _ _).alloc (Nat.le_refl _) o1
  by_cases h : kindOk k = true
  · rw [wordI_yes h] at f1
    rw [h] at HR
    obtain ⟨c, r, hcr⟩ := wordL_ne k
    rw [hcr] at f1
    clear hcr h
    generalize nameOk n = b at f2 HR
    go_enter Try.func21, Try.ntmps21
    go_wp2_with fail
    (with_reducible refine (f1.out _).mono ?_); rintro e w1 ⟨rfl, rfl⟩
    go_wp2_with fail
    (with_reducible refine (f2.out _).mono ?_); rintro e w2 ⟨rfl, hb2⟩
    go_wp2
    go_ret
    rw [HR.out]
    exact ⟨by simp, (hB _).trans (hb2.mono (by simp))⟩
  · rw [Bool.not_eq_true] at h
    rw [wordI_no h] at f1
    rw [h] at HR
    clear h
    go_enter Try.func21, Try.ntmps21
    go_wp2_with fail
    (with_reducible refine (f1.out _).mono ?_); rintro e w1 ⟨rfl, rfl⟩
    go_wp2
    go_ret
    rw [HR.out]
    exact ⟨by simp, hB _⟩

theorem labelOk_kind {k : Int} {n : List UInt8} (h : labelOk k n = true) : kindOk k = true := by
  simp only [labelOk, Bool.and_eq_true] at h
  exact h.1

set_option maxHeartbeats 1000000 in
theorem implLabelText (k : Int) (n : List UInt8) (w : World) (hn : n.length ≤ maxLen) :
    Calls Try.prog 23 #[.agg #[.int .i64 k, .string ⟨n.toArray⟩]] w fun e w' => e = .returned (textRes k n) ∧ Below w.heap.size w w' := by
  have f1 := Lib.hid fun W => implLabelOk k n W hn
  have f2 := Lib.hid fun W => implKindWord k W
  have B0 : Below w.heap.size w (w.alloc (.cells #[.int .i64 k, .string ⟨n.toArray⟩] 31)) := (Below.refl _ _).alloc (Nat.le_refl _) _
  by_cases h : labelOk k n = true
  · have HR := Lib.hid (show textRes k n = _ from if_pos h)
    have hl := labelOk_le h
    have hw := word_len k
    rw [wordI_yes (labelOk_kind h)] at f2
    rw [h] at f1
    clear h
    have hj := Lib.hid (join3 (wordL k) [58] n)
    generalize wordL k = wd at f2 HR hw hj
    have z1 : ((⟨wd.toArray⟩ : ByteArray) ++ ⟨#[58]⟩).size = wd.length + 1 := by rw [ByteArray.size_append]; simp [ByteArray.size]
    go_enter Try.func23, Try.ntmps23
    go_wp2_with fail
    (with_reducible refine (f1.out _).mono ?_); rintro e w1 ⟨rfl, hb1⟩
    have c0 : w1.cell? ⟨w.heap.size, 0, none⟩ = some (.int .i64 k) := (hb1.cell (p := ⟨w.heap.size, 0, none⟩) (by simp)).trans (World.news_of_block (cs := #[.int .i64 k, .string ⟨n.toArray⟩]) (t := 31) (fr := (0, 0)) (heap_alloc_new w _) 0 _ rfl)
    have c1 : w1.cell? ⟨w.heap.size, 1, none⟩ = some (.string ⟨n.toArray⟩) := (hb1.cell (p := ⟨w.heap.size, 1, none⟩) (by simp)).trans (World.news_of_block (cs := #[.int .i64 k, .string ⟨n.toArray⟩]) (t := 31) (fr := (0, 0)) (heap_alloc_new w _) 1 _ rfl)
    have B1 := B0.trans (hb1.mono (by simp))
    go_wp2
    go_quiet ((go_at_call 47; exact Calls.quiet_of_same (f2.out _)))
    go_wp2
    go_ret2
    rw [HR.out]
    refine ⟨?_, below_drewN B1 _⟩
    rw [← hj.out]
    rfl
  · have HR := Lib.hid (show textRes k n = _ from if_neg h)
    rw [Bool.not_eq_true] at h
    rw [h] at f1
    clear h
    go_enter Try.func23, Try.ntmps23
    go_wp2_with fail
    (with_reducible refine (f1.out _).mono ?_); rintro e w1 ⟨rfl, hb1⟩
    go_wp2
    go_ret2
    rw [HR.out]
    exact ⟨rfl, B0.trans (hb1.mono (by simp))⟩

def kindOfL (t : List UInt8) : Int := ((([1, 2, 3, 4, 5] : List Int).find? fun k => wordL k == t).getD 0)
theorem wordL_inj {j k : Int} (hj : kindOk j = true) (hk : kindOk k = true) (h : wordL j = wordL k) : j = k := by
  simp [kindOk] at hj hk
  have e1 : j = 1 ∨ j = 2 ∨ j = 3 ∨ j = 4 ∨ j = 5 := by omega
  have e2 : k = 1 ∨ k = 2 ∨ k = 3 ∨ k = 4 ∨ k = 5 := by omega
  rcases e1 with rfl | rfl | rfl | rfl | rfl <;> rcases e2 with rfl | rfl | rfl | rfl | rfl <;> first | rfl | (exact absurd h (by decide))
theorem implKindOf (t : List UInt8) (w : World) :
    Calls Try.prog 52 #[.string ⟨t.toArray⟩] w fun e w' => e = .returned (.int .i64 (kindOfL t)) ∧ w' = w := by
  have f := Lib.hid implKindWord
  have hx : ∀ k : Nat, 1 ≤ k → k ≤ 5 → wordI (k : Int) = wordL k := fun k h1 h5 => wordI_yes (by simp [kindOk]; omega)
  go_enter Try.func52, Try.ntmps52
  go_wp2
  go_loopw [3] (fun i wr => ∃ k : Nat, 1 ≤ k ∧ k ≤ 6 ∧ i = .int .i64 k ∧ wr = w ∧ ∀ j : Nat, 1 ≤ j → j < k → wordL (j : Int) ≠ t) (fun i _ => 6 - (intOf i).toNat)
  case atStart => exact ⟨1, by omega, by omega, rfl, rfl, fun j h1 h2 => by omega⟩
  case round =>
    obtain ⟨k, h1, h6, rfl, rfl, hb⟩ := hrel
    by_cases hk : k ≤ 5
    · have hwd := hx k h1 hk
      have fk := Lib.hid (f.out (k : Int))
      rw [hwd] at fk
      clear hx f hwd
      by_cases he : wordL (k : Int) = t
      · have HR := Lib.hid (show kindOfL t = (k : Int) from by
          have e1 : k = 1 ∨ k = 2 ∨ k = 3 ∨ k = 4 ∨ k = 5 := by omega
          subst he
          rcases e1 with rfl | rfl | rfl | rfl | rfl <;> decide)
        rw [he] at fk
        clear he hb
        go_wp2_with fail
        (with_reducible refine (fk.out _).mono ?_); rintro e w1 ⟨rfl, rfl⟩
        go_wp2
        go_ret
        rw [HR.out]
        exact ⟨rfl, rfl⟩
      · have HB : Hid (∀ j : Nat, 1 ≤ j → j < k + 1 → wordL (j : Int) ≠ t) := fun j h1 h2 => if hj : j = k then by subst hj; exact he else hb j h1 (by omega)
        have hne : (wordL (k : Int) == t) = false := beq_eq_false_iff_ne.2 he
        clear hb
        clear he
        generalize wordL (k : Int) = wd at fk hne
        go_wp2_with fail
        (with_reducible refine (fk.out _).mono ?_); rintro e w1 ⟨rfl, rfl⟩
        go_wp2
        go_roundw
        case rel => exact ⟨k + 1, by omega, by omega, by go_num, trivial, HB.out⟩
        case measure => simp [intOf]; omega
    · have hk6 : k = 6 := by omega
      subst hk6
      have HR := Lib.hid (show kindOfL t = 0 from by
        have g1 : wordL 1 ≠ t := hb 1 (by omega) (by omega)
        have g2 : wordL 2 ≠ t := hb 2 (by omega) (by omega)
        have g3 : wordL 3 ≠ t := hb 3 (by omega) (by omega)
        have g4 : wordL 4 ≠ t := hb 4 (by omega) (by omega)
        have g5 : wordL 5 ≠ t := hb 5 (by omega) (by omega)
        have d1 := beq_eq_false_iff_ne.2 g1
        have d2 := beq_eq_false_iff_ne.2 g2
        have d3 := beq_eq_false_iff_ne.2 g3
        have d4 := beq_eq_false_iff_ne.2 g4
        have d5 := beq_eq_false_iff_ne.2 g5
        simp only [kindOfL, List.find?]
        rw [d1, d2, d3, d4, d5]
        rfl)
      clear hb hx f
      go_wp2
      go_ret
      rw [HR.out]
      exact ⟨rfl, rfl⟩
end Go.Proofs.Ytlaoioicefohiaa
