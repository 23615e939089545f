/-
  Contracts of spec.l03Less, LabelText and ReadLabel.
-/
import Derived.Test.YtlaoioicefohiaaLb
import Derived.Deep.RegionHeld3
namespace Go.Proofs.Ytlaoioicefohiaa
set_option maxRecDepth 100000
open Go.ChangeShapes Go.WideShapes Go.ChangeAt Go.RowKit
set_option linter.unusedSimpArgs false

def lessL (k1 : Int) (n1 : List UInt8) (k2 : Int) (n2 : List UInt8) : Bool := decide (k1 < k2) || (k1 == k2 && decide (n1 < n2))
theorem specLess (k1 k2 : Int) (n1 n2 : List UInt8) (w : World) :
    Calls Try.prog 54 #[.agg #[.int .i64 k1, .string ⟨n1.toArray⟩], .agg #[.int .i64 k2, .string ⟨n2.toArray⟩]] w fun e w' => e = .returned (.bool (lessL k1 n1 k2 n2)) ∧ Below w.heap.size w w' := by
  have hB : ∀ o1 o2, Below w.heap.size w ((w.alloc o1).alloc o2) := fun o1 o2 => ((Below.refl _ _).alloc (Nat.le_refl _) o1).alloc (by simp) o2
  have hb := Lib.hid (bytesLess_eq n1 n2)
  unfold lessL
  by_cases h1 : k1 < k2
  · have d1 : decide (k1 < k2) = true := decide_eq_true h1
    go_enter Try.func54, Try.ntmps54
    go_wp2
    go_ret
    exact ⟨by simp [d1], hB _ _⟩
  · have d1 : decide (k1 < k2) = false := decide_eq_false h1
    by_cases h2 : k1 = k2
    · have d2 : (k1 == k2) = true := by rw [beq_iff_eq]; exact h2
      clear h2
      go_enter Try.func54, Try.ntmps54
      go_wp2
      go_ret
      refine ⟨?_, hB _ _⟩
      rw [hb.out]
      rfl
    · have d2 : (k1 == k2) = false := by rw [beq_eq_false_iff_ne]; exact h2
      go_enter Try.func54, Try.ntmps54
      go_wp2
      go_ret
      exact ⟨rfl, hB _ _⟩

def textRes (k : Int) (n : List UInt8) : Value := if labelOk k n = true then .tuple #[.string ⟨(wordL k ++ [58] ++ n).toArray⟩, .bool true] else .tuple #[.string ⟨#[]⟩, .bool false]
theorem word_len (k : Int) : (wordL k).length ≤ 6 := by
  unfold wordL
  repeat' split
  all_goals simp
theorem labelOk_le {k : Int} {n : List UInt8} (h : labelOk k n = true) : n.length ≤ 40 := by
  simp only [labelOk, nameOk, Bool.and_eq_true, decide_eq_true_eq] at h
  exact h.2.1.1
theorem join3 (a b c : List UInt8) : (⟨a.toArray⟩ : ByteArray) ++ ⟨b.toArray⟩ ++ ⟨c.toArray⟩ = ⟨(a ++ b ++ c).toArray⟩ := by
  apply ByteArray.ext
  simp [ByteArray.data_append]

set_option maxHeartbeats 1000000 in
theorem specLabelText (k : Int) (n : List UInt8) (w : World) (hn : n.length ≤ maxLen) :
    Calls Try.prog 22 #[.agg #[.int .i64 k, .string ⟨n.toArray⟩]] w fun e w' => e = .returned (textRes k n) ∧ Below w.heap.size w w' := by
  have f1 := Lib.hid fun W => specLabelOk k n W hn
  have f2 := Lib.hid fun W => specWord k W
  have B0 : Below w.heap.size w (w.alloc (.cells #[.int .i64 k, .string ⟨n.toArray⟩] 31)) := (Below.refl _ _).alloc (Nat.le_refl _) _
  by_cases h : labelOk k n = true
  · have HR := Lib.hid (show textRes k n = _ from if_pos h)
    have hl := labelOk_le h
    have hw := word_len k
    rw [h] at f1
    clear h
    have hj := Lib.hid (join3 (wordL k) [58] n)
    generalize wordL k = wd at f2 HR hw hj
    have z1 : ((⟨wd.toArray⟩ : ByteArray) ++ ⟨#[58]⟩).size = wd.length + 1 := by rw [ByteArray.size_append]; simp [ByteArray.size]
    go_enter Try.func22, Try.ntmps22
    go_wp2_with fail
    (with_reducible refine (f1.out _).mono ?_); rintro e w1 ⟨rfl, hb1⟩
    have c0 : w1.cell? ⟨w.heap.size, 0, none⟩ = some (.int .i64 k) := (hb1.cell (p := ⟨w.heap.size, 0, none⟩) (by simp)).trans (World.news_of_block (cs := #[.int .i64 k, .string ⟨n.toArray⟩]) (t := 31) (fr := (0, 0)) (heap_alloc_new w _) 0 _ rfl)
    have c1 : w1.cell? ⟨w.heap.size, 1, none⟩ = some (.string ⟨n.toArray⟩) := (hb1.cell (p := ⟨w.heap.size, 1, none⟩) (by simp)).trans (World.news_of_block (cs := #[.int .i64 k, .string ⟨n.toArray⟩]) (t := 31) (fr := (0, 0)) (heap_alloc_new w _) 1 _ rfl)
    have B1 := B0.trans (hb1.mono (by simp))
    go_wp2
    go_quiet ((go_at_call 49; exact Calls.quiet_of_same (f2.out _)))
    go_wp2
    go_ret2
    rw [HR.out]
    refine ⟨?_, below_drewN B1 _⟩
    rw [← hj.out]
    rfl
  · have HR := Lib.hid (show textRes k n = _ from if_neg h)
    rw [Bool.not_eq_true] at h
    rw [h] at f1
    clear h
    go_enter Try.func22, Try.ntmps22
    go_wp2_with fail
    (with_reducible refine (f1.out _).mono ?_); rintro e w1 ⟨rfl, hb1⟩
    go_wp2
    go_ret2
    rw [HR.out]
    exact ⟨rfl, B0.trans (hb1.mono (by simp))⟩
end Go.Proofs.Ytlaoioicefohiaa
