/-
  Contracts of spec.TermOk, TermSize and TermKind, and their laws from the contracts of the program's functions (handed in as hypotheses).
-/
import Derived.Test.YtnklajagefedmaaDoorTAll
namespace Go.Proofs.YtnklajagefedmaaDoor
set_option maxRecDepth 100000
open Go.ChangeShapes Go.WideShapes Go.ChangeAt Go.RowKit
set_option linter.unusedSimpArgs false

theorem specTermOk (s : ByteArray) (w : World) (hs : s.size ≤ maxLen) :
    Calls Tryd.prog 30 #[.string s] w fun e w' => e = .returned (.bool (termOk s.data.toList)) ∧ Below w.heap.size w w' := by
  have f1 := Lib.hid (specL06All s w hs)
  go_enter Tryd.func30, Tryd.ntmps30
  go_wp2_with fail
  (with_reducible refine f1.out.mono ?_); rintro e w1 ⟨v, ns, rfl, hr, hb, _, (⟨t, ht, hn, hp⟩ | ⟨hno, rfl⟩)⟩
  · obtain ⟨la, lc, rfl⟩ := own_sliceN hr
    have hsz := t.size_pos
    have HE : Hid (termOk s.data.toList = true) := by rw [Hid, termOk, termOf_some ht]; rfl
    have d1 : decide ((0 : Int) < (ns.length : Int)) = true := decide_eq_true (by omega)
    have d1n : decide (0 < ns.length) = true := decide_eq_true (by omega)
    have HB := Lib.hid hb
    clear hr ht hn hp hb f1
    go_wp2
    go_ret
    rw [HE.out]
    exact ⟨rfl, HB.out⟩
  · obtain ⟨la, lc, rfl⟩ := own_sliceN hr
    have HE : Hid (termOk s.data.toList = false) := by rw [Hid, termOk, termOf_none hno]; rfl
    have HB := Lib.hid hb
    clear hr hno hb f1
    go_wp2
    go_ret
    rw [HE.out]
    exact ⟨rfl, HB.out⟩
theorem specTermSize (s : ByteArray) (w : World) (hs : s.size ≤ maxLen) :
    Calls Tryd.prog 36 #[.string s] w fun e w' => e = .returned (.int .i64 (termSize s.data.toList : Int)) ∧ Below w.heap.size w w' := by
  have f1 := Lib.hid (specL06All s w hs)
  go_enter Tryd.func36, Tryd.ntmps36
  go_wp2_with fail
  (with_reducible refine f1.out.mono ?_); rintro e w1 ⟨v, ns, rfl, hr, hb, _, (⟨t, ht, hn, hp⟩ | ⟨hno, rfl⟩)⟩
  · obtain ⟨la, lc, rfl⟩ := own_sliceN hr
    have HE : Hid (termSize s.data.toList = ns.length) := by rw [Hid, termSize, termOf_some ht, hn]
    have HB := Lib.hid hb
    clear hr ht hn hp hb f1
    go_wp2
    go_ret
    rw [HE.out]
    exact ⟨rfl, HB.out⟩
  · obtain ⟨la, lc, rfl⟩ := own_sliceN hr
    have HE : Hid (termSize s.data.toList = 0) := by rw [Hid, termSize, termOf_none hno]
    have HB := Lib.hid hb
    clear hr hno hb f1
    go_wp2
    go_ret
    rw [HE.out]
    exact ⟨rfl, HB.out⟩
theorem termOk_len {l : List UInt8} (h : termOk l = true) : 1 ≤ l.length := by
  unfold termOk at h
  cases ht : termOf l with
  | none => rw [ht] at h; cases h
  | some t =>
    have := (termOf_is ht).2.1
    have := t.bytes_pos
    rw [← (termOf_is ht).2.1]
    omega
theorem specTermKind (s : ByteArray) (w : World) (hs : s.size ≤ maxLen) :
    Calls Tryd.prog 31 #[.string s] w fun e w' => e = .returned (.string ⟨(termKind s.data.toList).toArray⟩) ∧ Below w.heap.size w w' := by
  have f1 := Lib.hid (specTermOk s w hs)
  have hls : s.data.toList.length = s.size := rfl
  unfold maxLen at hs
  by_cases h : termOk s.data.toList = true
  · have h1 := termOk_len h
    rw [hls] at h1
    have HE : Hid ((⟨(termKind s.data.toList).toArray⟩ : ByteArray) = s.extract 0 1) := by
      rw [Hid, termKind, if_pos h]
      have := ext_str s 0 1
      rw [List.drop_zero, Nat.zero_add] at this
      exact this
    rw [h] at f1
    clear h hls
    go_enter Tryd.func31, Tryd.ntmps31
    go_wp2_with fail
    (with_reducible refine f1.out.mono ?_); rintro e w1 ⟨rfl, hb⟩
    go_wp2
    go_ret
    rw [HE.out]
    exact ⟨rfl, hb⟩
  · have HE : Hid (termKind s.data.toList = []) := by rw [Hid, termKind, if_neg h]
    rw [Bool.not_eq_true] at h
    rw [h] at f1
    clear h hls
    go_enter Tryd.func31, Tryd.ntmps31
    go_wp2_with fail
    (with_reducible refine f1.out.mono ?_); rintro e w1 ⟨rfl, hb⟩
    go_wp2
    go_ret
    rw [HE.out]
    exact ⟨rfl, hb⟩

theorem lawTermOk (s : ByteArray) (w : World) (hm : s.size ≤ maxLen)
    (hI : s.size ≤ 1048576 → ∀ W, Below w.heap.size w W → Calls Tryd.prog 22 #[.string s] W fun e w' => e = .returned (.bool (termOk s.data.toList)) ∧ Below W.heap.size W w') :
    Calls Tryd.prog 5 #[.string s] w fun e w' => e = .returned (.bool true) ∧ Below w.heap.size w w' := by
  by_cases h1 : s.size ≤ 1048576
  · have d1 : decide ((1048576 : Int) < (s.size : Int)) = false := decide_eq_false (by omega)
    have f1 := Lib.hid fun W => specTermOk s W hm
    have f2 := Lib.hid (hI h1)
    clear hI
    generalize termOk s.data.toList = r at f1 f2
    go_enter Tryd.func5, Tryd.ntmps5
    go_wp2_with fail
    (with_reducible refine (f1.out _).mono ?_); rintro e w1 ⟨rfl, hb1⟩
    go_wp2_with fail
    (with_reducible refine (f2.out _ hb1).mono ?_); rintro e w2 ⟨rfl, hb2⟩
    go_wp2
    go_ret
    exact ⟨rfl, hb1.trans (hb2.mono hb1.size)⟩
  · have d1 : decide ((1048576 : Int) < (s.size : Int)) = true := decide_eq_true (by omega)
    clear hI
    unfold maxLen at hm
    go_enter Tryd.func5, Tryd.ntmps5
    go_wp2
    go_ret
    exact ⟨rfl, Below.refl _ _⟩

theorem lawTermSize (s : ByteArray) (w : World) (hm : s.size ≤ maxLen)
    (hI : s.size ≤ 1048576 → ∀ W, Below w.heap.size w W → Calls Tryd.prog 19 #[.string s] W fun e w' => e = .returned (.int .i64 (termSize s.data.toList : Int)) ∧ Below W.heap.size W w') :
    Calls Tryd.prog 8 #[.string s] w fun e w' => e = .returned (.bool true) ∧ Below w.heap.size w w' := by
  by_cases h1 : s.size ≤ 1048576
  · have d1 : decide ((1048576 : Int) < (s.size : Int)) = false := decide_eq_false (by omega)
    have f1 := Lib.hid fun W => specTermSize s W hm
    have f2 := Lib.hid (hI h1)
    clear hI
    generalize termSize s.data.toList = r at f1 f2
    go_enter Tryd.func8, Tryd.ntmps8
    go_wp2_with fail
    (with_reducible refine (f1.out _).mono ?_); rintro e w1 ⟨rfl, hb1⟩
    go_wp2_with fail
    (with_reducible refine (f2.out _ hb1).mono ?_); rintro e w2 ⟨rfl, hb2⟩
    go_wp2
    go_ret
    exact ⟨rfl, hb1.trans (hb2.mono hb1.size)⟩
  · have d1 : decide ((1048576 : Int) < (s.size : Int)) = true := decide_eq_true (by omega)
    clear hI
    unfold maxLen at hm
    go_enter Tryd.func8, Tryd.ntmps8
    go_wp2
    go_ret
    exact ⟨rfl, Below.refl _ _⟩

theorem lawTermKind (s : ByteArray) (w : World) (hm : s.size ≤ maxLen)
    (hI : s.size ≤ 1048576 → ∀ W, Below w.heap.size w W → Calls Tryd.prog 17 #[.string s] W fun e w' => e = .returned (.string ⟨(termKind s.data.toList).toArray⟩) ∧ Below W.heap.size W w') :
    Calls Tryd.prog 6 #[.string s] w fun e w' => e = .returned (.bool true) ∧ Below w.heap.size w w' := by
  by_cases h1 : s.size ≤ 1048576
  · have d1 : decide ((1048576 : Int) < (s.size : Int)) = false := decide_eq_false (by omega)
    have f1 := Lib.hid fun W => specTermKind s W hm
    have f2 := Lib.hid (hI h1)
    clear hI
    generalize termKind s.data.toList = r at f1 f2
    go_enter Tryd.func6, Tryd.ntmps6
    go_wp2_with fail
    (with_reducible refine (f1.out _).mono ?_); rintro e w1 ⟨rfl, hb1⟩
    go_wp2_with fail
    (with_reducible refine (f2.out _ hb1).mono ?_); rintro e w2 ⟨rfl, hb2⟩
    go_wp2
    go_ret
    exact ⟨rfl, hb1.trans (hb2.mono hb1.size)⟩
  · have d1 : decide ((1048576 : Int) < (s.size : Int)) = true := decide_eq_true (by omega)
    clear hI
    unfold maxLen at hm
    go_enter Tryd.func6, Tryd.ntmps6
    go_wp2
    go_ret
    exact ⟨rfl, Below.refl _ _⟩
end Go.Proofs.YtnklajagefedmaaDoor
