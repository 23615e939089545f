/-
  The laws of HeadOf and Target from the contracts of the model's and the program's functions (the program's handed in as hypotheses).
-/
import Derived.Test.YtgmjbdndffdpoaaDoorEHead
namespace Go.Proofs.YtgmjbdndffdpoaaDoor
set_option maxRecDepth 100000
open Go.ChangeShapes Go.WideShapes Go.ChangeAt Go.RowKit
set_option linter.unusedSimpArgs false

theorem lawHeadOf (s : ByteArray) (w : World) (hm : s.size ≤ maxLen)
    (hI : s.size ≤ 1048576 → ∀ W, Below w.heap.size w W → Calls Tryd.prog 10 #[.string s] W fun e w' => e = .returned (.string ⟨(headOf s.data.toList).toArray⟩) ∧ Below W.heap.size W w') :
    Calls Tryd.prog 3 #[.string s] w fun e w' => e = .returned (.bool true) ∧ Below w.heap.size w w' := by
  by_cases h1 : s.size ≤ 1048576
  · have d1 : decide ((1048576 : Int) < (s.size : Int)) = false := decide_eq_false (by omega)
    have f1 := Lib.hid fun W => specHeadOf s W hm
    have f2 := Lib.hid (hI h1)
    clear hI
    generalize headOf s.data.toList = r at f1 f2
    go_enter Tryd.func3, Tryd.ntmps3
    go_wp2_with fail
    (with_reducible refine (f1.out _).mono ?_); rintro e w1 ⟨rfl, hb1⟩
    go_wp2_with fail
    (with_reducible refine (f2.out _ hb1).mono ?_); rintro e w2 ⟨rfl, hb2⟩
    go_wp2
    go_ret
    exact ⟨rfl, hb1.trans (hb2.mono hb1.size)⟩
  · have d1 : decide ((1048576 : Int) < (s.size : Int)) = true := decide_eq_true (by omega)
    clear hI
    unfold maxLen at hm
    go_enter Tryd.func3, Tryd.ntmps3
    go_wp2
    go_ret
    exact ⟨rfl, Below.refl _ _⟩
theorem lawTarget (s : ByteArray) (w : World) (hm : s.size ≤ maxLen)
    (hI : s.size ≤ 1048576 → ∀ W, Below w.heap.size w W → Calls Tryd.prog 23 #[.string s] W fun e w' => e = .returned (.string ⟨(targetOf s.data.toList).toArray⟩) ∧ Below W.heap.size W w') :
    Calls Tryd.prog 7 #[.string s] w fun e w' => e = .returned (.bool true) ∧ Below w.heap.size w w' := by
  by_cases h1 : s.size ≤ 1048576
  · have d1 : decide ((1048576 : Int) < (s.size : Int)) = false := decide_eq_false (by omega)
    have f1 := Lib.hid fun W => specTarget s W hm
    have f2 := Lib.hid (hI h1)
    clear hI
    generalize targetOf s.data.toList = r at f1 f2
    go_enter Tryd.func7, Tryd.ntmps7
    go_wp2_with fail
    (with_reducible refine (f1.out _).mono ?_); rintro e w1 ⟨rfl, hb1⟩
    go_wp2_with fail
    (with_reducible refine (f2.out _ hb1).mono ?_); rintro e w2 ⟨rfl, hb2⟩
    go_wp2
    go_ret
    exact ⟨rfl, hb1.trans (hb2.mono hb1.size)⟩
  · have d1 : decide ((1048576 : Int) < (s.size : Int)) = true := decide_eq_true (by omega)
    clear hI
    unfold maxLen at hm
    go_enter Tryd.func7, Tryd.ntmps7
    go_wp2
    go_ret
    exact ⟨rfl, Below.refl _ _⟩
end Go.Proofs.YtgmjbdndffdpoaaDoor
