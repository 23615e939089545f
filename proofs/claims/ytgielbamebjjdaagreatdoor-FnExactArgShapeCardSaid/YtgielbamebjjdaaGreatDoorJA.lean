/-
  The law of ArgShape from the contracts of the model's and the program's functions (the program's handed in as a hypothesis).
-/
import Derived.Test.YtgielbamebjjdaaGreatDoorJ1
namespace Go.Proofs.YtgielbamebjjdaaGreatDoor
set_option maxRecDepth 100000
open Go.ChangeShapes Go.WideShapes Go.ChangeAt Go.RowKit
set_option linter.unusedSimpArgs false
set_option linter.unusedVariables false

theorem lawArgShape (sf nm dm : ByteArray) (w : World) (h1 : sf.size ≤ maxLen) (h2 : nm.size ≤ maxLen) (h3 : dm.size ≤ maxLen)
    (hI : sf.size ≤ 1048576 → nm.size ≤ 1048576 → dm.size ≤ 1048576 → ∀ W, Below w.heap.size w W → Calls Tryz.prog 31 #[.string sf, .string nm, .string dm] W fun e w' => e = .returned (.int .i64 (argShape sf.data.toList nm.data.toList dm.data.toList)) ∧ Below W.heap.size W w') :
    Calls Tryz.prog 7 #[.string sf, .string nm, .string dm] w fun e w' => e = .returned (.bool true) ∧ Below w.heap.size w w' := by
  unfold maxLen at h1 h2 h3
  by_cases k1 : sf.size ≤ 1048576
  rotate_left
  · have d1 : decide ((1048576 : Int) < (sf.size : Int)) = true := decide_eq_true (by omega)
    clear hI
    go_enter Tryz.func7, Tryz.ntmps7
    go_wp2
    go_ret
    exact ⟨rfl, Below.refl _ _⟩
  have d1 : decide ((1048576 : Int) < (sf.size : Int)) = false := decide_eq_false (by omega)
  by_cases k2 : nm.size ≤ 1048576
  rotate_left
  · have d2 : decide ((1048576 : Int) < (nm.size : Int)) = true := decide_eq_true (by omega)
    clear hI
    go_enter Tryz.func7, Tryz.ntmps7
    go_wp2
    go_ret
    exact ⟨rfl, Below.refl _ _⟩
  have d2 : decide ((1048576 : Int) < (nm.size : Int)) = false := decide_eq_false (by omega)
  by_cases k3 : dm.size ≤ 1048576
  rotate_left
  · have d3 : decide ((1048576 : Int) < (dm.size : Int)) = true := decide_eq_true (by omega)
    clear hI
    go_enter Tryz.func7, Tryz.ntmps7
    go_wp2
    go_ret
    exact ⟨rfl, Below.refl _ _⟩
  have d3 : decide ((1048576 : Int) < (dm.size : Int)) = false := decide_eq_false (by omega)
  have f1 := Lib.hid fun W => specArgShape sf.data.toList nm.data.toList dm.data.toList W (by rw [show dm.data.toList.length = dm.size from rfl]; omega)
  have f2 := Lib.hid (hI k1 k2 k3)
  simp only [show ∀ s : ByteArray, (⟨s.data.toList.toArray⟩ : ByteArray) = s from fun s => rfl] at f1
  clear hI
  generalize argShape sf.data.toList nm.data.toList dm.data.toList = r at f1 f2
  go_enter Tryz.func7, Tryz.ntmps7
  go_wp2_with fail
  (with_reducible refine (f1.out _).mono ?_); rintro e w1 ⟨rfl, hb1⟩
  have HB1 := Lib.hid hb1
  clear hb1
  go_wp2_with fail
  (with_reducible refine (f2.out _ HB1.out).mono ?_); rintro e w2 ⟨rfl, hb2⟩
  have HB2 := Lib.hid (HB1.out.trans (hb2.mono HB1.out.size))
  clear hb2
  go_wp2
  go_ret
  exact ⟨rfl, HB2.out⟩
end Go.Proofs.YtgielbamebjjdaaGreatDoor
