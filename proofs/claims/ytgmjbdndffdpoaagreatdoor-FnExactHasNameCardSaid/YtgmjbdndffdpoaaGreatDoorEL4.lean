/-
  The contract of spec.HasName and the law of HasName.
-/
import Derived.Test.YtgmjbdndffdpoaaGreatDoorEUses
namespace Go.Proofs.YtgmjbdndffdpoaaGreatDoor
set_option maxRecDepth 100000
open Go.ChangeShapes Go.WideShapes Go.ChangeAt Go.RowKit
set_option linter.unusedSimpArgs false
set_option linter.unusedVariables false

theorem specHasName (s y : ByteArray) (w : World) (hs : s.size ≤ maxLen) :
    Calls Tryz.prog 22 #[.string s, .string y] w fun e w' => e = .returned (.bool (inL (usesIn s.data.toList) y.data.toList)) ∧ Below w.heap.size w w' := by
  have f1 := Lib.hid (specUsesIn s w hs)
  have hn := usesIn_len s.data.toList
  generalize usesIn s.data.toList = l at f1 hn
  go_enter Tryz.func22, Tryz.ntmps22
  go_wp2_with fail
  (with_reducible refine f1.out.mono ?_); rintro e w1 ⟨u, rfl, hu, hb⟩
  have f2 : Hid (Calls Tryz.prog 44 #[u, .string y] w1 fun e w' => e = .returned (.bool (inL l y.data.toList)) ∧ w' = w1) := specNameIn hu y.data.toList (by omega)
  have HB := Lib.hid hb
  clear hu hb f1
  go_wp2_with fail
  (with_reducible refine f2.out.mono ?_); rintro e w2 ⟨rfl, rfl⟩
  go_wp2
  go_ret
  exact ⟨rfl, HB.out⟩

theorem lawHasName (s y : ByteArray) (w : World) (hm : s.size ≤ maxLen) (hm2 : y.size ≤ maxLen)
    (hI : s.size ≤ 1048576 → y.size ≤ 1048576 → ∀ W, Below w.heap.size w W → Calls Tryz.prog 17 #[.string s, .string y] W fun e w' => e = .returned (.bool (inL (usesIn s.data.toList) y.data.toList)) ∧ Below W.heap.size W w') :
    Calls Tryz.prog 5 #[.string s, .string y] w fun e w' => e = .returned (.bool true) ∧ Below w.heap.size w w' := by
  have hms := hm
  unfold maxLen at hm hm2
  by_cases h1 : s.size ≤ 1048576
  rotate_left
  · have d1 : decide ((1048576 : Int) < (s.size : Int)) = true := decide_eq_true (by omega)
    clear hI hms
    go_enter Tryz.func5, Tryz.ntmps5
    go_wp2
    go_ret
    exact ⟨rfl, Below.refl _ _⟩
  have d1 : decide ((1048576 : Int) < (s.size : Int)) = false := decide_eq_false (by omega)
  by_cases h2 : y.size ≤ 1048576
  rotate_left
  · have d2 : decide ((1048576 : Int) < (y.size : Int)) = true := decide_eq_true (by omega)
    clear hI hms
    go_enter Tryz.func5, Tryz.ntmps5
    go_wp2
    go_ret
    exact ⟨rfl, Below.refl _ _⟩
  have d2 : decide ((1048576 : Int) < (y.size : Int)) = false := decide_eq_false (by omega)
  have fS := Lib.hid (specHasName s y w hms)
  have fI := Lib.hid (hI h1 h2)
  clear hI hms
  generalize inL (usesIn s.data.toList) y.data.toList = b at fS fI
  go_enter Tryz.func5, Tryz.ntmps5
  go_wp2_with fail
  (with_reducible refine fS.out.mono ?_); rintro e w1 ⟨rfl, hb1⟩
  have f2 := Lib.hid (fI.out _ hb1)
  have HB := Lib.hid hb1
  clear fS fI hb1
  go_wp2_with fail
  (with_reducible refine f2.out.mono ?_); rintro e w2 ⟨rfl, hb2⟩
  have HB2 := Lib.hid (HB.out.trans (hb2.mono HB.out.size))
  clear hb2
  have hbb : (b == b) = true := by cases b <;> rfl
  go_wp2
  go_ret
  exact ⟨rfl, HB2.out⟩
end Go.Proofs.YtgmjbdndffdpoaaGreatDoor
