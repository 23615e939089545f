/-
  Contract of impl.LevelUps.
-/
import Derived.Test.YtdeophmdpbgkdaaVI1
import Derived.Test.YtdeophmdpbgkdaaVSC
namespace Go.Proofs.Ytdeophmdpbgkdaa
set_option maxRecDepth 100000
open Go.ChangeShapes Go.WideShapes Go.ChangeAt Go.RowKit
set_option linter.unusedSimpArgs false

theorem implLevelUps (s : ByteArray) (w : World) (hs : s.size ≤ maxLen) :
    Calls Try.prog 17 #[.string s] w fun e w' => e = .returned (.int .i64 (levelUps s.data.toList : Int)) ∧ w' = w := by
  have f1 := Lib.hid fun W => implLevelOk s W hs
  have f2 := Lib.hid fun W => Try.strings_Count_one s 43 W
  generalize hc : Lib.countByte s.data.toList 43 = cnt at f2
  unfold maxLen at hs
  by_cases hok : levelOk s.data.toList = true
  · rw [hok] at f1
    have HE : Hid (levelUps s.data.toList = cnt) := (if_pos hok).trans hc
    rw [HE.out]
    clear hok HE hc
    go_enter Try.func17, Try.ntmps17
    go_wp2_with fail
    (with_reducible refine (f1.out _).mono ?_); rintro e w1 ⟨rfl, rfl⟩
    go_wp2_with fail
    (with_reducible refine (f2.out _).mono ?_); rintro e w1 ⟨rfl, rfl⟩
    go_wp2
    go_ret
    exact ⟨rfl, rfl⟩
  · have HE : Hid (levelUps s.data.toList = 0) := if_neg hok
    rw [Bool.not_eq_true] at hok
    rw [hok] at f1
    clear hok
    go_enter Try.func17, Try.ntmps17
    go_wp2_with fail
    (with_reducible refine (f1.out _).mono ?_); rintro e w1 ⟨rfl, rfl⟩
    go_wp2
    go_ret
    rw [HE.out]
    exact ⟨rfl, rfl⟩
end Go.Proofs.Ytdeophmdpbgkdaa
