/-
  Contracts of spec.LevelLe, LevelSame, LevelZero and LevelAbove.
-/
import Derived.Test.YtdeophmdpbgkdaaUWit
namespace Go.Proofs.Ytdeophmdpbgkdaa
set_option maxRecDepth 100000
open Go.ChangeShapes Go.WideShapes Go.ChangeAt Go.RowKit
set_option linter.unusedSimpArgs false

theorem specLevelLe (a b : ByteArray) (w : World) (ha : a.size ≤ maxLen) (hb : b.size ≤ maxLen) :
    Calls Try.prog 26 #[.string a, .string b] w fun e w' => e = .returned (.bool (levelLe a.data.toList b.data.toList)) ∧ Below w.heap.size w w' := by
  have f0 := Lib.hid fun W => specLevelWitness a b W ha hb
  have f1 := Lib.hid fun W => specLevelOk a W ha
  have f2 := Lib.hid fun W => specLevelOk b W hb
  have HE : Hid (levelLe a.data.toList b.data.toList = (levelOk a.data.toList && levelOk b.data.toList && !(levelWit a.data.toList b.data.toList).isSome)) := by
    rw [Hid, levelLe]; cases levelWit a.data.toList b.data.toList <;> rfl
  generalize levelLe a.data.toList b.data.toList = r at HE
  generalize levelOk a.data.toList = oa at HE f1
  generalize levelOk b.data.toList = ob at HE f2
  generalize levelWit a.data.toList b.data.toList = rr at HE f0
  go_enter Try.func26, Try.ntmps26
  go_wp2_with fail
  (with_reducible refine (f0.out _).mono ?_); rintro e w1 ⟨u, rfl, _, hb1⟩
  clear f0
  generalize rr.isSome = s at HE
  cases oa
  · go_wp2_with fail
    (with_reducible refine (f1.out _).mono ?_); rintro e w2 ⟨rfl, rfl⟩
    go_wp2
    go_ret
    rw [HE.out]
    exact ⟨rfl, hb1⟩
  cases ob
  · go_wp2_with fail
    (with_reducible refine (f1.out _).mono ?_); rintro e w2 ⟨rfl, rfl⟩
    go_wp2_with fail
    (with_reducible refine (f2.out _).mono ?_); rintro e w2 ⟨rfl, rfl⟩
    go_wp2
    go_ret
    rw [HE.out]
    exact ⟨rfl, hb1⟩
  cases s
  all_goals
    go_wp2_with fail
    (with_reducible refine (f1.out _).mono ?_); rintro e w2 ⟨rfl, rfl⟩
    go_wp2_with fail
    (with_reducible refine (f2.out _).mono ?_); rintro e w2 ⟨rfl, rfl⟩
    go_wp2
    go_ret
    rw [HE.out]
    exact ⟨rfl, hb1⟩
theorem specLevelSame (a b : ByteArray) (w : World) (ha : a.size ≤ maxLen) (hb : b.size ≤ maxLen) :
    Calls Try.prog 27 #[.string a, .string b] w fun e w' => e = .returned (.bool (levelSame a.data.toList b.data.toList)) ∧ Below w.heap.size w w' := by
  have f1 := Lib.hid fun W => specLevelLe a b W ha hb
  have f2 := Lib.hid fun W => specLevelLe b a W hb ha
  have HE : Hid (levelSame a.data.toList b.data.toList = (levelLe a.data.toList b.data.toList && levelLe b.data.toList a.data.toList)) := rfl
  generalize levelSame a.data.toList b.data.toList = r at HE
  generalize levelLe a.data.toList b.data.toList = x at HE f1
  generalize levelLe b.data.toList a.data.toList = y at HE f2
  go_enter Try.func27, Try.ntmps27
  cases x
  · go_wp2_with fail
    (with_reducible refine (f1.out _).mono ?_); rintro e w1 ⟨rfl, hb1⟩
    go_wp2
    go_ret
    rw [HE.out]
    exact ⟨rfl, hb1⟩
  · go_wp2_with fail
    (with_reducible refine (f1.out _).mono ?_); rintro e w1 ⟨rfl, hb1⟩
    go_wp2_with fail
    (with_reducible refine (f2.out _).mono ?_); rintro e w2 ⟨rfl, hb2⟩
    go_wp2
    go_ret
    rw [HE.out]
    exact ⟨rfl, hb1.trans (hb2.mono hb1.size)⟩
theorem specLevelZero (s : ByteArray) (w : World) (hs : s.size ≤ maxLen) :
    Calls Try.prog 28 #[.string s] w fun e w' => e = .returned (.bool (levelLe s.data.toList [122])) ∧ Below w.heap.size w w' := by
  have f1 : Hid (∀ W, Calls Try.prog 26 #[.string s, .string ⟨#[122]⟩] W fun e w' => e = .returned (.bool (levelLe s.data.toList [122])) ∧ Below W.heap.size W w') := fun W => specLevelLe s ⟨#[122]⟩ W hs (by decide)
  generalize levelLe s.data.toList [122] = x at f1
  go_enter Try.func28, Try.ntmps28
  go_wp2_with fail
  (with_reducible refine (f1.out _).mono ?_); rintro e w1 ⟨rfl, hb1⟩
  go_wp2
  go_ret
  exact ⟨rfl, hb1⟩
theorem specLevelAbove (s : ByteArray) (w : World) (hs : s.size ≤ maxLen) :
    Calls Try.prog 29 #[.string s] w fun e w' => e = .returned (.bool (levelLe [43, 122] s.data.toList)) ∧ Below w.heap.size w w' := by
  have f1 : Hid (∀ W, Calls Try.prog 26 #[.string ⟨#[43, 122]⟩, .string s] W fun e w' => e = .returned (.bool (levelLe [43, 122] s.data.toList)) ∧ Below W.heap.size W w') := fun W => specLevelLe ⟨#[43, 122]⟩ s W (by decide) hs
  generalize levelLe [43, 122] s.data.toList = x at f1
  go_enter Try.func29, Try.ntmps29
  go_wp2_with fail
  (with_reducible refine (f1.out _).mono ?_); rintro e w1 ⟨rfl, hb1⟩
  go_wp2
  go_ret
  exact ⟨rfl, hb1⟩
end Go.Proofs.Ytdeophmdpbgkdaa
