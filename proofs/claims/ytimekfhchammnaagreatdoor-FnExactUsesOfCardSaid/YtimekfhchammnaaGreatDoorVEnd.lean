/-
  Contracts of spec.l01In and LevelOk.
-/
import Derived.Test.YtimekfhchammnaaGreatDoorVEndM
namespace Go.Proofs.YtimekfhchammnaaGreatDoor
set_option maxRecDepth 100000
open Go.ChangeShapes Go.WideShapes Go.ChangeAt Go.RowKit
set_option linter.unusedSimpArgs false

theorem specLevelOk (s : ByteArray) (w : World) (hs : s.size ≤ maxLen) :
    Calls Tryz.prog 99 #[.string s] w fun e w' => e = .returned (.bool (levelOk s.data.toList)) ∧ w' = w := by
  have hls : s.data.toList.length = s.size := rfl
  unfold maxLen at hs
  by_cases h1 : s.size ≤ 60
  · have d1 : decide ((s.size : Int) ≤ 60) = true := decide_eq_true (by omega)
    have f1 : Hid (∀ W, Calls Tryz.prog 116 #[.string s, .int .i64 0] W fun e w' => e = .returned (.int .i64 (endV (runE s.data.toList 1 0))) ∧ w' = W) := fun W => specL04End s 0 W (by omega) (by omega)
    have HE := Lib.hid (endV_ok (l := s.data.toList) (by omega))
    rw [hls] at HE
    clear hls
    generalize endV (runE s.data.toList 1 0) = r at f1 HE
    go_enter Tryz.func99, Tryz.ntmps99
    go_wp2_with fail
    (with_reducible refine (f1.out _).mono ?_); rintro e w1 ⟨rfl, rfl⟩
    go_wp2
    go_ret
    rw [← HE.out]
    exact ⟨rfl, rfl⟩
  · have d1 : decide ((s.size : Int) ≤ 60) = false := decide_eq_false (by omega)
    have HE : Hid (levelOk s.data.toList = false) := by rw [Hid, levelOk, hls, decide_eq_false h1]; rfl
    clear hls
    go_enter Tryz.func99, Tryz.ntmps99
    go_wp2
    go_ret
    rw [HE.out]
    exact ⟨rfl, rfl⟩
end Go.Proofs.YtimekfhchammnaaGreatDoor
