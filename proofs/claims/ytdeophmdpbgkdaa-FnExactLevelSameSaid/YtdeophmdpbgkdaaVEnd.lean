/-
  Contracts of spec.l01In and LevelOk.
-/
import Derived.Test.YtdeophmdpbgkdaaV4
namespace Go.Proofs.Ytdeophmdpbgkdaa
set_option maxRecDepth 100000
open Go.ChangeShapes Go.WideShapes Go.ChangeAt Go.RowKit
set_option linter.unusedSimpArgs false

theorem specInV (x lo hi : Int) (w : World) :
    Calls Try.prog 48 #[.int .i64 x, .int .i64 lo, .int .i64 hi] w fun e w' => e = .returned (.bool (decide (lo ≤ x) && decide (x ≤ hi))) ∧ w' = w := by
  by_cases h1 : lo ≤ x
  · have d1 : decide (lo ≤ x) = true := decide_eq_true h1
    by_cases h2 : x ≤ hi
    · have d2 : decide (x ≤ hi) = true := decide_eq_true h2
      go_enter Try.func48, Try.ntmps48
      go_wp2
      go_ret
      exact ⟨by simp [d1, d2], rfl⟩
    · have d2 : decide (x ≤ hi) = false := decide_eq_false h2
      go_enter Try.func48, Try.ntmps48
      go_wp2
      go_ret
      exact ⟨by simp [d1, d2], rfl⟩
  · have d1 : decide (lo ≤ x) = false := decide_eq_false h1
    go_enter Try.func48, Try.ntmps48
    go_wp2
    go_ret
    exact ⟨by simp [d1], rfl⟩

theorem endV_ok {l : List UInt8} (h : l.length ≤ 60) : ((endV (runE l 1 0)) == (l.length : Int)) = levelOk l := by
  rw [levelOk, decide_eq_true h, Bool.true_and, runE, List.drop_zero]
  cases hr : lend 1 l with
  | none => simp [endV]
  | some k =>
    have e : ((k : Int) == (l.length : Int)) = decide (some k = some l.length) := by
      by_cases hk : k = l.length
      · simp [hk]
      · have h2 : ¬ ((k : Int) = (l.length : Int)) := by omega
        simp [hk, h2]
    simpa [endV] using e
theorem specLevelOk (s : ByteArray) (w : World) (hs : s.size ≤ maxLen) :
    Calls Try.prog 40 #[.string s] w fun e w' => e = .returned (.bool (levelOk s.data.toList)) ∧ w' = w := by
  have hls : s.data.toList.length = s.size := rfl
  unfold maxLen at hs
  by_cases h1 : s.size ≤ 60
  · have d1 : decide ((s.size : Int) ≤ 60) = true := decide_eq_true (by omega)
    have f1 : Hid (∀ W, Calls Try.prog 59 #[.string s, .int .i64 0] W fun e w' => e = .returned (.int .i64 (endV (runE s.data.toList 1 0))) ∧ w' = W) := fun W => specL04End s 0 W (by omega) (by omega)
    have HE := Lib.hid (endV_ok (l := s.data.toList) (by omega))
    rw [hls] at HE
    clear hls
    generalize endV (runE s.data.toList 1 0) = r at f1 HE
    go_enter Try.func40, Try.ntmps40
    go_wp2_with fail
    (with_reducible refine (f1.out _).mono ?_); rintro e w1 ⟨rfl, rfl⟩
    go_wp2
    go_ret
    rw [← HE.out]
    exact ⟨rfl, rfl⟩
  · have d1 : decide ((s.size : Int) ≤ 60) = false := decide_eq_false (by omega)
    have HE : Hid (levelOk s.data.toList = false) := by rw [Hid, levelOk, hls, decide_eq_false h1]; rfl
    clear hls
    go_enter Try.func40, Try.ntmps40
    go_wp2
    go_ret
    rw [HE.out]
    exact ⟨rfl, rfl⟩
theorem levelEnd_in {l : List UInt8} {a : Nat} (h1 : l.length ≤ 10000) (h2 : a ≤ l.length) : levelEnd l (a : Int) = endV (runE l 1 a) := by
  rw [levelEnd, if_neg (by omega), runE]
  simp only [Int.toNat_natCast]
  cases lend 1 (l.drop a) with
  | none => rfl
  | some k => simp [endV]; omega
end Go.Proofs.Ytdeophmdpbgkdaa
