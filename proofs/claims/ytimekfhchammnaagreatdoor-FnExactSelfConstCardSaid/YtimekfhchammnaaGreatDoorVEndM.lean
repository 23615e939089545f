/-
  Where a level ends, as a reader finds it: plain lemmas.
-/
import Derived.Test.YtimekfhchammnaaGreatDoorV4
namespace Go.Proofs.YtimekfhchammnaaGreatDoor
set_option maxRecDepth 100000
open Go.ChangeShapes Go.WideShapes Go.ChangeAt Go.RowKit
set_option linter.unusedSimpArgs false

theorem endV_ok {l : List UInt8} (h : l.length ≤ 60) : ((endV (runE l 1 0)) == (l.length : Int)) = levelOk l := by
  rw [levelOk, decide_eq_true h, Bool.true_and, runE, List.drop_zero]
  cases hr : lend 1 l with
  | none => simp [endV]
  | some k =>
    have e : ((k : Int) == (l.length : Int)) = decide (some k = some l.length) := by
      by_cases hk : k = l.length
      · simp [hk]
      · have h2 : ¬ ((k : Int) = (l.length : Int)) := by omega
        simp [hk, h2]
    simpa [endV] using e
theorem levelEnd_in {l : List UInt8} {a : Nat} (h1 : l.length ≤ 10000) (h2 : a ≤ l.length) : levelEnd l (a : Int) = endV (runE l 1 a) := by
  rw [levelEnd, if_neg (by omega), runE]
  simp only [Int.toNat_natCast]
  cases lend 1 (l.drop a) with
  | none => rfl
  | some k => simp [endV]; omega
end Go.Proofs.YtimekfhchammnaaGreatDoor
