/-
  The contract of laws.big.
-/
import Derived.Test.YtanhnicfkghkbaaDoorDr1P
namespace Go.Proofs.YtanhnicfkghkbaaDoor
set_option maxRecDepth 100000
open Go.ChangeShapes Go.WideShapes Go.ChangeAt Go.RowKit
set_option linter.unusedSimpArgs false

theorem bigB {w : World} {v : Value} {l : List UInt8} (hl : CameB w v l) (hm : l.length ≤ maxLen) :
    Calls Tryd.prog 4 #[v] w fun e w' => e = .returned (.bool (decide (1048576 < l.length))) ∧ w' = w := by
  obtain ⟨a0, cap, _, _, rfl, _⟩ := hl
  unfold maxLen at hm
  by_cases h : 1048576 < l.length
  · have d1 : decide ((1048576 : Int) < (l.length : Int)) = true := decide_eq_true (by omega)
    have HE : Hid (decide (1048576 < l.length) = true) := decide_eq_true h
    go_enter Tryd.func4, Tryd.ntmps4
    go_wp2
    go_ret
    rw [HE.out]
    exact ⟨rfl, rfl⟩
  · have d1 : decide ((1048576 : Int) < (l.length : Int)) = false := decide_eq_false (by omega)
    have HE : Hid (decide (1048576 < l.length) = false) := decide_eq_false h
    go_enter Tryd.func4, Tryd.ntmps4
    go_wp2
    go_ret
    rw [HE.out]
    exact ⟨rfl, rfl⟩
end Go.Proofs.YtanhnicfkghkbaaDoor
