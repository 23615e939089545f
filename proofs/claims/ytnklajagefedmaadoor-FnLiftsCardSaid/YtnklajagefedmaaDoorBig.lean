/-
  The contract of laws.big.
-/
import Derived.Test.YtnklajagefedmaaDoorDr1
namespace Go.Proofs.YtnklajagefedmaaDoor
set_option maxRecDepth 100000
open Go.ChangeShapes Go.WideShapes Go.ChangeAt Go.RowKit
set_option linter.unusedSimpArgs false

theorem CameB.below {w w' : World} {v : Value} {l : List UInt8} (h : CameB w v l) (hb : Below w.heap.size w w') : CameB w' v l := by
  obtain ⟨a0, cap, b, off, h1, h2, h3⟩ := h
  refine ⟨a0, cap, b, off, h1, fun h0 => ⟨(h2 h0).1, Nat.lt_of_lt_of_le (h2 h0).2 hb.size⟩, fun j hj => ?_⟩
  rw [hb.cell (p := ⟨b, off + j, none⟩) (h2 (by omega)).2]
  exact h3 j hj
theorem bigB {w : World} {v : Value} {l : List UInt8} (hl : CameB w v l) (hm : l.length ≤ maxLen) :
    Calls Tryd.prog 13 #[v] w fun e w' => e = .returned (.bool (decide (1048576 < l.length))) ∧ w' = w := by
  obtain ⟨a0, cap, _, _, rfl, _⟩ := hl
  unfold maxLen at hm
  by_cases h : 1048576 < l.length
  · have d1 : decide ((1048576 : Int) < (l.length : Int)) = true := decide_eq_true (by omega)
    have HE : Hid (decide (1048576 < l.length) = true) := decide_eq_true h
    go_enter Tryd.func13, Tryd.ntmps13
    go_wp2
    go_ret
    rw [HE.out]
    exact ⟨rfl, rfl⟩
  · have d1 : decide ((1048576 : Int) < (l.length : Int)) = false := decide_eq_false (by omega)
    have HE : Hid (decide (1048576 < l.length) = false) := decide_eq_false h
    go_enter Tryd.func13, Tryd.ntmps13
    go_wp2
    go_ret
    rw [HE.out]
    exact ⟨rfl, rfl⟩
end Go.Proofs.YtnklajagefedmaaDoor
