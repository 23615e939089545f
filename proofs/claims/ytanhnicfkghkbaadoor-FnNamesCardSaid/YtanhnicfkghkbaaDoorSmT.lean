/-
  The contract of laws.sameTexts at two rows of one list.
-/
import Derived.Test.YtanhnicfkghkbaaDoorListsP
import Derived.BigQuiet
namespace Go.Proofs.YtanhnicfkghkbaaDoor
set_option maxRecDepth 100000
open Go.ChangeShapes Go.WideShapes Go.ChangeAt Go.RowKit
set_option linter.unusedSimpArgs false

/-- Two owned rows of one list of texts are the same. -/
theorem sameTextsS {w : World} {b1 b2 n : Nat} {v1 v2 : Value} {l : List (List UInt8)} (h1 : w.ownsRow b1 9 1 v1 n (l.map sv)) (h2 : w.ownsRow b2 9 1 v2 n (l.map sv)) (hp : 0 < n) (hn : n ≤ 1000000000) :
    Calls Tryd.prog 13 #[v1, v2] w fun e w' => e = .returned (.bool true) ∧ ∃ q, w' = w.drewN q := by
  have hl : l.length = n := by simpa using h1.1
  obtain ⟨g1, c1, rfl, _, _⟩ := h1.form hp
  obtain ⟨g2, c2, rfl, _, _⟩ := h2.form hp
  have d0 : ((n : Int) == (n : Int)) = true := by simp
  go_enter Tryd.func13, Tryd.ntmps13
  go_wp2
  go_loopw [5] (fun i wr => ∃ k q : Nat, k ≤ n ∧ i = .int .i64 k ∧ wr = w.drewN q) (fun i _ => n - (intOf i).toNat)
  case atStart => exact ⟨0, 0, Nat.zero_le _, rfl, rfl⟩
  case round =>
    obtain ⟨k, q, hk, rfl, rfl⟩ := hrel
    by_cases hlt : k < n
    · have e1 := h1.cellAt k (by omega)
      have e2 := h2.cellAt k (by omega)
      have ex : (l.map sv)[k]? = some (sv (l[k]'(by omega))) := by simp [show k < l.length by omega]
      rw [ex] at e1 e2
      generalize l[k]'(by omega) = x at e1 e2
      clear ex h1 h2
      unfold sv at e1 e2
      have q1 : (0 : Int) ≤ (k : Int) := by omega
      have q2 : (k : Int) < (n : Int) := by omega
      go_wp2
      go_quiet (fail)
      go_wp2
      go_roundw
      case rel => exact ⟨k + 1, q + nq, by omega, by go_num, rfl⟩
      case measure => simp [intOf]; omega
    · go_wp2
      go_ret
      exact ⟨rfl, q, rfl⟩
end Go.Proofs.YtanhnicfkghkbaaDoor
