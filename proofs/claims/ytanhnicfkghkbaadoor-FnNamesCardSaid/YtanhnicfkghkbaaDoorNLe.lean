/-
  A name is short.
-/
import Derived.Test.YtanhnicfkghkbaaDoorNWalks2
namespace Go.Proofs.YtanhnicfkghkbaaDoor
set_option maxRecDepth 100000
open Go.ChangeShapes Go.WideShapes Go.ChangeAt Go.RowKit

theorem nameOk_le {l : List UInt8} (h : nameOk l = true) : l.length ≤ 40 := by
  simp only [nameOk, Bool.and_eq_true, decide_eq_true_eq] at h
  exact h.1.1
end Go.Proofs.YtanhnicfkghkbaaDoor
