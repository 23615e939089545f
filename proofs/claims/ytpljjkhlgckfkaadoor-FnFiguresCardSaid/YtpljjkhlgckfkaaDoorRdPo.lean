/-
  What ReadDecimal answers.
-/
import Derived.Test.YtpljjkhlgckfkaaDoorRdMath
import Derived.Test.YtpljjkhlgckfkaaDoorBase
namespace Go.Proofs.YtpljjkhlgckfkaaDoor
set_option maxRecDepth 100000
open Go.ChangeShapes Go.WideShapes Go.ChangeAt Go.RowKit

def RdPost (l : List UInt8) (w : World) (e : Ending) (w' : World) : Prop :=
  Below w.heap.size w w' ∧ ((∃ n, IsDec l n ∧ e = .returned (.tuple #[.int .i64 (n : Int), .bool true])) ∨ ((∀ n, ¬ IsDec l n) ∧ e = .returned (.tuple #[.int .i64 0, .bool false])))

end Go.Proofs.YtpljjkhlgckfkaaDoor
