/-
  The contract of spec.NameIn.
-/
import Derived.Test.YtanhnicfkghkbaaDoorInP
namespace Go.Proofs.YtanhnicfkghkbaaDoor
set_option maxRecDepth 100000
open Go.ChangeShapes Go.WideShapes Go.ChangeAt Go.RowKit
set_option linter.unusedSimpArgs false
set_option linter.unusedVariables false

end Go.Proofs.YtanhnicfkghkbaaDoor
