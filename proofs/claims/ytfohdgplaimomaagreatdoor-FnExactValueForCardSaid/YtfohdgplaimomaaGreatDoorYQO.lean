/- OpenD OpenL QOpen -/
import Derived.Deep.Slices
import Derived.Deep.Fields
import Derived.ChangeSame
import Derived.ChangeMaps5
import Derived.Lib.SmallJoins
import Derived.Test.YtfohdgplaimomaaGreatDoorYA6
import Derived.Test.YtfohdgplaimomaaGreatDoorYQA
import Derived.Test.YtfohdgplaimomaaGreatDoorYQB
set_option maxRecDepth 100000
set_option maxHeartbeats 16000000
set_option linter.unusedSimpArgs false
set_option linter.unusedVariables false
