/- ETarg InS EL4S -/
import Derived.Test.YtfohdgplaimomaaGreatDoorYE1
import Derived.Test.YtfohdgplaimomaaGreatDoorYE2
set_option maxRecDepth 100000
set_option maxHeartbeats 16000000
set_option linter.unusedSimpArgs false
set_option linter.unusedVariables false
