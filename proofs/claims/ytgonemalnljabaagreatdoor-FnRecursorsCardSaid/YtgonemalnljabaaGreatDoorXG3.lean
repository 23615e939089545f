/- TOkS TOpen TOpenS GSp1 TKindS -/
import Derived.Test.YtgonemalnljabaaGreatDoorXA5
import Derived.Test.YtgonemalnljabaaGreatDoorXF1
import Derived.Test.YtgonemalnljabaaGreatDoorXG1
import Derived.Test.YtgonemalnljabaaGreatDoorXA1
set_option maxRecDepth 100000
set_option maxHeartbeats 16000000
set_option linter.unusedSimpArgs false
set_option linter.unusedVariables false
