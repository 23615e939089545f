/- GData GOk GSelf -/
import Derived.Laws.Cover1
import Derived.Deep.RegionHeld3
import Derived.Test.YtgonemalnljabaaGreatDoorXP5
import Derived.Test.YtgonemalnljabaaGreatDoorXG3
import Derived.Test.YtgonemalnljabaaGreatDoorXG1
import Derived.Test.YtgonemalnljabaaGreatDoorXA1
set_option maxRecDepth 100000
set_option maxHeartbeats 16000000
set_option linter.unusedSimpArgs false
set_option linter.unusedVariables false
