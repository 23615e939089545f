/- TLeafC -/
import Derived.StillTailTactics
import Derived.Test.YtgonemalnljabaaGreatDoorVA3
set_option maxRecDepth 100000
set_option maxHeartbeats 16000000
set_option linter.unusedSimpArgs false
set_option linter.unusedVariables false
