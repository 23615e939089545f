/- JCt JRo JArg JSh ULeA JLg -/
import Derived.Laws.Cover1
import Derived.Test.YtgonemalnljabaaGreatDoorXE1
import Derived.Test.YtgonemalnljabaaGreatDoorXG2
import Derived.Test.YtgonemalnljabaaGreatDoorXE3
import Derived.Test.YtgonemalnljabaaGreatDoorXG1
import Derived.Test.YtgonemalnljabaaGreatDoorXG3
import Derived.Test.YtgonemalnljabaaGreatDoorXJ0
set_option maxRecDepth 100000
set_option maxHeartbeats 16000000
set_option linter.unusedSimpArgs false
set_option linter.unusedVariables false
