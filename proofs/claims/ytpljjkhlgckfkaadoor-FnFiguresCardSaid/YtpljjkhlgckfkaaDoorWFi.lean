/-
  The walk of laws.FnFigures (it stands in FigL), and how a list of bytes that came is opened.
-/
import Derived.Test.YtpljjkhlgckfkaaDoorFigL
import Derived.Test.YtpljjkhlgckfkaaDoorOpenB
