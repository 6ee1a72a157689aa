/- Parts. -/
import Derived.Test.YtajjakljheafjaaGreatK19
import Derived.Lib.AppendZeros
set_option maxRecDepth 100000

