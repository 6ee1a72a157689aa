/- Parts. -/
import Derived.Test.YtajjakljheafjaaGreatK28
import Derived.Test.YtajjakljheafjaaGreatK18
set_option maxRecDepth 100000

