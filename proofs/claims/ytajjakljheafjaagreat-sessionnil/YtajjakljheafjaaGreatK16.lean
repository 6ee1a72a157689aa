/- Parts. -/
import Derived.Test.YtajjakljheafjaaGreatK15
set_option maxRecDepth 100000

