/- Parts. -/
import Derived.Test.YtajjakljheafjaaGreatK27
set_option maxRecDepth 100000

