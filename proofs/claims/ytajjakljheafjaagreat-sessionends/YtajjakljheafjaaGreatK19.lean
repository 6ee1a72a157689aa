/- Parts. -/
import Derived.Test.YtajjakljheafjaaGreatK07
set_option maxRecDepth 100000

