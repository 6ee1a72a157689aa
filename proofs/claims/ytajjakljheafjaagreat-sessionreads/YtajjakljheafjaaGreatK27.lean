/- Parts. -/
import Derived.Test.YtajjakljheafjaaGreatK17
set_option maxRecDepth 100000

