/- Parts. -/
import Derived.Test.YtpnbhddmdfcjdaaGreatK06
import Derived.Deep.RegionHeld3
import Derived.Deep.Draws
import Derived.Deep.DeepCutAuto
set_option maxRecDepth 100000

