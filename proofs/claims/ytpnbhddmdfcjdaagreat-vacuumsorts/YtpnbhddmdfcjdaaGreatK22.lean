/- Parts. -/
import Derived.Test.YtpnbhddmdfcjdaaGreatK14
import Derived.Test.YtpnbhddmdfcjdaaGreatK16
import Derived.Deep.DeepAppendRoom
set_option maxRecDepth 100000

