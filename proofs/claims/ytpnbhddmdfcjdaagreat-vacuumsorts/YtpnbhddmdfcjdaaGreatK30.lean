/- Parts. -/
import Derived.Test.YtpnbhddmdfcjdaaGreatK28
import Derived.Test.YtpnbhddmdfcjdaaGreatK29
set_option maxRecDepth 100000

