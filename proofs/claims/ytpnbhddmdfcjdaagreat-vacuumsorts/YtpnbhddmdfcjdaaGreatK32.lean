/- Parts. -/
import Derived.Test.YtpnbhddmdfcjdaaGreatK26
import Derived.Test.YtpnbhddmdfcjdaaGreatK30
set_option maxRecDepth 100000

