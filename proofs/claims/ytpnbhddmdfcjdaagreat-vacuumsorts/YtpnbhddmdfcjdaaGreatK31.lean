/- Parts. -/
import Derived.Test.YtpnbhddmdfcjdaaGreatK25
import Derived.Test.YtpnbhddmdfcjdaaGreatK30
set_option maxRecDepth 100000

