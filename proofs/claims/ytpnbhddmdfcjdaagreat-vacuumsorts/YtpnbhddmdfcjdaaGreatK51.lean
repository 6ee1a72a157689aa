/- Parts. -/
import Derived.Test.YtpnbhddmdfcjdaaGreatK39
set_option maxRecDepth 100000

