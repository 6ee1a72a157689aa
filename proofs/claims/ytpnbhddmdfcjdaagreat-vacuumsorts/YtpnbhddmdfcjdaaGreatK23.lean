/- Parts. -/
import Derived.Test.YtpnbhddmdfcjdaaGreatK14
set_option maxRecDepth 100000

