/- Parts. -/
import Derived.Test.YtpnbhddmdfcjdaaGreatK17
set_option maxRecDepth 100000

