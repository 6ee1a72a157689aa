/- Parts. -/
import Derived.Test.YtpnbhddmdfcjdaaGreatK06
set_option maxRecDepth 100000

