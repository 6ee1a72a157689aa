/- Parts. -/
import Derived.Test.YtpnbhddmdfcjdaaGreatK27
import Derived.Test.YtpnbhddmdfcjdaaGreatK36
import Derived.Test.YtpnbhddmdfcjdaaGreatK32
import Derived.Test.YtpnbhddmdfcjdaaGreatK33
set_option maxRecDepth 100000

