/- Parts. -/
import Derived.Test.YtpnbhddmdfcjdaaK22
import Derived.Lib.AppendZeros
set_option maxRecDepth 100000

