/- Part. -/
import Derived.Deep.RegionLaw
import Derived.Test.YtbicgjafjjihdaaGreatZ37
set_option maxHeartbeats 16000000
set_option maxRecDepth 100000
namespace Go.Proofs.YtbicgjafjjihdaaGreat
end Go.Proofs.YtbicgjafjjihdaaGreat
