/- Part. -/
import Derived.Test.YtbicgjafjjihdaaGreatZ9
import Derived.Test.YtbicgjafjjihdaaGreatZ31
set_option maxHeartbeats 16000000
set_option maxRecDepth 100000
namespace Go.Proofs.YtbicgjafjjihdaaGreat
end Go.Proofs.YtbicgjafjjihdaaGreat
