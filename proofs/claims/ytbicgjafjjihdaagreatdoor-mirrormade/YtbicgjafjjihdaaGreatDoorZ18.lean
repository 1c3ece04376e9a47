/- Part. -/
import Derived.Lib.IfaceNeq
import Derived.Test.YtbicgjafjjihdaaGreatDoorZ15
set_option maxHeartbeats 16000000
set_option maxRecDepth 100000
namespace Go.Proofs.YtbicgjafjjihdaaGreatDoor
end Go.Proofs.YtbicgjafjjihdaaGreatDoor
