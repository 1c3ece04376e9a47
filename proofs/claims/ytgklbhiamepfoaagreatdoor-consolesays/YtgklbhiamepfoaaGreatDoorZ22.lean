import Derived.Lib.IfaceNeq
import Derived.Test.YtgklbhiamepfoaaGreatDoorZ19
set_option maxHeartbeats 16000000
set_option maxRecDepth 100000
namespace Go.Proofs.YtgklbhiamepfoaaGreatDoor
open Go.Proofs.Tryz Mx
