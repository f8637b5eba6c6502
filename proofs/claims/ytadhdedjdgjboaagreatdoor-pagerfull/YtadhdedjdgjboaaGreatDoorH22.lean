/- What ReadRecord returns; no statement of the seat is proved here. -/
import Derived.Test.YtadhdedjdgjboaaGreatDoorH17
import Derived.Test.YtadhdedjdgjboaaGreatDoorH20
set_option maxHeartbeats 16000000
set_option maxRecDepth 20000
namespace Go.Proofs.YtadhdedjdgjboaaGreatDoor
namespace Jrn
open Go.RowKit
end Jrn
end Go.Proofs.YtadhdedjdgjboaaGreatDoor
