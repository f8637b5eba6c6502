/- What Parse returns; no statement of the seat is proved here. -/
import Derived.Test.YtfcikkechphmaaaGreatDoorW30
import Derived.Test.YtfcikkechphmaaaGreatDoorW15
set_option maxHeartbeats 16000000
set_option maxRecDepth 20000
namespace Go.Proofs.YtfcikkechphmaaaGreatDoor
namespace Jrn
open Go.RowKit
end Jrn
end Go.Proofs.YtfcikkechphmaaaGreatDoor
