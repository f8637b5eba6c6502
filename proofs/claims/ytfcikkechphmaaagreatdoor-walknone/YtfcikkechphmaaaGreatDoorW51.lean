/- A fact about the program's own text that the card of WalkNone asks; no statement of the seat is proved here. -/
import Derived.Test.YtfcikkechphmaaaGreatDoorRows
import Derived.SevenTiedAt
set_option maxHeartbeats 16000000
set_option maxRecDepth 20000
namespace Go.Proofs.YtfcikkechphmaaaGreatDoor
section
theorem walkNone_goes:false=Rows.walkNoneRow.goesBy Tryz.prog:=by kernel_rfl
end
end Go.Proofs.YtfcikkechphmaaaGreatDoor
