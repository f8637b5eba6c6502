/- What Parse returns; no statement of the seat is proved here. -/
import Derived.Test.YtenajbfeojljdaaGreatDoorV32
import Derived.Test.YtenajbfeojljdaaGreatDoorV17
set_option maxHeartbeats 16000000
set_option maxRecDepth 20000
namespace Go.Proofs.YtenajbfeojljdaaGreatDoor
namespace Jrn
open Go.RowKit
def RowIs(W:World)(g:Nat)(l:List (Int×Option Addr×Nat×Nat)):Prop:=W.heap[g]? = some (.cells (rv l).toArray 275 (0,0))
def zr:Int×Option Addr×Nat×Nat:=(0,none,0,0)
variable {i:Nat}
end Jrn
end Go.Proofs.YtenajbfeojljdaaGreatDoor
