/- What Parse returns; no statement of the seat is proved here. -/
import Derived.Test.YtneemfbnjkcflaaGreatDoorB23
import Derived.Test.YtneemfbnjkcflaaGreatDoorB08
set_option maxHeartbeats 16000000
set_option maxRecDepth 20000
namespace Go.Proofs.YtneemfbnjkcflaaGreatDoor
namespace Jrn
open Go.RowKit
def RowIs(W:World)(g:Nat)(l:List (Int×Option Addr×Nat×Nat)):Prop:=W.heap[g]? = some (.cells (rv l).toArray 172 (0,0))
def zr:Int×Option Addr×Nat×Nat:=(0,none,0,0)
theorem rv_get(l:List (Int×Option Addr×Nat×Nat))(r:Int×Option Addr×Nat×Nat)(m:List (Int×Option Addr×Nat×Nat)):(rv (l++r::m))[l.length*2]? = some (.int .i64 r.1)∧(rv (l++r::m))[l.length*2+1]? = some (.slice r.2.1 r.2.2.1 r.2.2.2):=by
 rw [rv_append]
 constructor
 ·rw [List.getElem?_append_right (by rw [rv_length];omega),rv_length,Nat.sub_self];rfl
 ·rw [List.getElem?_append_right (by rw [rv_length];omega),rv_length,show l.length*2+1 - l.length*2=1 by omega];rfl
variable {i:Nat}
theorem rep_step{C:Nat}(h:i<C):List.replicate (C - i) zr=zr::List.replicate (C - (i+1)) zr:=by
 rw [show C - i=(C - (i+1))+1 by omega,List.replicate_succ]
theorem row_get0{l m:List (Int×Option Addr×Nat×Nat)}(h:i=l.length):(rv (l++zr::m))[i*2]? = some (.int .i64 0):=by rw [h];exact (rv_get l zr m).1
theorem row_get1{l m:List (Int×Option Addr×Nat×Nat)}(h:i=l.length):(rv (l++zr::m))[i*2+1]? = some (.slice none 0 0):=by rw [h];exact (rv_get l zr m).2
end Jrn
end Go.Proofs.YtneemfbnjkcflaaGreatDoor
