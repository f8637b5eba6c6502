/- What plain and Same return; no statement of the seat is proved here. -/
import Derived.Test.YtgjgkpnjchflaaaGreatDoorS17
import Derived.Test.YtgjgkpnjchflaaaGreatDoorS20
set_option maxHeartbeats 16000000
set_option maxRecDepth 20000
namespace Go.Proofs.YtgjgkpnjchflaaaGreatDoor
namespace Jrn
open Go.RowKit
def rv:List (Int×Option Addr×Nat×Nat)→List Value
 | []=>[]
 | r::l=>.int .i64 r.1::.slice r.2.1 r.2.2.1 r.2.2.2::rv l
theorem rv_length(l:List (Int×Option Addr×Nat×Nat)):(rv l).length=l.length*2:=by
 induction l with
 | nil=>rfl
 | cons r l ih=>simp [rv,ih];omega
theorem rv_append(l m:List (Int×Option Addr×Nat×Nat)):rv (l++m)=rv l++rv m:=by
 induction l with
 | nil=>rfl
 | cons r l ih=>simp [rv,ih]
end Jrn
end Go.Proofs.YtgjgkpnjchflaaaGreatDoor
