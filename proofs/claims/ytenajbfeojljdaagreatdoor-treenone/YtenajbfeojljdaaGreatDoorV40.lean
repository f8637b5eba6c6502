/- A disk in plain words: what writes and a loss of power leave at each place, and rows of steps. No statement of the seat is proved here. -/
import Derived.Test.YtenajbfeojljdaaGreatDoorV36
set_option maxHeartbeats 16000000
set_option maxRecDepth 20000
namespace Go.Proofs.YtenajbfeojljdaaGreatDoor
section
open Go.RowKit Go.Maps
open Dsk (DS FS Sec Stay noughts was idx mem_idx idx_lt idx_rising crash1 crashN sureF crashF crashS n_le next_t crash1_len crashS_facts crashF_len sureF_ok crashF_ok disarmD startD crashD clip clip_le opsD tickD fullD known wr1 wrN wrN_ok writeD syncD cutF cutD lenD)
structure Env (arm:Prop) (room:Nat) (d:DS):Prop where
 on:d.off=false
 lf:¬arm→d.left=0
 rm:d.room=room
 sum:d.f0.now.length+d.f1.now.length≤d.room
def Chain:Nat→List Nat→Prop
 | _,[]=>True
 | n,z::r=>1≤z∧z≤n+1∧Chain (max n z) r
def Has(F:FS)(T:List Pg)(i:Nat):Prop:=∀ j,j<4→i*4+j<F.now.length∧F.now.getD (i*4+j) []=(chunks 4 (T.getD i [])).getD j []
end
section
open Go.RowKit Go.Maps
open Dsk (DS FS Sec Stay noughts was idx mem_idx idx_lt idx_rising crash1 crashN sureF crashF crashS n_le next_t crash1_len crashS_facts crashF_len sureF_ok crashF_ok disarmD startD crashD clip clip_le opsD tickD fullD known wr1 wrN wrN_ok writeD syncD cutF cutD lenD)
structure Sured (d:DS) (A:List Pg):Prop where
 f0:d.f0=sureF (secsOf A)
 f1:d.f1=sureF []
end
section
open Go.RowKit Go.Maps
open Dsk (DS FS Sec Stay noughts was idx mem_idx idx_lt idx_rising crash1 crashN sureF crashF crashS n_le next_t crash1_len crashS_facts crashF_len sureF_ok crashF_ok disarmD startD crashD clip clip_le opsD tickD fullD known wr1 wrN wrN_ok writeD syncD cutF cutD lenD)
end
end Go.Proofs.YtenajbfeojljdaaGreatDoor
