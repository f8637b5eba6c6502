/- A disk in plain words: what writes and a loss of power leave at each place, and rows of steps. No statement of the seat is proved here. -/
import Derived.Test.YtfcikkechphmaaaGreatDoorW34
set_option maxHeartbeats 16000000
set_option maxRecDepth 20000
namespace Go.Proofs.YtfcikkechphmaaaGreatDoor
section
open Go.RowKit Go.Maps
open Dsk (DS FS Sec Stay noughts was idx mem_idx idx_lt idx_rising crash1 crashN sureF crashF crashS n_le next_t crash1_len crashS_facts crashF_len sureF_ok crashF_ok disarmD crashD clip clip_le opsD tickD fullD known wr1 wrN wrN_ok writeD syncD cutF cutD lenD)
structure Env (arm:Prop) (room:Nat) (d:DS):Prop where
 on:d.off=false
 lf:¬arm→d.left=0
 rm:d.room=room
 sum:d.f0.now.length+d.f1.now.length≤d.room
end
section
open Go.RowKit Go.Maps
open Dsk (DS FS Sec Stay noughts was idx mem_idx idx_lt idx_rising crash1 crashN sureF crashF crashS n_le next_t crash1_len crashS_facts crashF_len sureF_ok crashF_ok disarmD crashD clip clip_le opsD tickD fullD known wr1 wrN wrN_ok writeD syncD cutF cutD lenD)
structure Sured (d:DS) (A:List Pg):Prop where
 f0:d.f0=sureF (secsOf A)
 f1:d.f1=sureF []
end
section
open Go.RowKit Go.Maps
open Dsk (DS FS Sec Stay noughts was idx mem_idx idx_lt idx_rising crash1 crashN sureF crashF crashS n_le next_t crash1_len crashS_facts crashF_len sureF_ok crashF_ok disarmD crashD clip clip_le opsD tickD fullD known wr1 wrN wrN_ok writeD syncD cutF cutD lenD)
end
end Go.Proofs.YtfcikkechphmaaaGreatDoor
