/- A page is given where none is free; no statement of the seat is proved here. -/
import Derived.Test.YtfcikkechphmaaaGreatDoorW40
set_option maxHeartbeats 16000000
set_option maxRecDepth 20000
namespace Go.Proofs.YtfcikkechphmaaaGreatDoor
section
open Go.RowKit Go.Maps
open Dsk (gt hid undrew keep_old keep_cell lt_cell Rd)
open Cch (Fr wpAnyK wpAnyK_done wp_region_K)
open Jrn (Pv2 Row5 numAt RB fr_two trunkN rootN putN nul)
section
variable {arm:Prop} {room croom K:Nat} {p q:Nat} {R:Nat→Prop} {t:RS} {w:World}
def NewR(R:Nat→Prop)(w W:World):Nat→Prop:=fun b=>R b∨(w.heap.size≤b∧b<W.heap.size)
theorem PrgAt.work{W:World}(h:PrgAt arm room croom K w p q R t)(hf:Fr R w W):PrgAt arm room croom K W p q (NewR R w W) t:=by
 obtain ⟨x,P,C,d,s,n,enc,ms,h⟩:=h
 refine ⟨x,P,C,d,s,n,enc,ms,h.live.off hf h.off,h.q,h.busy,h.com,h.mb,h.mr,fun b hb hR=>?_,h.sure,h.env,h.ops,h.hm,h.rm,h.nk,h.nm,fun b hb=>?_⟩
 ·rcases hR with hR |hR
  ·exact h.off b hb hR
  ·have:=h.live.lt b hb;omega
 ·rcases hb with hb |hb
  ·exact Nat.lt_of_lt_of_le (h.rl b hb) hf.size
  ·exact hb.2
end
end
section
open Go.RowKit Go.Maps
open Dsk (gt hid undrew keep_old keep_cell lt_cell Rd)
open Cch (Fr wpAnyK wpAnyK_done wp_region_K)
open Jrn (Pv2 Row5 numAt RB fr_two trunkN rootN putN nul)
section
variable {arm:Prop} {room croom K:Nat} {p q:Nat} {R:Nat→Prop} {t:RS} {w:World}
end
end
section
open Go.RowKit Go.Maps
open Dsk (gt hid undrew keep_old keep_cell lt_cell Rd)
open Cch (Fr wpAnyK wpAnyK_done wp_region_K)
open Jrn (Pv2 Row5 numAt RB fr_two trunkN rootN putN nul)
section
variable {arm:Prop} {room croom K:Nat} {p q:Nat} {R:Nat→Prop} {t:RS} {w:World}
end
end
section
open Go.RowKit Go.Maps
open Dsk (gt hid undrew keep_old keep_cell lt_cell Rd)
open Cch (Fr wpAnyK wpAnyK_done wp_region_K)
open Jrn (Pv2 Row5 numAt RB fr_two trunkN rootN putN nul)
section
variable {arm:Prop} {room croom K:Nat} {p q:Nat} {R:Nat→Prop} {t:RS} {w:World}
end
end
section
open Go.RowKit Go.Maps
open Dsk (gt hid undrew keep_old keep_cell lt_cell Rd)
open Cch (Fr wpAnyK wpAnyK_done wp_region_K)
open Jrn (Pv2 Row5 numAt RB fr_two trunkN rootN putN nul)
section
variable {arm:Prop} {room croom K:Nat} {p q:Nat} {R:Nat→Prop} {t:RS} {w:World}
end
end
end Go.Proofs.YtfcikkechphmaaaGreatDoor
