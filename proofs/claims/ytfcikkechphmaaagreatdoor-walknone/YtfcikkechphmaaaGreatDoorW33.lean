/- The steps that make a journal sure, and then hot; no statement of the seat is proved here. -/
import Derived.Test.YtfcikkechphmaaaGreatDoorW32
import Derived.Test.YtfcikkechphmaaaGreatDoorW30
import Derived.Test.YtfcikkechphmaaaGreatDoorW13
set_option maxHeartbeats 16000000
set_option maxRecDepth 20000
namespace Go.Proofs.YtfcikkechphmaaaGreatDoor
section
open Go.RowKit Go.Maps
open Dsk (gt hid undrew keep_old keep_cell lt_cell Rd DS FS Sec DiskP DFrame Grew From op_at)
open Cch (CS CP Fr wpAnyK wpAnyK_take wpAnyK_pure wpAnyK_ready wpAnyK_done wp_region_K AllReadyK.cons AllReadyK.nil)
theorem steps_lit{w:World}{q B:Nat}{N:Nat→Prop}{us:List Value}{l:List Stp}(e:TypeId)(hN:∀ k,N k→k<B)(hB:B≤w.heap.size)(hs:∀ (i:Nat) (s:Stp),l[i]? = some s→∃ u,us[i]? = some u∧StepAt (w.alloc (.cells us.toArray e)) q N u s) :
  StepsAt (w.alloc (.cells us.toArray e)) q N (some ⟨w.heap.size,0,none⟩) l:=fun _=>
 ⟨w.heap.size,0,rfl,⟨by simp,fun hk=>by have:=hN _ hk;omega⟩,fun i s hi=>by
  obtain ⟨u,h1,h2⟩:=hs i s hi
  exact ⟨u,by rw [World.cell?_alloc_at _ _ _ _ rfl];simpa using h1,h2⟩⟩
end
section
open Go.RowKit Go.Maps
open Dsk (gt hid undrew keep_old keep_cell lt_cell Rd DS FS Sec DiskP DFrame Grew From op_at idx dirtD was secD)
open Cch (CS CP Fr wpAnyK wpAnyK_take wpAnyK_pure wpAnyK_ready wpAnyK_done wp_region_K AllReadyK.cons AllReadyK.nil)
end
end Go.Proofs.YtfcikkechphmaaaGreatDoor
