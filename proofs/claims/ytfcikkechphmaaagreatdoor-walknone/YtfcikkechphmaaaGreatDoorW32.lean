/- The journal of what is to be changed, as it was; no statement of the seat is proved here. -/
import Derived.Test.YtfcikkechphmaaaGreatDoorW30
import Derived.Test.YtfcikkechphmaaaGreatDoorW31
import Derived.Test.YtfcikkechphmaaaGreatDoorW13
set_option maxHeartbeats 16000000
set_option maxRecDepth 20000
namespace Go.Proofs.YtfcikkechphmaaaGreatDoor
section
open Go.RowKit Go.Maps
open Dsk (gt hid undrew keep_old keep_cell lt_cell Rd DS FS Sec DiskP DFrame Grew From idx dirtD size_dirt op_at)
open Cch (CS CP Fr wpAnyK wpAnyK_take wpAnyK_pure wpAnyK_ready wpAnyK_done wp_region_K AllReadyK.cons AllReadyK.nil)
theorem Tryz.info3:(Tryz.prog.info? 3).map (fun i=>(i.zero,i.size,i.bytes))=some (some (.int .i64 0),1,8):=by kernel_rfl
theorem el41:Cch.El 42 3 (.int .i64 0) 8:=⟨Tryz.underlying42,by obtain ⟨i,h0,h1,h2,h3⟩:=info_parts Tryz.info3;exact ⟨i,h0,h1,h2,h3⟩,rfl,by decide⟩
theorem zI_append(a b:List Nat):zI (a++b)=zI a++zI b:=by simp [zI]
theorem Core.stay{w w':World}{p:Nat}{x:PC}{P:Dsk.Parts}{C:Cch.Parts}{d:DS}{s:CS}(h:Core w p x P C d s)(hs:w.heap.size≤w'.heap.size)(hb:∀ b,b<w.heap.size→NC p x P C b→w'.heap[b]? = w.heap[b]?):Core w' p x P C d s:=
 ⟨h.hd.stay (hb p h.hd.lt (Or.inr (Or.inr rfl))),h.dk.stay hs (fun b hl hd=>hb b hl (Or.inl (by rcases hd with h1 |h1;exact Or.inr h1;exact Or.inl h1))),h.ck.stay (fun b hl hS=>hb b hl (Or.inr (Or.inl hS))),h.dc,h.dp,h.cp⟩
end
end Go.Proofs.YtfcikkechphmaaaGreatDoor
