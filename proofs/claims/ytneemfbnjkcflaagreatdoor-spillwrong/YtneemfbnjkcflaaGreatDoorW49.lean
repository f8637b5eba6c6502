/- What the table that the program's text lays gives the walks; no statement of the seat is proved here. -/
import Derived.Test.YtneemfbnjkcflaaGreatDoorW00
import Derived.Test.YtneemfbnjkcflaaGreatDoorW12
import Derived.ProofKit
import Derived.OpenShut
import Derived.ChangeSlices
import Derived.LaidMore
import Derived.Lib.LaidTab
set_option maxHeartbeats 16000000
set_option maxRecDepth 20000
namespace Go.Proofs.YtneemfbnjkcflaaGreatDoor
section
open Go.ChangeShapes Go.WideShapes Go.ChangeAt Go.RowKit
variable {z:Int}
theorem bounds_u16'(h:(Lit.int .u16 z).wf=true):0≤z∧z<65536:=by
 simp [Lit.wf,IntKind.min,IntKind.max,IntKind.bits,IntKind.signed]at h
 omega
theorem bounds_i64'(h:(Lit.int .i64 z).wf=true) : -9223372036854775808≤z∧z≤9223372036854775807:=by
 simp [Lit.wf,IntKind.min,IntKind.max,IntKind.bits,IntKind.signed]at h
 omega
variable {W:World}
theorem Jrn.Tab.pos(h:Jrn.Tab W):0<W.heap.size:=by
 rcases Nat.eq_zero_or_pos W.heap.size with h0 |h0
 ·exact absurd (Dsk.lt_cell (h 0 (by omega))) (by simp [h0])
 ·exact h0
def laid1 : List (String × DataW Unit) := [("hachure/sum.carried", Rows.laid_hachure_sum_carried)]
def tabZ:List Int:=[0,274646895,549293790,820201905,1098587580,1361435347,1640403810,1905808397,2197175160,2460548119,2722870694,2987750089,3280807620,3553878443,3811616794,4084100981]
theorem laid1_eq : laid1 = [("hachure/sum.carried", Lib.tabData .u32 tabZ)] := rfl
theorem gTab : Tryz.prog.globalNamed "hachure/sum.carried" = some 0 := by kernel_rfl
theorem tTab:(Tryz.prog.globals[0]?).map (·.type)=some 237:=by kernel_rfl
theorem uTab:Tryz.prog.underlying 237=some (.array 16 195):=by kernel_rfl
theorem tab_nums:∀ k:Fin 16,tabZ.getD k.val 0=((Jrn.txn 4 k.val:Nat):Int):=by decide +kernel
theorem tab_of_laid(h:laidMetH Tryz.prog laid1 W):Jrn.Tab W:=by
 rw [MakeChecks.laidMetH_plain _ _ _ (by kernel_rfl),laid1_eq]at h
 have hT:=Lib.tabIs_of_head gTab tTab uTab Tryz.underlying195 (by kernel_rfl) (by kernel_rfl) h
 intro k hk
 rw [hT.cell gTab k (by simpa [tabZ] using hk),tab_nums ⟨k,hk⟩]
theorem door_met(os:Os)(args:Array Value):laidMetH Tryz.prog laid1 ((World.doorLaid Tryz.prog 14 os).forCall (fun _ _=>0) ⟨#[],args,[]⟩).memory:=
 laidMetH_of_parts3 (fuel:=8) (laidMet_of_run' 8 (by kernel_rfl) (by kernel_rfl)) (by kernel_rfl) (by kernel_rfl)
end
end Go.Proofs.YtneemfbnjkcflaaGreatDoor
