/- The law WalkNone of package hachurelaw12 returns true for every act and leaves its argument as it was; the condition: the package-level variable sum.carried holds, when the call begins, what the program's own text lays in it (the card ties it to that text). -/
import Derived.Test.YtfcikkechphmaaaGreatDoorTie
import Derived.Test.YtfcikkechphmaaaGreatDoorCards
import Derived.Test.YtfcikkechphmaaaGreatDoorW50
import Derived.Test.YtfcikkechphmaaaGreatDoorW51
import Derived.SevenTiedAt
set_option maxHeartbeats 16000000
set_option maxRecDepth 20000
namespace Go.Proofs.YtfcikkechphmaaaGreatDoor
section
open Go.ChangeShapes Go.WideShapes Go.ChangeAt Go.RowKit
theorem walkNone_looks:true=Tryz.prog.looks []:=by kernel_rfl
theorem walkNone_main : Tryz.prog.mainIs = some (true, "7aeba44fe7b687f51e200404ca97b34695b6a1cb53bb6661715ad3522a001543".toList) := by kernel_rfl
theorem walkNone_named : Tryz.prog.funcNamed "hachure/hachurelaw12.WalkNone" = some 10 := by kernel_rfl
theorem walkNone_stands:([73].all fun u=>!Tryz.prog.wantsStandIn u)=true:=by kernel_rfl
theorem walkNone_holds:Rows.WalkNoneCardSaid:=
 Claim7.holds_tied_plain_at .later [] [.data] true (true, "7aeba44fe7b687f51e200404ca97b34695b6a1cb53bb6661715ad3522a001543") true
  walkNone_said (fun _ h=>by cases h) (by kernel_rfl) (fun _ h=>by cases h) walkNone_row_tie rfl ⟨rfl,rfl⟩ walkNone_main rfl
  (fun f fn hf hfn=>by
   obtain rfl:f=10:=Option.some.inj (walkNone_named.symm.trans hf) |>.symm
   obtain rfl:fn=Tryz.f10:=(Option.some.inj (Tryz.func10.symm.trans hfn)).symm
   exact ⟨walkNone_looks,fun j t ht=>by
    rw [Tryz.params10]at ht
    have hm:t∈[73]:=by simpa using Array.mem_of_getElem? ht
    exact (show Tryz.prog.wantsStandIn t=false by simpa using List.all_eq_true.1 walkNone_stands t hm)⟩)
  walkNone_goes
#print axioms walkNone_holds
end
end Go.Proofs.YtfcikkechphmaaaGreatDoor
