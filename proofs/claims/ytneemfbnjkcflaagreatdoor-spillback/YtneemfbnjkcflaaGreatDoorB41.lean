/- What the table that the program's text lays gives the walks; no statement of the seat is proved here. -/
import Derived.Test.YtneemfbnjkcflaaGreatDoorB00
import Derived.Test.YtneemfbnjkcflaaGreatDoorB12
import Derived.ProofKit
import Derived.OpenShut
import Derived.ChangeSlices
import Derived.LaidMore
import Derived.Lib.LaidTab
import Derived.Test.YtneemfbnjkcflaaGreatDoorB40
set_option maxHeartbeats 16000000
set_option maxRecDepth 20000
namespace Go.Proofs.YtneemfbnjkcflaaGreatDoor
section
open Go.ChangeShapes Go.WideShapes Go.ChangeAt Go.RowKit
theorem bounds_u16'{z:Int}(h:(Lit.int .u16 z).wf=true):0≤z∧z<65536:=by
 simp [Lit.wf,IntKind.min,IntKind.max,IntKind.bits,IntKind.signed]at h
 omega
variable {W:World}
theorem Jrn.Tab.pos(h:Jrn.Tab W):0<W.heap.size:=by
 rcases Nat.eq_zero_or_pos W.heap.size with h0 |h0
 ·exact absurd (Dsk.lt_cell (h 0 (by omega))) (by simp [h0])
 ·exact h0
def laid1 : List (String × DataW Unit) := [("hachure/sum.carried", Rows.laid_hachure_sum_carried)]
def tabZ:List Int:=[0,274646895,549293790,820201905,1098587580,1361435347,1640403810,1905808397,2197175160,2460548119,2722870694,2987750089,3280807620,3553878443,3811616794,4084100981]
theorem laid1_eq : laid1 = [("hachure/sum.carried", Lib.tabData .u32 tabZ)] := rfl
theorem gTab : Tryz.prog.globalNamed "hachure/sum.carried" = some 0 := by kernel_rfl
theorem tTab:(Tryz.prog.globals[0]?).map (·.type)=some 237:=by kernel_rfl
theorem uTab:Tryz.prog.underlying 237=some (.array 16 195):=by kernel_rfl
theorem tab_nums:∀ k:Fin 16,tabZ.getD k.val 0=((Jrn.txn 4 k.val:Nat):Int):=by decide +kernel
theorem tab_of_laid(h:laidMetH Tryz.prog laid1 W):Jrn.Tab W:=by
 rw [MakeChecks.laidMetH_plain _ _ _ (by kernel_rfl),laid1_eq]at h
 have hT:=Lib.tabIs_of_head gTab tTab uTab Tryz.underlying195 (by kernel_rfl) (by kernel_rfl) h
 intro k hk
 rw [hT.cell gTab k (by simpa [tabZ] using hk),tab_nums ⟨k,hk⟩]
theorem door_met(os:Os)(args:Array Value):laidMetH Tryz.prog laid1 ((World.doorLaid Tryz.prog 14 os).forCall (fun _ _=>0) ⟨#[],args,[]⟩).memory:=
 laidMetH_of_parts3 (fuel:=8) (laidMet_of_run' 8 (by kernel_rfl) (by kernel_rfl)) (by kernel_rfl) (by kernel_rfl)
end
section
open Go.ChangeShapes Go.WideShapes Go.ChangeAt Go.RowKit
theorem bounds_u64'{z:Int}(h:(Lit.int .u64 z).wf=true):0≤z∧z<18446744073709551616:=by
 simp [Lit.wf,IntKind.min,IntKind.max,IntKind.bits,IntKind.signed]at h
 omega
section
variable {H:Type} {enc:TypeId×Value→H} {P:Program} {w:World} {base:Nat} {held:Bool}
variable {t:TypeId}
theorem u16_open(ht:P.underlying t=some (.slice 30))(he:P.underlying 30=some (.int .u16))(hc:P.cellsOf 30=1){n:Nat}{cs:List Value}{y:DataW H×List MemPlace}
  (h:DataW.trod enc P w base (fun _=>true) held n t cs=some y) :
  ∃ ao len cap G,cs = [.slice ao len cap]∧len≤maxLen∧Spl.U16V w ao len G:=by
 rcases open_ints ht he hc h with ⟨rfl,_⟩ | ⟨a,len,cap,zs,rfl,_,hl,hm,hz,_,hcell,hwz⟩
 ·exact ⟨none,0,0,fun _=>0,rfl,Nat.zero_le _,fun h=>by omega⟩
 ·simp at hz
  refine ⟨some a,len,cap,fun i=>(zs.getD i 0).toNat,rfl,Nat.le_trans hl hm,fun hp=>?_⟩
  obtain ⟨b,off,spot⟩:=a
  have hc0:=hcell 0 (by omega)
  have hspot:spot=none:=by simpa [Addr.add] using World.cell?_spot hc0
  subst hspot
  refine ⟨b,off,rfl,fun t ht=>?_⟩
  have hct:=hcell t (by omega)
  rw [Addr.add_lit]at hct
  have hb:=bounds_u16' (hwz (zs.getD t 0) (by rw [List.getD_eq_getElem?_getD,List.getElem?_eq_getElem (show t<zs.length by omega)];simp))
  refine ⟨?_,by show (zs.getD t 0).toNat<65536;omega⟩
  rw [hct]
  simp only [Option.some.injEq,Value.int.injEq,true_and]
  exact (Int.toNat_of_nonneg hb.1).symm
theorem open_u16{r:Reach}{b0:Nat}{v:Value}{d:DataW H}{p:List MemPlace}(ht:P.underlying t=some (.slice 30))(he:P.underlying 30=some (.int .u16))(hc:P.cellsOf 30=1)
  (hv:Value.okWide P w r b0 t v) (h:DataW.Trod enc P w base (fun _=>true) held t v d p) :
  ∃ ao len cap G,v=.slice ao len cap∧len≤maxLen∧Spl.U16V w ao len G:=by
 obtain ⟨ao',len',cap',rfl⟩:=okWide_slice ht hv
 obtain ⟨fuel,hf⟩:=h
 obtain ⟨ao,len,cap,G,hcs,hm,hr⟩:=u16_open ht he hc hf
 simp [Value.cells]at hcs
 obtain ⟨rfl,rfl,rfl⟩:=hcs
 exact ⟨_,_,_,G,rfl,hm,hr⟩
end
end
end Go.Proofs.YtneemfbnjkcflaaGreatDoor
