/- What the table that the program's text lays gives the walks; no statement of the seat is proved here. -/
import Derived.Test.YtfcikkechphmaaaGreatDoorRows
import Derived.Test.YtfcikkechphmaaaGreatDoorW08
import Derived.Test.YtfcikkechphmaaaGreatDoorW19
import Derived.ProofKit
import Derived.OpenShut
import Derived.ChangeSlices
import Derived.LaidMore
import Derived.Lib.LaidTab
import Derived.Test.YtfcikkechphmaaaGreatDoorW03
set_option maxHeartbeats 16000000
set_option maxRecDepth 20000
namespace Go.Proofs.YtfcikkechphmaaaGreatDoor
section
open Go.ChangeShapes Go.WideShapes Go.ChangeAt Go.RowKit
theorem bounds_i64'{z:Int}(h:(Lit.int .i64 z).wf=true) : -9223372036854775808≤z∧z≤9223372036854775807:=by
 simp [Lit.wf,IntKind.min,IntKind.max,IntKind.bits,IntKind.signed]at h
 omega
variable {W:World}
theorem Jrn.Tab.pos(h:Jrn.Tab W):0<W.heap.size:=by
 rcases Nat.eq_zero_or_pos W.heap.size with h0 |h0
 ·exact absurd (Dsk.lt_cell (h 0 (by omega))) (by simp [h0])
 ·exact h0
def laid1 : List (String × DataW Unit) := [("hachure/sum.carried", Rows.laid_hachure_sum_carried)]
def tabZ:List Int:=[0,274646895,549293790,820201905,1098587580,1361435347,1640403810,1905808397,2197175160,2460548119,2722870694,2987750089,3280807620,3553878443,3811616794,4084100981]
theorem laid1_eq : laid1 = [("hachure/sum.carried", Lib.tabData .u32 tabZ)] := rfl
theorem gTab : Tryz.prog.globalNamed "hachure/sum.carried" = some 0 := by kernel_rfl
theorem tTab:(Tryz.prog.globals[0]?).map (·.type)=some 400:=by kernel_rfl
theorem uTab:Tryz.prog.underlying 400=some (.array 16 340):=by kernel_rfl
theorem tab_nums:∀ k:Fin 16,tabZ.getD k.val 0=((Jrn.txn 4 k.val:Nat):Int):=by decide +kernel
theorem tab_of_laid(h:laidMetH Tryz.prog laid1 W):Jrn.Tab W:=by
 rw [MakeChecks.laidMetH_plain _ _ _ (by kernel_rfl),laid1_eq]at h
 have hT:=Lib.tabIs_of_head gTab tTab uTab Tryz.underlying340 (by kernel_rfl) (by kernel_rfl) h
 intro k hk
 rw [hT.cell gTab k (by simpa [tabZ] using hk),tab_nums ⟨k,hk⟩]
theorem door_met(os:Os)(args:Array Value):laidMetH Tryz.prog laid1 ((World.doorLaid Tryz.prog 14 os).forCall (fun _ _=>0) ⟨#[],args,[]⟩).memory:=
 laidMetH_of_parts3 (fuel:=8) (laidMet_of_run' 8 (by kernel_rfl) (by kernel_rfl)) (by kernel_rfl) (by kernel_rfl)
end
section
open Go.ChangeShapes Go.WideShapes Go.ChangeAt Go.RowKit
def shapeOf:TypeDesc→Option (List (TypeId×Nat))
 | .struct fs=>some (fs.toList.map fun f=>(f.type,f.offset))
 | _=>none
theorem struct_of{P:Program}{t:TypeId}{L:List (TypeId×Nat)}(h:(P.underlying t).bind shapeOf=some L) :
  ∃ fs:Array Field,P.underlying t=some (.struct fs)∧∀ (i:Nat) (ty:TypeId) (off:Nat),L[i]? = some (ty,off)→∃ f:Field,fs[i]? = some f∧f.type=ty∧f.offset=off:=by
 obtain ⟨d,hd,hs⟩:=Option.bind_eq_some_iff.1 h
 cases d with
 | struct fs=>
  refine ⟨fs,hd,fun i ty off hi=>?_⟩
  simp only [shapeOf,Option.some.injEq]at hs
  subst hs
  rw [List.getElem?_map]at hi
  obtain ⟨f,hf,he⟩:=Option.map_eq_some_iff.1 hi
  simp only [Prod.mk.injEq]at he
  exact ⟨f,by simpa using hf,he.1,he.2⟩
 | _=>simp [shapeOf]at hs
section
variable {H:Type} {enc:TypeId×Value→H} {P:Program} {w:World} {base:Nat} {spare:Nat→Bool} {held:Bool}
theorem field_of{t:TypeId}{L:List (TypeId×Nat)}(h:(P.underlying t).bind shapeOf=some L){fuel:Nat}{cs:List Value}{x:DataW H×List MemPlace}
  (hx:DataW.trod enc P w base spare held fuel t cs=some x):cs.length=P.cellsOf t∧∀ (i:Nat) (ty:TypeId) (off:Nat),L[i]? = some (ty,off)→∃ y n,DataW.trod enc P w base spare held n ty ((cs.drop off).take (P.cellsOf ty))=some y:=by
 obtain ⟨fs,hu,hf⟩:=struct_of h
 obtain ⟨xs,n,_,_,hl,hxl,hi⟩:=DataW.trod_struct hu hx
 refine ⟨hl,fun i ty off hL=>?_⟩
 obtain ⟨f,h1,rfl,rfl⟩:=hf i ty off hL
 have h2:=hi i f h1
 have hlt:i<xs.length:=by
  rw [hxl];exact (Array.getElem?_eq_some_iff.1 h1).1
 exact ⟨xs[i],n,by rw [h2,List.getElem?_eq_getElem hlt]⟩
theorem int_at{ty:TypeId}{k:IntKind}(hu:P.underlying ty=some (.int k))(hc:P.cellsOf ty=1){n off:Nat}{cs:List Value}{y:DataW H×List MemPlace}
  (h:DataW.trod enc P w base spare held n ty ((cs.drop off).take (P.cellsOf ty))=some y):∃ z:Int,cs[off]? = some (.int k z)∧(Lit.int k z).wf=true:=by
 obtain ⟨z,hz,_,hw⟩:=DataW.trod_int hu h
 refine ⟨z,?_,hw⟩
 have h3:=congrArg (fun l:List Value=>l[0]?) hz
 simp [hc]at h3
 simpa using h3
end
theorem act_shape:(Tryz.prog.underlying 73).bind shapeOf=some [(3,0),(3,1)]:=by kernel_rfl
section
variable {H:Type} {enc:TypeId×Value→H} {w:World} {base:Nat} {held:Bool}
variable {v:Value} {b0:Nat} {r:Reach}
theorem agg_of{P:Program}{t:TypeId}{fs:Array Field}(hu:P.underlying t=some (.struct fs))(hv:Value.okWide P w r b0 t v):∃ cs:List Value,v=.agg cs.toArray:=by
 simp only [Value.okWide,hu]at hv
 obtain ⟨cs,rfl,_⟩:=hv
 exact ⟨cs.toList,by simp⟩
variable {spare:Nat→Bool}
theorem one_act{n:Nat}{cs:List Value}{y:DataW H×List MemPlace}(h:DataW.trod enc Tryz.prog w base spare held n 73 cs=some y) :
  ∃ a b:Int,(cs[0]? = some (.int .i64 a)∧cs[1]? = some (.int .i64 b))∧Cel.I64 a∧Cel.I64 b:=by
 obtain ⟨_,hx⟩:=field_of act_shape h
 obtain ⟨y0,n0,h0⟩:=hx 0 3 0 rfl
 obtain ⟨y1,n1,h1⟩:=hx 1 3 1 rfl
 obtain ⟨a,ha,wa⟩:=int_at Tryz.underlying3 (by kernel_rfl) h0
 obtain ⟨b,hb,wb⟩:=int_at Tryz.underlying3 (by kernel_rfl) h1
 exact ⟨a,b,⟨ha,hb⟩,bounds_i64' wa,bounds_i64' wb⟩
theorem open_act{d:DataW H}{p:List MemPlace}(hv:Value.okWide Tryz.prog w r b0 73 v)(h:DataW.Trod enc Tryz.prog w base spare held 73 v d p) :
  ∃ a b:Int,v=.agg #[.int .i64 a,.int .i64 b]∧Cel.I64 a∧Cel.I64 b:=by
 obtain ⟨fs,hu,_⟩:=struct_of act_shape
 obtain ⟨cs,rfl⟩:=agg_of hu hv
 obtain ⟨fuel,hf⟩:=h
 have hf':DataW.trod enc Tryz.prog w base spare held fuel 73 cs=some (d,p):=by simpa [Value.cells] using hf
 obtain ⟨hl,_⟩:=field_of act_shape hf'
 rw [show Tryz.prog.cellsOf 73=2 by kernel_rfl]at hl
 obtain ⟨a,b,⟨h0,h1⟩,hw⟩:=one_act hf'
 match cs,hl with
 | [c0,c1],_=>
  simp at h0 h1
  exact ⟨a,b,by rw [h0,h1],hw⟩
end
end
end Go.Proofs.YtfcikkechphmaaaGreatDoor
