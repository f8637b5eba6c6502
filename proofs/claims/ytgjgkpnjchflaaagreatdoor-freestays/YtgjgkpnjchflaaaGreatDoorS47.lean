/- How an act that came in is read, and what the table that the program's text lays gives the walks; no statement of the seat is proved here. -/
import Derived.Test.YtgjgkpnjchflaaaGreatDoorS16
import Derived.Test.YtgjgkpnjchflaaaGreatDoorS01
import Derived.ProofKit
import Derived.OpenShut
import Derived.ChangeSlices
import Derived.LaidMore
import Derived.Lib.LaidTab
import Derived.Test.YtgjgkpnjchflaaaGreatDoorS46
set_option maxHeartbeats 16000000
set_option maxRecDepth 20000
namespace Go.Proofs.YtgjgkpnjchflaaaGreatDoor
section
open Go.ChangeShapes Go.WideShapes Go.ChangeAt Go.RowKit
def shapeOf:TypeDesc→Option (List (TypeId×Nat))
 | .struct fs=>some (fs.toList.map fun f=>(f.type,f.offset))
 | _=>none
theorem struct_of{P:Program}{t:TypeId}{L:List (TypeId×Nat)}(h:(P.underlying t).bind shapeOf=some L) :
  ∃ fs:Array Field,P.underlying t=some (.struct fs)∧∀ (i:Nat) (ty:TypeId) (off:Nat),L[i]? = some (ty,off)→∃ f:Field,fs[i]? = some f∧f.type=ty∧f.offset=off:=by
 obtain ⟨d,hd,hs⟩:=Option.bind_eq_some_iff.1 h
 cases d with
 | struct fs=>
  refine ⟨fs,hd,fun i ty off hi=>?_⟩
  simp only [shapeOf,Option.some.injEq]at hs
  subst hs
  rw [List.getElem?_map]at hi
  obtain ⟨f,hf,he⟩:=Option.map_eq_some_iff.1 hi
  simp only [Prod.mk.injEq]at he
  exact ⟨f,by simpa using hf,he.1,he.2⟩
 | _=>simp [shapeOf]at hs
section
variable {H:Type} {enc:TypeId×Value→H} {P:Program} {w:World} {base:Nat} {spare:Nat→Bool} {held:Bool}
theorem field_of{t:TypeId}{L:List (TypeId×Nat)}(h:(P.underlying t).bind shapeOf=some L){fuel:Nat}{cs:List Value}{x:DataW H×List MemPlace}
  (hx:DataW.trod enc P w base spare held fuel t cs=some x):cs.length=P.cellsOf t∧∀ (i:Nat) (ty:TypeId) (off:Nat),L[i]? = some (ty,off)→∃ y n,DataW.trod enc P w base spare held n ty ((cs.drop off).take (P.cellsOf ty))=some y:=by
 obtain ⟨fs,hu,hf⟩:=struct_of h
 obtain ⟨xs,n,_,_,hl,hxl,hi⟩:=DataW.trod_struct hu hx
 refine ⟨hl,fun i ty off hL=>?_⟩
 obtain ⟨f,h1,rfl,rfl⟩:=hf i ty off hL
 have h2:=hi i f h1
 have hlt:i<xs.length:=by
  rw [hxl];exact (Array.getElem?_eq_some_iff.1 h1).1
 exact ⟨xs[i],n,by rw [h2,List.getElem?_eq_getElem hlt]⟩
theorem int_at{ty:TypeId}{k:IntKind}(hu:P.underlying ty=some (.int k))(hc:P.cellsOf ty=1){n off:Nat}{cs:List Value}{y:DataW H×List MemPlace}
  (h:DataW.trod enc P w base spare held n ty ((cs.drop off).take (P.cellsOf ty))=some y):∃ z:Int,cs[off]? = some (.int k z)∧(Lit.int k z).wf=true:=by
 obtain ⟨z,hz,_,hw⟩:=DataW.trod_int hu h
 refine ⟨z,?_,hw⟩
 have h3:=congrArg (fun l:List Value=>l[0]?) hz
 simp [hc]at h3
 simpa using h3
end
section
variable {H:Type} {enc:TypeId×Value→H} {P:Program} {w:World} {base:Nat} {held:Bool}
end
theorem bounds_i64'{z:Int}(h:(Lit.int .i64 z).wf=true) : -9223372036854775808≤z∧z≤9223372036854775807:=by
 simp [Lit.wf,IntKind.min,IntKind.max,IntKind.bits,IntKind.signed]at h
 omega
theorem act_shape:(Tryz.prog.underlying 35).bind shapeOf=some [(3,0),(3,1),(3,2)]:=by kernel_rfl
section
variable {H:Type} {enc:TypeId×Value→H} {w:World} {base:Nat} {held:Bool}
theorem one_act{spare:Nat→Bool}{n:Nat}{cs:List Value}{y:DataW H×List MemPlace}(h:DataW.trod enc Tryz.prog w base spare held n 35 cs=some y) :
  ∃ t:Int×Int×Int,cs[0]? = some (.int .i64 t.1)∧cs[1]? = some (.int .i64 t.2.1)∧cs[2]? = some (.int .i64 t.2.2)∧(-9223372036854775808≤t.1∧t.1≤9223372036854775807)∧(-9223372036854775808≤t.2.1∧t.2.1≤9223372036854775807)∧(-9223372036854775808≤t.2.2∧t.2.2≤9223372036854775807):=by
 obtain ⟨_,hx⟩:=field_of act_shape h
 obtain ⟨y0,n0,h0⟩:=hx 0 3 0 rfl
 obtain ⟨y1,n1,h1⟩:=hx 1 3 1 rfl
 obtain ⟨y2,n2,h2⟩:=hx 2 3 2 rfl
 obtain ⟨k,hk,kw⟩:=int_at Tryz.underlying3 (by kernel_rfl) h0
 obtain ⟨q,hq,qw⟩:=int_at Tryz.underlying3 (by kernel_rfl) h1
 obtain ⟨z,hz,zw⟩:=int_at Tryz.underlying3 (by kernel_rfl) h2
 exact ⟨(k,q,z),hk,hq,hz,bounds_i64' kw,bounds_i64' qw,bounds_i64' zw⟩
end
variable {W:World}
theorem Jrn.Tab.pos(h:Jrn.Tab W):0<W.heap.size:=by
 rcases Nat.eq_zero_or_pos W.heap.size with h0 |h0
 ·exact absurd (Dsk.lt_cell (h 0 (by omega))) (by simp [h0])
 ·exact h0
def laid1 : List (String × DataW Unit) := [("hachure/sum.carried", Rows.laid_hachure_sum_carried)]
def tabZ:List Int:=[0,274646895,549293790,820201905,1098587580,1361435347,1640403810,1905808397,2197175160,2460548119,2722870694,2987750089,3280807620,3553878443,3811616794,4084100981]
theorem laid1_eq : laid1 = [("hachure/sum.carried", Lib.tabData .u32 tabZ)] := rfl
theorem gTab : Tryz.prog.globalNamed "hachure/sum.carried" = some 0 := by kernel_rfl
theorem tTab:(Tryz.prog.globals[0]?).map (·.type)=some 240:=by kernel_rfl
theorem uTab:Tryz.prog.underlying 240=some (.array 16 197):=by kernel_rfl
theorem tab_nums:∀ k:Fin 16,tabZ.getD k.val 0=((Jrn.txn 4 k.val:Nat):Int):=by decide +kernel
theorem tab_of_laid(h:laidMetH Tryz.prog laid1 W):Jrn.Tab W:=by
 rw [MakeChecks.laidMetH_plain _ _ _ (by kernel_rfl),laid1_eq]at h
 have hT:=Lib.tabIs_of_head gTab tTab uTab Tryz.underlying197 (by kernel_rfl) (by kernel_rfl) h
 intro k hk
 rw [hT.cell gTab k (by simpa [tabZ] using hk),tab_nums ⟨k,hk⟩]
theorem door_met(os:Os)(args:Array Value):laidMetH Tryz.prog laid1 ((World.doorLaid Tryz.prog 14 os).forCall (fun _ _=>0) ⟨#[],args,[]⟩).memory:=
 laidMetH_of_parts3 (fuel:=8) (laidMet_of_run' 8 (by kernel_rfl) (by kernel_rfl)) (by kernel_rfl) (by kernel_rfl)
end
section
open Go.ChangeShapes Go.WideShapes Go.ChangeAt Go.RowKit
section
variable {H:Type} {enc:TypeId×Value→H} {w:World} {base:Nat} {held:Bool}
theorem open_acts8{t:TypeId}(ht:Tryz.prog.underlying t=some (.slice 35)){r:Reach}{b0:Nat}{v:Value}{d:DataW H}{p:List MemPlace}(hv:Value.okWide Tryz.prog w r b0 t v)(h:DataW.Trod enc Tryz.prog w base (fun _=>true) held t v d p) :
  (∃ lo C,v=.slice lo 0 C)∨∃ b off L C A B D,0<L∧L≤9223372036854775807∧v=.slice (some ⟨b,off,none⟩) L C∧Ac8 w b off L A B D:=by
 obtain ⟨ao',len',cap',rfl⟩:=okWide_slice ht hv
 obtain ⟨fuel,hf⟩:=h
 rcases DataW.trod_slice ht hf with ⟨hcs,_⟩ | ⟨a,len,cap,elems,rest,n,_,hcs,_,_,hl,hm,hlen,hel,_,_⟩
 ·simp [Value.cells]at hcs
  obtain ⟨rfl,rfl,rfl⟩:=hcs
  exact Or.inl ⟨_,_,rfl⟩
 ·simp [Value.cells]at hcs
  obtain ⟨rfl,rfl,rfl⟩:=hcs
  by_cases h0:len'=0
  ·subst h0;exact Or.inl ⟨_,_,rfl⟩
  right
  rw [show Tryz.prog.cellsOf 35=3 by kernel_rfl]at hel
  have each:∀ i,i<len'→∃ cs y,w.cells? base (a.add (i*3)) 3=some cs∧DataW.trod enc Tryz.prog w base (fun _=>true) held n 35 cs=some y:=by
   intro i hi
   have h1:=hel i hi
   rw [List.getElem?_eq_getElem (by omega),Option.bind_eq_some_iff]at h1
   obtain ⟨cs,hc,ht⟩:=h1
   exact ⟨cs,_,hc,ht⟩
  obtain ⟨b,off,spot⟩:=a
  have hspot:spot=none:=by
   obtain ⟨cs,y,hc,ht⟩:=each 0 (by omega)
   obtain ⟨⟨xk,xn,xs⟩,t0,_⟩:=one_act ht
   have h2:=(World.cells?_some hc).2.2 0 (by omega)
   rw [t0]at h2
   have:=World.cell?_spot h2
   simpa [Addr.add] using this
  subst hspot
  have each2:∀ i,∃ x:Int×Int×Int,i<len'→w.cell? ⟨b,off+i*3,none⟩=some (.int .i64 x.1)∧w.cell? ⟨b,off+i*3+1,none⟩=some (.int .i64 x.2.1)∧w.cell? ⟨b,off+i*3+2,none⟩=some (.int .i64 x.2.2)∧-9223372036854775808≤x.2.2∧x.2.2≤9223372036854775807:=by
   intro i
   by_cases hi:i<len'
   ·obtain ⟨cs,y,hc,ht⟩:=each i hi
    obtain ⟨⟨xk,xn,xs⟩,t0,t1,t2,_,_,ok⟩:=one_act ht
    simp only at t0 t1 t2 ok
    have h2:=(World.cells?_some hc).2.2
    refine ⟨(xk,xn,xs),fun _=>⟨?_,?_,?_,ok⟩⟩
    ·have:=h2 0 (by omega);rw [t0,Addr.add_lit,Addr.add_lit]at this;simpa using this
    ·have:=h2 1 (by omega);rw [t1,Addr.add_lit,Addr.add_lit]at this;exact this
    ·have:=h2 2 (by omega);rw [t2,Addr.add_lit,Addr.add_lit]at this;exact this
   ·exact ⟨(0,0,0),fun h=>absurd h hi⟩
  obtain ⟨X,hX⟩:=Classical.axiomOfChoice each2
  exact ⟨b,off,len',cap',fun i=>(X i).1,fun i=>(X i).2.1,fun i=>(X i).2.2,by omega,by unfold maxLen at hm;omega,rfl,fun i hi=>hX i hi⟩
end
theorem acts_v8{w:World}{v:Value}(h:(∃ lo C,v=.slice lo 0 C)∨∃ b off L C A B D,0<L∧L≤9223372036854775807∧v=.slice (some ⟨b,off,none⟩) L C∧Ac8 w b off L A B D):∃ lo L C A B D,v=.slice lo L C∧Ac8V w lo L A B D:=by
 rcases h with ⟨lo,C,rfl⟩ | ⟨b,off,L,C,A,B,D,_,_,rfl,h⟩
 ·exact ⟨lo,0,C,fun _=>0,fun _=>0,fun _=>0,rfl,fun h=>by omega⟩
 ·exact ⟨_,L,C,A,B,D,rfl,fun _=>⟨b,off,rfl,h⟩⟩
end
section
open Go.ChangeShapes Go.WideShapes Go.ChangeAt Go.RowKit
section
variable {H:Type} {enc:TypeId×Value→H} {P:Program} {w:World} {base:Nat} {held:Bool}
variable {t:TypeId}
theorem i64_open(ht:P.underlying t=some (.slice 3))(he:P.underlying 3=some (.int .i64))(hc:P.cellsOf 3=1){n:Nat}{cs:List Value}{y:DataW H×List MemPlace}
  (h:DataW.trod enc P w base (fun _=>true) held n t cs=some y) :
  ∃ ao len cap G,cs = [.slice ao len cap]∧I64V w ao len G:=by
 rcases open_ints ht he hc h with ⟨rfl,_⟩ | ⟨a,len,cap,zs,rfl,_,hl,hm,hz,_,hcell,hwz⟩
 ·exact ⟨none,0,0,fun _=>0,rfl,fun h=>by omega⟩
 ·simp at hz
  refine ⟨some a,len,cap,fun i=>zs.getD i 0,rfl,fun hp=>?_⟩
  obtain ⟨b,off,spot⟩:=a
  have hc0:=hcell 0 (by omega)
  have hspot:spot=none:=by simpa [Addr.add] using World.cell?_spot hc0
  subst hspot
  refine ⟨b,off,rfl,fun t ht=>?_⟩
  have hct:=hcell t (by omega)
  rw [Addr.add_lit]at hct
  have hb:=bounds_i64' (hwz (zs.getD t 0) (by rw [List.getD_eq_getElem?_getD,List.getElem?_eq_getElem (show t<zs.length by omega)];simp))
  exact ⟨hct,hb⟩
theorem open_i64s{r:Reach}{b0:Nat}{v:Value}{d:DataW H}{p:List MemPlace}(ht:P.underlying t=some (.slice 3))(he:P.underlying 3=some (.int .i64))(hc:P.cellsOf 3=1)
  (hv:Value.okWide P w r b0 t v) (h:DataW.Trod enc P w base (fun _=>true) held t v d p) :
  ∃ ao len cap G,v=.slice ao len cap∧I64V w ao len G:=by
 obtain ⟨ao',len',cap',rfl⟩:=okWide_slice ht hv
 obtain ⟨fuel,hf⟩:=h
 obtain ⟨ao,len,cap,G,hcs,hr⟩:=i64_open ht he hc hf
 simp [Value.cells]at hcs
 obtain ⟨rfl,rfl,rfl⟩:=hcs
 exact ⟨_,_,_,G,rfl,hr⟩
end
end
end Go.Proofs.YtgjgkpnjchflaaaGreatDoor
