/- Pages that are made, and what is written into them; no statement of the seat is proved here. -/
import Derived.Test.YtfcikkechphmaaaGreatDoorW13
import Derived.Test.YtfcikkechphmaaaGreatDoorW15
set_option maxHeartbeats 16000000
set_option maxRecDepth 20000
namespace Go.Proofs.YtfcikkechphmaaaGreatDoor
namespace Jrn
open Go.RowKit
open Cch (Fr)
variable {fn:Func}
theorem results_cell1{p:Tmp}{ty:TypeId}(h:fn.results = #[.cell p ty])(tmps:Array Value)(P:Program)(w:World) :
  (results fn tmps).run P w=((asAddr (tmps.getD p undef)).run P w).andThen fun a w₁=>(loadVar ty a).run P w₁:=by
 simp only [results,h]
 simp [Sem.run_bind,Result.andThen]
theorem ret_pg{a:Tmp}{t:TypeId}(h:fn.results = #[.cell a t])(ha:∀ W,(isAgg t).run Tryz.prog W=.ok true W)(hs:∀ W,(Go.sizeOf t).run Tryz.prog W=.ok 2 W){tmps:Array Value}{W:World}{q:Nat}{p:Int}{ao:Option Addr}{n cap:Nat}
  (hp:tmps.getD a undef=.pointer (some ⟨q,0,none⟩)) (hb:RB t W q p ao n cap):(results fn tmps).run Tryz.prog W=.ok (.agg #[.int .i64 p,.slice ao n cap]) W:=by
 rw [results_cell1 h,hp]
 simp [asAddr,load_rec ha hs hb]
def nul:List Nat:=List.replicate 512 0
theorem make512(w:World):(Instr.makeSlice 48 (.int .i64 512) (.int .i64 512)).run Tryz.prog w=.ok (.slice (some ⟨w.heap.size,0,none⟩) 512 512) (w.alloc (.cells (Array.replicate 512 (.int .u8 0)) 5)):=make_lit 512 512 rfl (by omega) w
theorem blank_any(n:Int)(w:World):Calls Tryz.prog 169 #[.int .i64 n] w fun e w'=>∃ g,e=.returned (Pv2 n g 0 512)∧w.heap.size≤g∧Row5 w' w.heap.size g 512 nul∧Below w.heap.size w w':=by
 obtain ⟨NN,hNN⟩:∃ NN,NN=Array.replicate 512 (Value.int .u8 0):=⟨_,rfl⟩
 have mk:∀ W,(Instr.makeSlice 48 (.int .i64 512) (.int .i64 512)).run Tryz.prog W=.ok (.slice (some ⟨W.heap.size,0,none⟩) 512 512) (W.alloc (.cells NN 5)):=fun W=>by rw [hNN];exact make512 W
 have HN:=hid hNN
 clear hNN
 unfold Pv2
 go_enter Tryz.func169,Tryz.ntmps169
 go_wp2
 refine bodyPost_ret (ret_pg rfl Tryz.isAgg131 Tryz.sizeOf131 rfl (((RB.new 131 w n (some ⟨w.heap.size+1,0,none⟩) 512 512)).keep (Below.alloc (Below.refl _ _) (Nat.le_refl _) _))) rfl ?_
 refine ⟨w.heap.size+1,rfl,by omega,?_,Below.alloc (Below.alloc (Below.refl _ _) (Nat.le_refl _) _) (by simp) _⟩
 have:=own_zeros (w.alloc (.cells #[.int .i64 n,.slice (some ⟨w.heap.size+1,0,none⟩) 512 512] 131)) 512 (by omega)
 rw [←HN.out]at this
 have e:(w.alloc (.cells #[.int .i64 n,.slice (some ⟨w.heap.size+1,0,none⟩) 512 512] 131)).heap.size=w.heap.size+1:=by simp
 rw [e]at this
 exact own_base this (by omega)
end Jrn
end Go.Proofs.YtfcikkechphmaaaGreatDoor
