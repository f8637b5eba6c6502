/- What ReadRecord returns; no statement of the seat is proved here. -/
import Derived.Test.YtfcikkechphmaaaGreatDoorW13
import Derived.Test.YtfcikkechphmaaaGreatDoorW14
set_option maxHeartbeats 16000000
set_option maxRecDepth 20000
namespace Go.Proofs.YtfcikkechphmaaaGreatDoor
namespace Jrn
open Go.RowKit
variable {t:TypeId}
theorem load_rec(ha:∀ W,(isAgg t).run Tryz.prog W=.ok true W)(hs:∀ W,(Go.sizeOf t).run Tryz.prog W=.ok 2 W){W:World}{q:Nat}{p:Int}{ao:Option Addr}{n cap:Nat}(h:RB t W q p ao n cap) :
  (loadVar t ⟨q,0,none⟩).run Tryz.prog W=.ok (.agg #[.int .i64 p,.slice ao n cap]) W:=by
 obtain ⟨h0,h1,_⟩:=h.cells
 have hl:=run_loadCells_list (P:=Tryz.prog) W ⟨q,0,none⟩ [.int .i64 p,.slice ao n cap] (by
  intro j v hj
  match j,hj with
  | 0,hj=>simp at hj;subst hj;simpa [Addr.add] using h0
  | 1,hj=>simp at hj;subst hj;simpa [Addr.add] using h1
  | j+2,hj=>simp at hj)
 simp at hl
 simp [loadVar,ha,hs,hl]
theorem ret_rec{fn:Func}{a u:Tmp}(h:fn.results = #[.cell a t,.tmp u])(ha:∀ W,(isAgg t).run Tryz.prog W=.ok true W)(hs:∀ W,(Go.sizeOf t).run Tryz.prog W=.ok 2 W){tmps:Array Value}{W:World}{q:Nat}{p:Int}{ao:Option Addr}{n cap:Nat}
  (hp:tmps.getD a undef=.pointer (some ⟨q,0,none⟩)) (hb:RB t W q p ao n cap):(results fn tmps).run Tryz.prog W=.ok (.tuple #[.agg #[.int .i64 p,.slice ao n cap],tmps.getD u undef]) W:=by
 rw [results_cell_tmp h,hp]
 simp [asAddr,load_rec ha hs hb]
theorem RB.set{W:World}{q:Nat}{p:Int}{ao:Option Addr}{n cap:Nat}(h:RB t W q p ao n cap)(p':Int)(ao':Option Addr)(n' cap':Nat) :
  RB t ((W.setCell ⟨q,0,none⟩ (.int .i64 p')).setCell ⟨q,1,none⟩ (.slice ao' n' cap')) q p' ao' n' cap':=by
 have h1:=heap_setCell_same W q 0 _ t (.int .i64 p') h
 have h2:=heap_setCell_same _ q 1 _ t (.slice ao' n' cap') h1
 unfold RB
 rw [h2]
 simp
end Jrn
end Go.Proofs.YtfcikkechphmaaaGreatDoor
