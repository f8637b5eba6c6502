/- Pages that are made, and what is written into them; no statement of the seat is proved here. -/
import Derived.Test.YtenajbfeojljdaaGreatDoorV15
import Derived.Test.YtenajbfeojljdaaGreatDoorV17
set_option maxHeartbeats 16000000
set_option maxRecDepth 20000
namespace Go.Proofs.YtenajbfeojljdaaGreatDoor
namespace Jrn
open Go.RowKit
open Cch (Fr)
variable {fn:Func}
theorem results_cell1{p:Tmp}{ty:TypeId}(h:fn.results = #[.cell p ty])(tmps:Array Value)(P:Program)(w:World) :
  (results fn tmps).run P w=((asAddr (tmps.getD p undef)).run P w).andThen fun a w₁=>(loadVar ty a).run P w₁:=by
 simp only [results,h]
 simp [Sem.run_bind,Result.andThen]
theorem ret_pg{a:Tmp}{t:TypeId}(h:fn.results = #[.cell a t])(ha:∀ W,(isAgg t).run Tryz.prog W=.ok true W)(hs:∀ W,(Go.sizeOf t).run Tryz.prog W=.ok 2 W){tmps:Array Value}{W:World}{q:Nat}{p:Int}{ao:Option Addr}{n cap:Nat}
  (hp:tmps.getD a undef=.pointer (some ⟨q,0,none⟩)) (hb:RB t W q p ao n cap):(results fn tmps).run Tryz.prog W=.ok (.agg #[.int .i64 p,.slice ao n cap]) W:=by
 rw [results_cell1 h,hp]
 simp [asAddr,load_rec ha hs hb]
def nul:List Nat:=List.replicate 512 0
theorem make512(w:World):(Instr.makeSlice 48 (.int .i64 512) (.int .i64 512)).run Tryz.prog w=.ok (.slice (some ⟨w.heap.size,0,none⟩) 512 512) (w.alloc (.cells (Array.replicate 512 (.int .u8 0)) 5)):=make_lit 512 512 rfl (by omega) w
theorem blank_any(n:Int)(w:World):Calls Tryz.prog 142 #[.int .i64 n] w fun e w'=>∃ g,e=.returned (Pv2 n g 0 512)∧w.heap.size≤g∧Row5 w' w.heap.size g 512 nul∧Below w.heap.size w w':=by
 obtain ⟨NN,hNN⟩:∃ NN,NN=Array.replicate 512 (Value.int .u8 0):=⟨_,rfl⟩
 have mk:∀ W,(Instr.makeSlice 48 (.int .i64 512) (.int .i64 512)).run Tryz.prog W=.ok (.slice (some ⟨W.heap.size,0,none⟩) 512 512) (W.alloc (.cells NN 5)):=fun W=>by rw [hNN];exact make512 W
 have HN:=hid hNN
 clear hNN
 unfold Pv2
 go_enter Tryz.func142,Tryz.ntmps142
 go_wp2
 refine bodyPost_ret (ret_pg rfl Tryz.isAgg103 Tryz.sizeOf103 rfl (((RB.new 103 w n (some ⟨w.heap.size+1,0,none⟩) 512 512)).keep (Below.alloc (Below.refl _ _) (Nat.le_refl _) _))) rfl ?_
 refine ⟨w.heap.size+1,rfl,by omega,?_,Below.alloc (Below.alloc (Below.refl _ _) (Nat.le_refl _) _) (by simp) _⟩
 have:=own_zeros (w.alloc (.cells #[.int .i64 n,.slice (some ⟨w.heap.size+1,0,none⟩) 512 512] 103)) 512 (by omega)
 rw [←HN.out]at this
 have e:(w.alloc (.cells #[.int .i64 n,.slice (some ⟨w.heap.size+1,0,none⟩) 512 512] 103)).heap.size=w.heap.size+1:=by simp
 rw [e]at this
 exact own_base this (by omega)
theorem fr_row{S:Nat→Prop}{w w1 w2:World}(h:Below w.heap.size w w1)(k:Fr S w1 w2):Fr S w w2:=(Fr.of_below h).trans k (fun _ _ h=>h)
theorem lead_any(num:Int)(B g cap:Nat)(xs:List Nat)(f c:Nat)(w:World)(h:Row5 w B g cap xs)(hf:f<18446744073709551616)(hc:c<18446744073709551616)(hfi:f≤9223372036854775807)(hci:c≤9223372036854775807) :
  Calls Tryz.prog 144 #[Pv2 num g 0 cap,.int .i64 (f:Int),.int .i64 (c:Int)] w fun e w'=>e=.returned (.tuple #[])∧Row5 w' B g cap (putAt (putAt xs 8 (putN f 4 false)) 12 (putN c 4 false))∧Fr (fun k=>k=g) w w':=by
 have HB:=hid (show Below w.heap.size w (w.alloc (.cells #[.int .i64 num,.slice (some ⟨g,0,none⟩) 512 cap] 105)) from Below.alloc (Below.refl _ _) (Nat.le_refl _) _)
 have H0:=hid (h.fr (E:=fun _=>False) (Fr.of_below HB.out) (fun h=>h))
 have HX:=hid (RB.new 105 w num (some ⟨g,0,none⟩) 512 cap)
 have C1:=hid (write_any num B g cap xs 8 4 f (f:Int) _ H0.out (by omega) (by omega) (by omega) (by rw [IntKind.wrap_u64];omega))
 have hgl:=h.lt
 have C2:=hid (fun w1 (h1:Row5 w1 B g cap (putAt xs 8 (putN f 4 false)))=>write_any num B g cap _ 12 4 c (c:Int) w1 h1 (by omega) (by omega) (by omega) (by rw [IntKind.wrap_u64];omega))
 have HG:=hid hgl
 clear h hgl hf hc hfi hci
 unfold Pv2 at *
 have t0:Hid True:=hid trivial
 go_enter Tryz.func144,Tryz.ntmps144
 go_wp2_with (first
  | (go_at_call 154;clear t0;refine C1.out.mono ?_;rintro e w1 ⟨rfl,hr1,hf1⟩;have R1:=hid hr1;have F1:=hid hf1;obtain ⟨b0,b1⟩:=((show RB 105 w1 w.heap.size num (some ⟨g,0,none⟩) 512 cap from (hf1.blk w.heap.size (by simp) (fun e=>by have:=HG.out;omega)).trans HX.out)).cells;clear hr1 hf1)
  | (go_at_call 154;refine (C2.out w1 R1.out).mono ?_;rintro e w2 ⟨rfl,hr2,hf2⟩;have R2:=hid hr2;have F2:=hid hf2;clear hr2 hf2))
 go_end0
 exact ⟨rfl,R2.out,fr_row HB.out (F1.out.trans F2.out (fun _ _ h=>h))⟩
end Jrn
end Go.Proofs.YtenajbfeojljdaaGreatDoor
