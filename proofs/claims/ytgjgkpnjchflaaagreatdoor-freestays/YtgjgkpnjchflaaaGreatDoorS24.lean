/- What Parse returns; no statement of the seat is proved here. -/
import Derived.Test.YtgjgkpnjchflaaaGreatDoorS21
import Derived.Test.YtgjgkpnjchflaaaGreatDoorS17
import Derived.Test.YtgjgkpnjchflaaaGreatDoorS22
import Derived.Test.YtgjgkpnjchflaaaGreatDoorS23
set_option maxHeartbeats 16000000
set_option maxRecDepth 20000
namespace Go.Proofs.YtgjgkpnjchflaaaGreatDoor
namespace Jrn
open Go.RowKit
def RowIs(W:World)(g:Nat)(l:List (Int×Option Addr×Nat×Nat)):Prop:=W.heap[g]? = some (.cells (rv l).toArray 168 (0,0))
variable {g:Nat} {W:World}
theorem RowIs.cellAt{l:List (Int×Option Addr×Nat×Nat)}(h:RowIs W g l)(j:Nat):W.cell? ⟨g,j,none⟩=(rv l)[j]?:=by
 unfold RowIs at h
 simp [World.cell?,h]
theorem RowIs.frozenAt{l:List (Int×Option Addr×Nat×Nat)}(h:RowIs W g l)(j:Nat):W.frozen? ⟨g,j,none⟩=false:=by
 unfold RowIs at h
 simp [World.frozen?,h]
def zr:Int×Option Addr×Nat×Nat:=(0,none,0,0)
theorem rv_get(l:List (Int×Option Addr×Nat×Nat))(r:Int×Option Addr×Nat×Nat)(m:List (Int×Option Addr×Nat×Nat)):(rv (l++r::m))[l.length*2]? = some (.int .i64 r.1)∧(rv (l++r::m))[l.length*2+1]? = some (.slice r.2.1 r.2.2.1 r.2.2.2):=by
 rw [rv_append]
 constructor
 ·rw [List.getElem?_append_right (by rw [rv_length];omega),rv_length,Nat.sub_self];rfl
 ·rw [List.getElem?_append_right (by rw [rv_length];omega),rv_length,show l.length*2+1 - l.length*2=1 by omega];rfl
theorem rv_set(l:List (Int×Option Addr×Nat×Nat))(r:Int×Option Addr×Nat×Nat)(m:List (Int×Option Addr×Nat×Nat))(p:Int)(a:Option Addr)(n c:Nat):((rv (l++r::m)).set (l.length*2) (.int .i64 p)).set (l.length*2+1) (.slice a n c)=rv (l++(p,a,n,c)::m):=by
 rw [rv_append,rv_append,List.set_append_right _ _ (by rw [rv_length];omega),rv_length,Nat.sub_self,List.set_append_right _ _ (by rw [rv_length];omega),rv_length,show l.length*2+1 - l.length*2=1 by omega]
 rfl
theorem RowIs.set{l:List (Int×Option Addr×Nat×Nat)}{r:Int×Option Addr×Nat×Nat}{m:List (Int×Option Addr×Nat×Nat)}(h:RowIs W g (l++r::m))(p:Int)(a:Option Addr)(n c:Nat) :
  RowIs ((W.setCell ⟨g,l.length*2,none⟩ (.int .i64 p)).setCell ⟨g,l.length*2+1,none⟩ (.slice a n c)) g (l++(p,a,n,c)::m):=by
 have h1:=heap_setCell_same W g (l.length*2) _ 168 (.int .i64 p) h
 have h2:=heap_setCell_same _ g (l.length*2+1) _ 168 (.slice a n c) h1
 unfold RowIs
 rw [h2,←rv_set l r m p a n c]
 simp
theorem rv_zero(n:Nat):∀ i,i<n*2→(rv (List.replicate n zr))[i]? = some (if i % 2=0 then .int .i64 0 else .slice none 0 0):=by
 induction n with
 | zero=>intro i h;omega
 | succ n ih=>
  intro i h
  match i,h with
  | 0,_=>rfl
  | 1,_=>rfl
  | i+2,h=>
   have:=ih i (by omega)
   rw [show (i+2) % 2=i % 2 by omega]
   simpa [List.replicate_succ,rv] using this
theorem made_rv(n:Nat):madeCells (Value.agg #[.int .i64 0,.slice none 0 0]).cells (n*2)=(rv (List.replicate n zr)).toArray:=by
 apply Array.ext'
 apply List.ext_getElem?
 intro i
 by_cases h:i<n*2
 ·rw [show ((rv (List.replicate n zr)).toArray.toList)[i]? = (rv (List.replicate n zr))[i]? from rfl,rv_zero n i h]
  simp only [madeCells,Array.toList_map,Array.toList_range,List.getElem?_map,List.getElem?_range h,Option.map_some,Value.cells]
  rcases Nat.mod_two_eq_zero_or_one i with h2 |h2<;>simp [h2]
 ·rw [List.getElem?_eq_none (by simp [size_madeCells];omega),List.getElem?_eq_none (by simp [rv_length];omega)]
theorem make27(n:Nat)(hn:n≤100000)(w:World):(Instr.makeSlice 136 (.int .i64 (n:Int)) (.int .i64 (n:Int))).run Tryz.prog w=.ok (.slice (some ⟨w.heap.size,0,none⟩) n n) (w.alloc (.cells (rv (List.replicate n zr)).toArray 168)):=by
 obtain ⟨i,hi,hz0,hz1,hz2⟩:=info_parts Tryz.info168
 have hr:=run_make (P:=Tryz.prog) w 136 168 i _ Tryz.underlying136 hi hz0 .i64 .i64 n n (by omega) (by omega) (by rw [hz2];omega) (by omega)
 rw [hr,hz1,Int.toNat_natCast,made_rv]
variable {u v:Tmp} {fn:Func}
theorem results_cell_tmp2{p:Tmp}{ty:TypeId}(h:fn.results = #[.cell p ty,.tmp u,.tmp v])(tmps:Array Value)(P:Program)(w:World) :
  (results fn tmps).run P w=((asAddr (tmps.getD p undef)).run P w).andThen fun a w₁=>((loadVar ty a).run P w₁).andThen fun x w₂=>.ok (.tuple #[x,tmps.getD u undef,tmps.getD v undef]) w₂:=by
 simp only [results,h]
 simp [Sem.run_bind,Result.andThen]
variable {t:TypeId}
theorem ret_head3{a:Tmp}(h:fn.results = #[.cell a t,.tmp u,.tmp v])(ha:∀ W,(isAgg t).run Tryz.prog W=.ok true W)(hs:∀ W,(Go.sizeOf t).run Tryz.prog W=.ok 3 W){tmps:Array Value}{W:World}{q:Nat}{c p:Int}{n:Nat}
  (hp:tmps.getD a undef=.pointer (some ⟨q,0,none⟩)) (hb:HB t W q c p n):(results fn tmps).run Tryz.prog W=.ok (.tuple #[.agg #[.int .i64 c,.int .i64 p,.int .u64 (n:Int)],tmps.getD u undef,tmps.getD v undef]) W:=by
 rw [results_cell_tmp2 h,hp]
 simp [asAddr,load_head ha hs hb]
variable {i:Nat}
theorem rep_step{C:Nat}(h:i<C):List.replicate (C - i) zr=zr::List.replicate (C - (i+1)) zr:=by
 rw [show C - i=(C - (i+1))+1 by omega,List.replicate_succ]
theorem row_get0{l m:List (Int×Option Addr×Nat×Nat)}(h:i=l.length):(rv (l++zr::m))[i*2]? = some (.int .i64 0):=by rw [h];exact (rv_get l zr m).1
theorem row_get1{l m:List (Int×Option Addr×Nat×Nat)}(h:i=l.length):(rv (l++zr::m))[i*2+1]? = some (.slice none 0 0):=by rw [h];exact (rv_get l zr m).2
theorem HB.kind{q:Nat}{c p:Int}{n:Nat}(h:HB t W q c p n)(j:Nat)(v:Value)(hv:W.cell? ⟨q,j,none⟩=some v):(∃ z,v=.int .i64 z)∨∃ z,v=.int .u64 z:=by
 rw [World.cell?]at hv
 unfold HB at h
 simp only [h]at hv
 match j,hv with
 | 0,hv=>simp at hv;exact Or.inl ⟨_,hv.symm⟩
 | 1,hv=>simp at hv;exact Or.inl ⟨_,hv.symm⟩
 | 2,hv=>simp at hv;exact Or.inr ⟨_,hv.symm⟩
 | j+3,hv=>simp at hv
end Jrn
end Go.Proofs.YtgjgkpnjchflaaaGreatDoor
