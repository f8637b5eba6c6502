/- The pages of a chain; no statement of the seat is proved here. -/
import Derived.Test.YtneemfbnjkcflaaGreatDoorW37
set_option maxHeartbeats 16000000
set_option maxRecDepth 20000
namespace Go.Proofs.YtneemfbnjkcflaaGreatDoor
namespace Spl
open Go.RowKit Go.Maps
open Dsk (gt hid undrew keep_old keep_cell lt_cell)
open Jrn (Rd bs bs_length bs_one bs_get rd_own Row5 putN numAt)
open Cch (Fr TwoKept RPost Rec put_other)
theorem chain_any(hb:Nat)(first cnt:Int)(w:World):Calls Tryz.prog 27 #[.pointer (some ⟨hb,0,none⟩),.int .i64 first,.int .i64 cnt] w fun e w'=>e=.returned (.func (.func 55) #[] #[.pointer (some ⟨w.heap.size+1,0,none⟩),.pointer (some ⟨w.heap.size+1+1,0,none⟩),.pointer (some ⟨w.heap.size,0,none⟩)])∧w'=((w.alloc (.cells #[.pointer (some ⟨hb,0,none⟩)] 25)).alloc (.cells #[.int .i64 first] 3)).alloc (.cells #[.int .i64 cnt] 3):=by
 go_enter Tryz.func27,Tryz.ntmps27
 go_wp2
 go_ret
 exact ⟨rfl,rfl⟩
def pgV(P:List Pg)(first:Int)(k:Nat):List Value:=(List.range k).map (fun j=>Value.int .i64 (pgK P first j))
theorem ret_cells{P:Program}{fn:Func}{a b:Tmp}{s t:TypeId}(h:fn.results = #[.cell a s,.cell b t])(hs:∀ W,(isAgg s).run P W=.ok false W)(ht:∀ W,(isAgg t).run P W=.ok false W){tmps:Array Value}{W:World}{q r:Nat}{x y:Value}
  (ha:tmps.getD a undef=.pointer (some ⟨q,0,none⟩)) (hb:tmps.getD b undef=.pointer (some ⟨r,0,none⟩)) (hx:W.cell? ⟨q,0,none⟩=some x) (hy:W.cell? ⟨r,0,none⟩=some y):(results fn tmps).run P W=.ok (.tuple #[x,y]) W:=by
 have ha':tmps[a]?.getD undef=.pointer (some ⟨q,0,none⟩):=by simpa using ha
 have hb':tmps[b]?.getD undef=.pointer (some ⟨r,0,none⟩):=by simpa using hb
 have l1:(loadVar s ⟨q,0,none⟩).run P W=.ok x W:=by simp [loadVar,hs,hx]
 have l2:(loadVar t ⟨r,0,none⟩).run P W=.ok y W:=by simp [loadVar,ht,hy]
 simp only [results,h]
 simp [Sem.run_bind,Result.andThen,ha',hb',asAddr,l1,l2]
theorem agg31(W:World):(isAgg 31).run Tryz.prog W=.ok false W:=by kernel_rfl
theorem agg34(W:World):(isAgg 34).run Tryz.prog W=.ok false W:=by kernel_rfl
theorem countN(n:Nat)(h1:1≤n):countI (n:Int)=((n - 1)/508+1:Nat):=by unfold countI;rw [if_neg (by omega)];omega
theorem al_last(w:World)(o:Obj){k:Nat}(hk:k=w.heap.size):(w.alloc o).heap[k]? = some o:=by subst hk;exact heap_alloc_new w o
theorem al_step{w:World}{o v:Obj}{k:Nat}(h:w.heap[k]? = some v):(w.alloc o).heap[k]? = some v:=(heap_alloc_old w o (Array.getElem?_eq_some_iff.1 h).1).trans h
theorem al7(w:World)(a b c d e f g:Obj):(((((((w.alloc a).alloc b).alloc c).alloc d).alloc e).alloc f).alloc g).heap[w.heap.size+0]? = some a∧(((((((w.alloc a).alloc b).alloc c).alloc d).alloc e).alloc f).alloc g).heap[w.heap.size+1]? = some b∧(((((((w.alloc a).alloc b).alloc c).alloc d).alloc e).alloc f).alloc g).heap[w.heap.size+2]? = some c∧(((((((w.alloc a).alloc b).alloc c).alloc d).alloc e).alloc f).alloc g).heap[w.heap.size+3]? = some d∧(((((((w.alloc a).alloc b).alloc c).alloc d).alloc e).alloc f).alloc g).heap[w.heap.size+4]? = some e∧(((((((w.alloc a).alloc b).alloc c).alloc d).alloc e).alloc f).alloc g).heap[w.heap.size+5]? = some f∧(((((((w.alloc a).alloc b).alloc c).alloc d).alloc e).alloc f).alloc g).heap[w.heap.size+6]? = some g:=by
 exact ⟨al_step (al_step (al_step (al_step (al_step (al_step (al_last w a rfl)))))),al_step (al_step (al_step (al_step (al_step (al_last _ b (by simp)))))),al_step (al_step (al_step (al_step (al_last _ c (by simp))))),al_step (al_step (al_step (al_last _ d (by simp)))),al_step (al_step (al_last _ e (by simp))),al_step (al_last _ f (by simp)),al_last _ g (by simp)⟩
section
variable {arm:Prop} {room croom K:Nat} {p q:Nat} {R:Nat→Prop} {t:RS} {w:World}
def pgBx(s hb cnt:Nat)(first:Int):List (Nat×TypeId×Value):=[(s,28,.slice none 0 0),(s+1,31,.int .i64 0),(s+4,25,.pointer (some ⟨hb,0,none⟩)),(s+5,3,.int .i64 first),(s+6,3,.int .i64 (cnt:Int))]
variable {T:TypeId} {v:Value} {b:Nat} {W:World}
theorem boxed_cell(h:W.heap[b]? = some (.cells #[v] T (0,0))):W.cell? ⟨b,0,none⟩=some v∧W.frozen? ⟨b,0,none⟩=false:=by
 constructor<;>simp [World.cell?,World.frozen?,h]
attribute [local go_sem] Oper.semAt_some
variable {us:List Value} {e:TypeId} {hb S mb ob:Nat}
theorem CI.up{K':Nat}{Bx:List (Nat×TypeId×Value)}(h:CI arm room croom K p q R t w hb S mb ob T e Bx v us W)(hk:K≤K'):CI arm room croom K' p q R t w hb S mb ob T e Bx v us W:=
 ⟨h.prg.up hk,h.row,h.sep,h.out,h.bx,h.heap,h.rok,h.sz⟩
def PgI(arm:Prop)(room croom K:Nat)(p q:Nat)(R:Nat→Prop)(t:RS)(w:World)(hb cnt:Nat)(first:Int)(k:Nat)(W:World):Prop:=
 (k≤cnt∧∀ j,j<k→okK t.pages first j)∧∃ ao c,CI arm room croom (K+k) p q R t w hb (w.heap.size+9) (w.heap.size+2) (w.heap.size+3) 28 3 (pgBx w.heap.size hb cnt first) (.slice ao k c) (pgV t.pages first k) W
structure PgX (arm:Prop) (room croom K:Nat) (p q:Nat) (R:Nat→Prop) (t:RS) (w:World) (hb S mb a b:Nat) (T:TypeId) (W:World):Prop where
 prg:∃ v,PrgAt arm room croom K W p q (Own2 (QQ R w.heap.size S mb) v) t
 r1:W.heap[a]? = some (.cells #[.slice none 0 0] T (0,0))
 r2:W.heap[b]? = some (.cells #[.int .i64 9] 31 (0,0))
 rok:Rok R w W
 heap:HeapAt W hb p
variable {a:Nat}
theorem PgX.put{Bx:List (Nat×TypeId×Value)}(L:Lie R w hb S mb ob Bx)(h:PgX arm room croom K p q R t w hb S mb a b T W){l:Nat}(o:Obj)(h1:S≤l+2)(h2:l<S)(ha:a+2<S)(hb2:b+2<S):PgX arm room croom K p q R t w hb S mb a b T (W.putObj l o):=by
 have hq:=L.two h1 h2
 have hf:=put_fr W l o
 obtain ⟨v,hp⟩:=h.prg
 refine ⟨⟨v,hp.mine (fr_imp hf (fun b hb=>by subst hb;exact Or.inl hq))⟩,(put_other (by omega)).trans h.r1,(put_other (by omega)).trans h.r2,h.rok.mine hf (fun b hb=>by have:=L.mbS;omega),h.heap.fr hf (fun e=>by have:=L.lt hb L.hbR;have:=L.mbS;omega)⟩
variable {x y:Value} {T1:TypeId}
theorem CI.err{Bx:List (Nat×TypeId×Value)}(L:Lie R w hb S mb ob Bx)(h:CI arm room croom K p q R t w hb S mb ob T1 e Bx v us W)(ha:(a,T,x)∈Bx)(hbm:(b,31,y)∈Bx)(hab:a≠b) :
  PgX arm room croom K p q R t w hb S mb a b T ((W.setCell ⟨a,0,none⟩ (.slice none 0 0)).setCell ⟨b,0,none⟩ (.int .i64 9))∧TwoKept (S - 2) W ((W.setCell ⟨a,0,none⟩ (.slice none 0 0)).setCell ⟨b,0,none⟩ (.int .i64 9)):=by
 have hA:=L.bx _ ha;have hB:=L.bx _ hbm
 simp only at hA hB
 have a1:=h.bx _ ha;have b1:=h.bx _ hbm
 have F:Fr (fun k=>k=a∨k=b) W ((W.setCell ⟨a,0,none⟩ (.slice none 0 0)).setCell ⟨b,0,none⟩ (.int .i64 9)):=⟨rfl,rfl,rfl,by simp,fun k _ hk=>by rw [heap_setCell_other _ _ _ _ (fun e=>hk (Or.inr e)),heap_setCell_other _ _ _ _ (fun e=>hk (Or.inl e))]⟩
 have two:∀ j,S≤j+2→((W.setCell ⟨a,0,none⟩ (.slice none 0 0)).setCell ⟨b,0,none⟩ (.int .i64 9)).heap[j]? = W.heap[j]?:=fun j hj=>by rw [heap_setCell_other _ _ _ _ (by simp only;omega),heap_setCell_other _ _ _ _ (by simp only;omega)]
 refine ⟨⟨⟨v,h.prg.mine (fr_imp F (fun k hk=>?_))⟩,?_,?_,h.rok.mine F (fun k hk=>by rcases hk with rfl |rfl<;>omega),h.heap.fr F (fun e=>by have:=L.lt hb L.hbR;omega)⟩,⟨two _ (by omega),two _ (by omega)⟩⟩
 ·rcases hk with rfl |rfl
  ·exact Or.inl (Or.inr ⟨hA.1,by omega,hA.2.2.1⟩)
  ·exact Or.inl (Or.inr ⟨hB.1,by omega,hB.2.2.1⟩)
 ·rw [heap_setCell_other _ _ _ _ (by simpa using hab)]
  have:=heap_setCell_same W a 0 _ T (.slice none 0 0) a1
  rw [this];simp
 ·have b2:(W.setCell ⟨a,0,none⟩ (.slice none 0 0)).heap[b]? = some (.cells #[y] 31 (0,0)):=by rw [heap_setCell_other _ _ _ _ (by simpa using Ne.symm hab)];exact b1
  have:=heap_setCell_same _ b 0 _ 31 (.int .i64 9) b2
  rw [this];simp
theorem CI.fin{Bx:List (Nat×TypeId×Value)}(L:Lie R w hb S mb ob Bx)(h:CI arm room croom K p q R t w hb S mb ob T1 e Bx v us W)(ha:(a,T,x)∈Bx)(hbm:(b,31,y)∈Bx)(hab:a≠b)(l:Nat)(o:Obj)(h1:S≤l+2)(h2:l<S) :
  ((W.setCell ⟨a,0,none⟩ v).setCell ⟨b,0,none⟩ (.int .i64 0)).heap[l]? = W.heap[l]?∧(((W.setCell ⟨a,0,none⟩ v).setCell ⟨b,0,none⟩ (.int .i64 0)).putObj l o).cell? ⟨a,0,none⟩=some v∧(((W.setCell ⟨a,0,none⟩ v).setCell ⟨b,0,none⟩ (.int .i64 0)).putObj l o).cell? ⟨b,0,none⟩=some (.int .i64 0) ∧
  (((W.setCell ⟨a,0,none⟩ v).setCell ⟨b,0,none⟩ (.int .i64 0)).putObj l o).ownsRow w.heap.size e 1 v us.length us∧PrgAt arm room croom K (((W.setCell ⟨a,0,none⟩ v).setCell ⟨b,0,none⟩ (.int .i64 0)).putObj l o) p q (Own2 R v) t∧Rok R w (((W.setCell ⟨a,0,none⟩ v).setCell ⟨b,0,none⟩ (.int .i64 0)).putObj l o):=by
 have hA:=L.bx _ ha;have hB:=L.bx _ hbm
 simp only at hA hB
 have a1:=h.bx _ ha;have b1:=h.bx _ hbm
 obtain ⟨W2,hW2⟩:∃ W2,W2=(W.setCell ⟨a,0,none⟩ v).setCell ⟨b,0,none⟩ (.int .i64 0):=⟨_,rfl⟩
 have F:Fr (fun k=>k=a∨k=b) W W2:=by rw [hW2];exact ⟨rfl,rfl,rfl,by simp,fun k _ hk=>by rw [heap_setCell_other _ _ _ _ (fun e=>hk (Or.inr e)),heap_setCell_other _ _ _ _ (fun e=>hk (Or.inl e))]⟩
 have ka:W2.heap[a]? = some (.cells #[v] T (0,0)):=by
  rw [hW2,heap_setCell_other _ _ _ _ (by simpa using hab)]
  have:=heap_setCell_same W a 0 _ T v a1
  rw [this];simp
 have kb:W2.heap[b]? = some (.cells #[.int .i64 0] 31 (0,0)):=by
  have b2:(W.setCell ⟨a,0,none⟩ v).heap[b]? = some (.cells #[y] 31 (0,0)):=by rw [heap_setCell_other _ _ _ _ (by simpa using Ne.symm hab)];exact b1
  have:=heap_setCell_same _ b 0 _ 31 (.int .i64 0) b2
  rw [hW2,this];simp
 have kl:W2.heap[l]? = W.heap[l]?:=by rw [hW2,heap_setCell_other _ _ _ _ (by simp only;omega),heap_setCell_other _ _ _ _ (by simp only;omega)]
 rw [←hW2]
 have F3:=put_fr W2 l o
 have qa:QQ R w.heap.size S mb a:=Or.inr ⟨hA.1,by omega,hA.2.2.1⟩
 have qb:QQ R w.heap.size S mb b:=Or.inr ⟨hB.1,by omega,hB.2.2.1⟩
 have hq:=L.two h1 h2
 have la:a≠l:=by omega
 have lb:b≠l:=by omega
 refine ⟨kl,(boxed_cell ((put_other la).trans ka)).1,(boxed_cell ((put_other lb).trans kb)).1,?_,?_,?_⟩
 ·exact own_fr (own_fr h.row F (fun k hk e=>by rcases e with rfl |rfl;exact h.sep _ hk qa;exact h.sep _ hk qb)) F3 (fun k hk e=>h.sep k hk (e▸hq))
 ·refine ((h.prg.mine (fr_imp F (fun k hk=>?_))).mine (fr_imp F3 (fun k hk=>?_))).less (fun k hk=>?_)
  ·rcases hk with rfl |rfl
   ·exact Or.inl qa
   ·exact Or.inl qb
  ·subst hk;exact Or.inl hq
  ·rcases hk with hk |hk
   ·exact Or.inl (Or.inl hk)
   ·exact Or.inr hk
 ·exact (h.rok.mine F (fun k hk=>by rcases hk with rfl |rfl<;>omega)).mine F3 (fun k hk=>by have:=L.mbS;omega)
end
end Spl
end Go.Proofs.YtneemfbnjkcflaaGreatDoor
