/- The pages of a chain; no statement of the seat is proved here. -/
import Derived.Test.YtneemfbnjkcflaaGreatDoorB36
set_option maxHeartbeats 16000000
set_option maxRecDepth 20000
namespace Go.Proofs.YtneemfbnjkcflaaGreatDoor
namespace Spl
open Go.RowKit Go.Maps
open Dsk (gt hid undrew keep_old keep_cell lt_cell)
open Jrn (Rd bs bs_length bs_one bs_get rd_own Row5 putN numAt)
open Cch (Fr TwoKept RPost Rec put_other)
theorem chain_any(hb:Nat)(first cnt:Int)(w:World):Calls Tryz.prog 27 #[.pointer (some ⟨hb,0,none⟩),.int .i64 first,.int .i64 cnt] w fun e w'=>e=.returned (.func (.func 55) #[] #[.pointer (some ⟨w.heap.size+1,0,none⟩),.pointer (some ⟨w.heap.size+1+1,0,none⟩),.pointer (some ⟨w.heap.size,0,none⟩)])∧w'=((w.alloc (.cells #[.pointer (some ⟨hb,0,none⟩)] 25)).alloc (.cells #[.int .i64 first] 3)).alloc (.cells #[.int .i64 cnt] 3):=by
 go_enter Tryz.func27,Tryz.ntmps27
 go_wp2
 go_ret
 exact ⟨rfl,rfl⟩
theorem make28(n:Nat)(hn:n≤1000000)(w:World):(Instr.makeSlice 28 (.int .i64 0) (.int .i64 (n:Int))).run Tryz.prog w=.ok (.slice (some ⟨w.heap.size,0,none⟩) 0 n) (w.alloc (.cells (Array.replicate n (.int .i64 0)) 3)):=by
 obtain ⟨i,hi,hz0,hz1,hz2⟩:=info_parts Cch.info3
 have hr:=run_make (P:=Tryz.prog) w 28 3 i (.int .i64 0) Tryz.underlying28 hi hz0 .i64 .i64 0 n (by omega) (by omega) (by rw [hz2];omega) (by omega)
 simp only [Int.toNat_natCast,hz1,Nat.mul_one]at hr
 rw [hr,show Array.replicate n (Value.int .i64 0)=(List.replicate n (Value.int .i64 0)).toArray by simp,←toList_madeCells_one,Array.toArray_toList]
 rfl
def PgOk(P:List Pg)(first:Int)(cnt:Nat):Prop:=(∀ k,k<cnt→okK P first k)∧pgK P first cnt=0
def pgV(P:List Pg)(first:Int)(k:Nat):List Value:=(List.range k).map (fun j=>Value.int .i64 (pgK P first j))
theorem pgV_len(P:List Pg)(first:Int)(k:Nat):(pgV P first k).length=k:=by simp [pgV]
theorem pgV_succ(P:List Pg)(first:Int)(k:Nat):pgV P first (k+1)=pgV P first k++[.int .i64 (pgK P first k)]:=by simp [pgV,List.range_succ]
theorem ret_cells{P:Program}{fn:Func}{a b:Tmp}{s t:TypeId}(h:fn.results = #[.cell a s,.cell b t])(hs:∀ W,(isAgg s).run P W=.ok false W)(ht:∀ W,(isAgg t).run P W=.ok false W){tmps:Array Value}{W:World}{q r:Nat}{x y:Value}
  (ha:tmps.getD a undef=.pointer (some ⟨q,0,none⟩)) (hb:tmps.getD b undef=.pointer (some ⟨r,0,none⟩)) (hx:W.cell? ⟨q,0,none⟩=some x) (hy:W.cell? ⟨r,0,none⟩=some y):(results fn tmps).run P W=.ok (.tuple #[x,y]) W:=by
 have ha':tmps[a]?.getD undef=.pointer (some ⟨q,0,none⟩):=by simpa using ha
 have hb':tmps[b]?.getD undef=.pointer (some ⟨r,0,none⟩):=by simpa using hb
 have l1:(loadVar s ⟨q,0,none⟩).run P W=.ok x W:=by simp [loadVar,hs,hx]
 have l2:(loadVar t ⟨r,0,none⟩).run P W=.ok y W:=by simp [loadVar,ht,hy]
 simp only [results,h]
 simp [Sem.run_bind,Result.andThen,ha',hb',asAddr,l1,l2]
theorem agg28(W:World):(isAgg 28).run Tryz.prog W=.ok false W:=by kernel_rfl
theorem agg31(W:World):(isAgg 31).run Tryz.prog W=.ok false W:=by kernel_rfl
theorem agg34(W:World):(isAgg 34).run Tryz.prog W=.ok false W:=by kernel_rfl
theorem countN(n:Nat)(h1:1≤n):countI (n:Int)=((n - 1)/508+1:Nat):=by unfold countI;rw [if_neg (by omega)];omega
theorem al_last(w:World)(o:Obj){k:Nat}(hk:k=w.heap.size):(w.alloc o).heap[k]? = some o:=by subst hk;exact heap_alloc_new w o
theorem al_step{w:World}{o v:Obj}{k:Nat}(h:w.heap[k]? = some v):(w.alloc o).heap[k]? = some v:=(heap_alloc_old w o (Array.getElem?_eq_some_iff.1 h).1).trans h
theorem al7(w:World)(a b c d e f g:Obj):(((((((w.alloc a).alloc b).alloc c).alloc d).alloc e).alloc f).alloc g).heap[w.heap.size+0]? = some a∧(((((((w.alloc a).alloc b).alloc c).alloc d).alloc e).alloc f).alloc g).heap[w.heap.size+1]? = some b∧(((((((w.alloc a).alloc b).alloc c).alloc d).alloc e).alloc f).alloc g).heap[w.heap.size+2]? = some c∧(((((((w.alloc a).alloc b).alloc c).alloc d).alloc e).alloc f).alloc g).heap[w.heap.size+3]? = some d∧(((((((w.alloc a).alloc b).alloc c).alloc d).alloc e).alloc f).alloc g).heap[w.heap.size+4]? = some e∧(((((((w.alloc a).alloc b).alloc c).alloc d).alloc e).alloc f).alloc g).heap[w.heap.size+5]? = some f∧(((((((w.alloc a).alloc b).alloc c).alloc d).alloc e).alloc f).alloc g).heap[w.heap.size+6]? = some g:=by
 exact ⟨al_step (al_step (al_step (al_step (al_step (al_step (al_last w a rfl)))))),al_step (al_step (al_step (al_step (al_step (al_last _ b (by simp)))))),al_step (al_step (al_step (al_step (al_last _ c (by simp))))),al_step (al_step (al_step (al_last _ d (by simp)))),al_step (al_step (al_last _ e (by simp))),al_step (al_last _ f (by simp)),al_last _ g (by simp)⟩
section
variable {arm:Prop} {room croom K:Nat} {p q:Nat} {R:Nat→Prop} {t:RS} {w:World}
def pgBx(s hb cnt:Nat)(first:Int):List (Nat×TypeId×Value):=[(s,28,.slice none 0 0),(s+1,31,.int .i64 0),(s+4,25,.pointer (some ⟨hb,0,none⟩)),(s+5,3,.int .i64 first),(s+6,3,.int .i64 (cnt:Int))]
variable {hb:Nat}
theorem pg_lie(hR:R hb)(hlt:∀ b,R b→b<w.heap.size)(cnt:Nat)(first:Int):Lie R w hb (w.heap.size+9) (w.heap.size+2) (w.heap.size+3) (pgBx w.heap.size hb cnt first):=by
 refine ⟨hR,hlt,by omega,fun x hx=>?_,by omega⟩
 simp only [pgBx,List.mem_cons,List.not_mem_nil,or_false]at hx
 rcases hx with rfl |rfl |rfl |rfl |rfl<;>(simp only;omega)
theorem pg_start(hb cnt:Nat)(first:Int)(hc:cnt≤1000000)(h:PrgAt arm room croom K w p q R t)(hh:HeapAt w hb p){W0 W:World}
  (hW0:W0=((((((w.alloc (.cells #[.slice none 0 0] 28)).alloc (.cells #[.int .i64 0] 31)).alloc (.cells (Array.replicate cnt (.int .i64 0)) 3)).alloc (.cells #[.slice (some ⟨w.heap.size+1+1,0,none⟩) 0 cnt] 28)).alloc (.cells #[.pointer (some ⟨hb,0,none⟩)] 25)).alloc (.cells #[.int .i64 first] 3)).alloc (.cells #[.int .i64 (cnt:Int)] 3))
  (hB:Below W0.heap.size W0 W) (hS:W0.heap.size+2≤W.heap.size):W0.heap.size=w.heap.size+7 ∧
  CI arm room croom K p q R t w hb (w.heap.size+9) (w.heap.size+2) (w.heap.size+3) 28 3 (pgBx w.heap.size hb cnt first) (.slice (some ⟨w.heap.size+2,0,none⟩) 0 cnt) [] W:=by
 have hs:W0.heap.size=w.heap.size+7:=by rw [hW0];simp
 have B0:Below w.heap.size w W0:=by
  rw [hW0];exact gt (gt (gt (gt (gt (gt (Below.alloc (Below.refl _ _) (Nat.le_refl _) _) (Below.alloc (Below.refl _ _) (Nat.le_refl _) _)) (Below.alloc (Below.refl _ _) (Nat.le_refl _) _)) (Below.alloc (Below.refl _ _) (Nat.le_refl _) _)) (Below.alloc (Below.refl _ _) (Nat.le_refl _) _)) (Below.alloc (Below.refl _ _) (Nat.le_refl _) _)) (Below.alloc (Below.refl _ _) (Nat.le_refl _) _)
 have BB:=gt B0 hB
 have hp:∀ i o,i<7→W0.heap[w.heap.size+i]? = some o→W.heap[w.heap.size+i]? = some o:=fun i o hi h=>(hB.block _ (by omega)).trans h
 have ha:=al7 w (.cells #[.slice none 0 0] 28) (.cells #[.int .i64 0] 31) (.cells (Array.replicate cnt (.int .i64 0)) 3) (.cells #[.slice (some ⟨w.heap.size+1+1,0,none⟩) 0 cnt] 28) (.cells #[.pointer (some ⟨hb,0,none⟩)] 25) (.cells #[.int .i64 first] 3) (.cells #[.int .i64 (cnt:Int)] 3)
 rw [←hW0]at ha
 obtain ⟨a0,a1,a2,a3,a4,a5,a6⟩:=ha
 have b0:=hp 0 _ (by omega) a0;have b1:=hp 1 _ (by omega) a1;have b2:=hp 2 _ (by omega) a2;have b3:=hp 3 _ (by omega) a3;have b4:=hp 4 _ (by omega) a4;have b5:=hp 5 _ (by omega) a5;have b6:=hp 6 _ (by omega) a6
 refine ⟨hs,?_,?_,?_,b3,?_,hh.keep BB,Rok.of_below BB,by omega⟩
 ·refine h.more BB (fun b hb'=>?_)
  rcases hb' with (h1 |h1) |h1
  ·exact Or.inl h1
  ·exact Or.inr ⟨h1.1,by omega⟩
  ·cases h1;exact Or.inr ⟨by simp,by simp only;omega⟩
 ·exact ⟨by simp,.inr ⟨w.heap.size+2,cnt,_,rfl,by omega,b2,Nat.zero_le _,by unfold maxLen;omega,by simp,by simp⟩⟩
 ·intro b hb' hq
  cases hb'
  rcases hq with hq |hq
  ·have:=h.lt hq;simp only at this;omega
  ·exact hq.2.2 rfl
 ·intro x hx
  simp only [pgBx,List.mem_cons,List.not_mem_nil,or_false]at hx
  rcases hx with rfl |rfl |rfl |rfl |rfl
  ·exact b0
  ·exact b1
  ·exact b4
  ·exact b5
  ·exact b6
variable {T:TypeId} {v:Value} {b:Nat} {W:World}
theorem boxed_cell(h:W.heap[b]? = some (.cells #[v] T (0,0))):W.cell? ⟨b,0,none⟩=some v∧W.frozen? ⟨b,0,none⟩=false:=by
 constructor<;>simp [World.cell?,World.frozen?,h]
attribute [local go_sem] Oper.semAt_some
variable {us:List Value} {e:TypeId} {S mb ob:Nat}
theorem CI.up{K':Nat}{Bx:List (Nat×TypeId×Value)}(h:CI arm room croom K p q R t w hb S mb ob T e Bx v us W)(hk:K≤K'):CI arm room croom K' p q R t w hb S mb ob T e Bx v us W:=
 ⟨h.prg.up hk,h.row,h.sep,h.out,h.bx,h.heap,h.rok,h.sz⟩
def PgI(arm:Prop)(room croom K:Nat)(p q:Nat)(R:Nat→Prop)(t:RS)(w:World)(hb cnt:Nat)(first:Int)(k:Nat)(W:World):Prop:=
 (k≤cnt∧∀ j,j<k→okK t.pages first j)∧∃ ao c,CI arm room croom (K+k) p q R t w hb (w.heap.size+9) (w.heap.size+2) (w.heap.size+3) 28 3 (pgBx w.heap.size hb cnt first) (.slice ao k c) (pgV t.pages first k) W
def PgM(arm:Prop)(room croom K:Nat)(p q:Nat)(R:Nat→Prop)(t:RS)(w:World)(hb cnt:Nat)(first:Int)(k:Nat)(x:LkD)(r:Int)(z:Nat)(W:World):Prop:=
 (z≠w.heap.size+7+1∧z<W.heap.size)∧(∀ j,j<k→okK t.pages first j)∧((r=0∧k<cnt∧okK t.pages first k∧x.pn=pgK t.pages first k∧w.heap.size+9≤z)∨(r=9∧¬PgOk t.pages first cnt)) ∧
 ∃ ao c Kx,(Kx≤K+cnt∧(r=0→Kx=K+k+1))∧(∀ b,(Value.slice ao k c).ownBlock=some b→r=0→b<z)∧CI arm room croom Kx p q R t w hb (w.heap.size+9) (w.heap.size+2) (w.heap.size+3) 28 3 (pgBx w.heap.size hb cnt first) (.slice ao k c) (pgV t.pages first k) W
def PgN(arm:Prop)(room croom K:Nat)(p q:Nat)(R:Nat→Prop)(t:RS)(w:World)(hb cnt:Nat)(first:Int)(k:Nat)(x:LkD)(r:Int)(z b:Nat)(W:World):Prop:=
 PgM arm room croom K p q R t w hb cnt first k x r z W∧LB W b x.pn x.nx x.ao x.n x.c
structure PgX (arm:Prop) (room croom K:Nat) (p q:Nat) (R:Nat→Prop) (t:RS) (w:World) (hb S mb a b:Nat) (T:TypeId) (W:World):Prop where
 prg:∃ v,PrgAt arm room croom K W p q (Own2 (QQ R w.heap.size S mb) v) t
 r1:W.heap[a]? = some (.cells #[.slice none 0 0] T (0,0))
 r2:W.heap[b]? = some (.cells #[.int .i64 9] 31 (0,0))
 rok:Rok R w W
 heap:HeapAt W hb p
variable {a:Nat}
theorem PgX.put{Bx:List (Nat×TypeId×Value)}(L:Lie R w hb S mb ob Bx)(h:PgX arm room croom K p q R t w hb S mb a b T W){l:Nat}(o:Obj)(h1:S≤l+2)(h2:l<S)(ha:a+2<S)(hb2:b+2<S):PgX arm room croom K p q R t w hb S mb a b T (W.putObj l o):=by
 have hq:=L.two h1 h2
 have hf:=put_fr W l o
 obtain ⟨v,hp⟩:=h.prg
 refine ⟨⟨v,hp.mine (fr_imp hf (fun b hb=>by subst hb;exact Or.inl hq))⟩,(put_other (by omega)).trans h.r1,(put_other (by omega)).trans h.r2,h.rok.mine hf (fun b hb=>by have:=L.mbS;omega),h.heap.fr hf (fun e=>by have:=L.lt hb L.hbR;have:=L.mbS;omega)⟩
variable {x y:Value} {T1:TypeId}
theorem CI.err{Bx:List (Nat×TypeId×Value)}(L:Lie R w hb S mb ob Bx)(h:CI arm room croom K p q R t w hb S mb ob T1 e Bx v us W)(ha:(a,T,x)∈Bx)(hbm:(b,31,y)∈Bx)(hab:a≠b) :
  PgX arm room croom K p q R t w hb S mb a b T ((W.setCell ⟨a,0,none⟩ (.slice none 0 0)).setCell ⟨b,0,none⟩ (.int .i64 9))∧TwoKept (S - 2) W ((W.setCell ⟨a,0,none⟩ (.slice none 0 0)).setCell ⟨b,0,none⟩ (.int .i64 9)):=by
 have hA:=L.bx _ ha;have hB:=L.bx _ hbm
 simp only at hA hB
 have a1:=h.bx _ ha;have b1:=h.bx _ hbm
 have F:Fr (fun k=>k=a∨k=b) W ((W.setCell ⟨a,0,none⟩ (.slice none 0 0)).setCell ⟨b,0,none⟩ (.int .i64 9)):=⟨rfl,rfl,rfl,by simp,fun k _ hk=>by rw [heap_setCell_other _ _ _ _ (fun e=>hk (Or.inr e)),heap_setCell_other _ _ _ _ (fun e=>hk (Or.inl e))]⟩
 have two:∀ j,S≤j+2→((W.setCell ⟨a,0,none⟩ (.slice none 0 0)).setCell ⟨b,0,none⟩ (.int .i64 9)).heap[j]? = W.heap[j]?:=fun j hj=>by rw [heap_setCell_other _ _ _ _ (by simp only;omega),heap_setCell_other _ _ _ _ (by simp only;omega)]
 refine ⟨⟨⟨v,h.prg.mine (fr_imp F (fun k hk=>?_))⟩,?_,?_,h.rok.mine F (fun k hk=>by rcases hk with rfl |rfl<;>omega),h.heap.fr F (fun e=>by have:=L.lt hb L.hbR;omega)⟩,⟨two _ (by omega),two _ (by omega)⟩⟩
 ·rcases hk with rfl |rfl
  ·exact Or.inl (Or.inr ⟨hA.1,by omega,hA.2.2.1⟩)
  ·exact Or.inl (Or.inr ⟨hB.1,by omega,hB.2.2.1⟩)
 ·rw [heap_setCell_other _ _ _ _ (by simpa using hab)]
  have:=heap_setCell_same W a 0 _ T (.slice none 0 0) a1
  rw [this];simp
 ·have b2:(W.setCell ⟨a,0,none⟩ (.slice none 0 0)).heap[b]? = some (.cells #[y] 31 (0,0)):=by rw [heap_setCell_other _ _ _ _ (by simpa using Ne.symm hab)];exact b1
  have:=heap_setCell_same _ b 0 _ 31 (.int .i64 9) b2
  rw [this];simp
theorem CI.fin{Bx:List (Nat×TypeId×Value)}(L:Lie R w hb S mb ob Bx)(h:CI arm room croom K p q R t w hb S mb ob T1 e Bx v us W)(ha:(a,T,x)∈Bx)(hbm:(b,31,y)∈Bx)(hab:a≠b)(l:Nat)(o:Obj)(h1:S≤l+2)(h2:l<S) :
  ((W.setCell ⟨a,0,none⟩ v).setCell ⟨b,0,none⟩ (.int .i64 0)).heap[l]? = W.heap[l]?∧(((W.setCell ⟨a,0,none⟩ v).setCell ⟨b,0,none⟩ (.int .i64 0)).putObj l o).cell? ⟨a,0,none⟩=some v∧(((W.setCell ⟨a,0,none⟩ v).setCell ⟨b,0,none⟩ (.int .i64 0)).putObj l o).cell? ⟨b,0,none⟩=some (.int .i64 0) ∧
  (((W.setCell ⟨a,0,none⟩ v).setCell ⟨b,0,none⟩ (.int .i64 0)).putObj l o).ownsRow w.heap.size e 1 v us.length us∧PrgAt arm room croom K (((W.setCell ⟨a,0,none⟩ v).setCell ⟨b,0,none⟩ (.int .i64 0)).putObj l o) p q (Own2 R v) t∧Rok R w (((W.setCell ⟨a,0,none⟩ v).setCell ⟨b,0,none⟩ (.int .i64 0)).putObj l o):=by
 have hA:=L.bx _ ha;have hB:=L.bx _ hbm
 simp only at hA hB
 have a1:=h.bx _ ha;have b1:=h.bx _ hbm
 obtain ⟨W2,hW2⟩:∃ W2,W2=(W.setCell ⟨a,0,none⟩ v).setCell ⟨b,0,none⟩ (.int .i64 0):=⟨_,rfl⟩
 have F:Fr (fun k=>k=a∨k=b) W W2:=by rw [hW2];exact ⟨rfl,rfl,rfl,by simp,fun k _ hk=>by rw [heap_setCell_other _ _ _ _ (fun e=>hk (Or.inr e)),heap_setCell_other _ _ _ _ (fun e=>hk (Or.inl e))]⟩
 have ka:W2.heap[a]? = some (.cells #[v] T (0,0)):=by
  rw [hW2,heap_setCell_other _ _ _ _ (by simpa using hab)]
  have:=heap_setCell_same W a 0 _ T v a1
  rw [this];simp
 have kb:W2.heap[b]? = some (.cells #[.int .i64 0] 31 (0,0)):=by
  have b2:(W.setCell ⟨a,0,none⟩ v).heap[b]? = some (.cells #[y] 31 (0,0)):=by rw [heap_setCell_other _ _ _ _ (by simpa using Ne.symm hab)];exact b1
  have:=heap_setCell_same _ b 0 _ 31 (.int .i64 0) b2
  rw [hW2,this];simp
 have kl:W2.heap[l]? = W.heap[l]?:=by rw [hW2,heap_setCell_other _ _ _ _ (by simp only;omega),heap_setCell_other _ _ _ _ (by simp only;omega)]
 rw [←hW2]
 have F3:=put_fr W2 l o
 have qa:QQ R w.heap.size S mb a:=Or.inr ⟨hA.1,by omega,hA.2.2.1⟩
 have qb:QQ R w.heap.size S mb b:=Or.inr ⟨hB.1,by omega,hB.2.2.1⟩
 have hq:=L.two h1 h2
 have la:a≠l:=by omega
 have lb:b≠l:=by omega
 refine ⟨kl,(boxed_cell ((put_other la).trans ka)).1,(boxed_cell ((put_other lb).trans kb)).1,?_,?_,?_⟩
 ·exact own_fr (own_fr h.row F (fun k hk e=>by rcases e with rfl |rfl;exact h.sep _ hk qa;exact h.sep _ hk qb)) F3 (fun k hk e=>h.sep k hk (e▸hq))
 ·refine ((h.prg.mine (fr_imp F (fun k hk=>?_))).mine (fr_imp F3 (fun k hk=>?_))).less (fun k hk=>?_)
  ·rcases hk with rfl |rfl
   ·exact Or.inl qa
   ·exact Or.inl qb
  ·subst hk;exact Or.inl hq
  ·rcases hk with hk |hk
   ·exact Or.inl (Or.inl hk)
   ·exact Or.inr hk
 ·exact (h.rok.mine F (fun k hk=>by rcases hk with rfl |rfl<;>omega)).mine F3 (fun k hk=>by have:=L.mbS;omega)
theorem keep_app{w':World}{o:Obj}{j:Nat}(hf:Fr (fun b=>v.ownBlock=some b) (W.alloc o) w')(hj:j<W.heap.size)(h1:j≠ob)(h2:¬v.ownBlock=some j):(w'.setCell ⟨ob,0,none⟩ x).heap[j]? = W.heap[j]?:=by
 rw [heap_setCell_other _ _ _ _ (by simpa using h1)]
 exact (hf.blk j (by simp;omega) h2).trans (heap_alloc_old W o hj)
theorem Pages_any(hb n cnt:Nat)(first:Int)(h:PrgAt arm room croom K w p q R t)(hh:HeapAt w hb p)(hR:R hb)(hlt:∀ b,R b→b<w.heap.size)(hn1:1≤n)(hn2:n≤20000)(hcn:cnt=(n - 1)/508+1)(hl:0<t.pages.length)(hx:∀ k,∀ x∈pageK t.pages first k,x<256)(hK:K+100≤800000) :
  Calls Tryz.prog 9 #[.pointer (some ⟨hb,0,none⟩),.int .i64 first,.int .i64 (n:Int)] w fun e w'=>Rok R w w'∧((PgOk t.pages first cnt∧∃ ao c,e=.returned (.tuple #[.slice ao cnt c,.int .i64 0])∧w'.ownsRow w.heap.size 3 1 (.slice ao cnt c) cnt (pgV t.pages first cnt)∧PrgAt arm room croom (K+cnt) w' p q (Own2 R (.slice ao cnt c)) t)∨(¬PgOk t.pages first cnt∧e=.returned (.tuple #[.slice none 0 0,.int .i64 9])∧PrgAt arm room croom (K+cnt) w' p q R t)):=by
 have hc40:cnt≤40:=by omega
 have L:=pg_lie hR hlt cnt first
 have A1:=hid (fun W (hW:Below w.heap.size w W)=>asked_yes (hh.keep hW) (n:Int))
 rw [show askN (n:Int)=0 from if_neg (by omega)]at A1
 have A2:=hid (fun W=>count_any (n:Int) ⟨by omega,by omega⟩ W)
 rw [countN n hn1,←hcn]at A2
 have A3:=hid (fun W=>chain_any hb first (cnt:Int) W)
 have mk:=make28 cnt (by omega)
 have HL:=hid L;have HPr:=hid h;have HH:=hid hh;have HX:=hid hx
 have HCN:=hid hcn
 clear h hh hx L hlt hR hcn
 refine (callsIn_wide (n:=3)).1 ?_
 refine callsIn_of_wp_marks Tryz.func9 rfl trivial ?_ rfl
 simp only [Tryz.ntmps9,List.size_toArray,List.length_cons,List.length_nil,Nat.reduceAdd,Nat.reduceSub,Array.replicate_succ,Array.replicate_zero,List.push_toArray,List.append_toArray,List.nil_append,List.cons_append]
 gi_wp2_with (first
  | (refine ⟨trivial,?_⟩;gi_at_call 20;refine (callsIn_wide.2 (A1.out _ (gt (Below.alloc (Below.refl _ _) (Nat.le_refl _) _) (Below.alloc (Below.refl _ _) (Nat.le_refl _) _)))).mono ?_;rintro e w1 ⟨rfl,hw⟩;obtain rfl:=hw.symm)
  | (refine ⟨trivial,?_⟩;gi_at_call 10;refine (callsIn_wide.2 (A2.out _)).mono ?_;rintro e w1 ⟨rfl,hw⟩;obtain rfl:=hw.symm)
  | (refine ⟨trivial,?_⟩;gi_at_call 27;refine (callsIn_wide.2 (A3.out _)).mono ?_;rintro e w1 ⟨rfl,rfl⟩))
 obtain ⟨W0,hW0⟩:∃ W0,W0=((((((w.alloc (.cells #[.slice none 0 0] 28)).alloc (.cells #[.int .i64 0] 31)).alloc (.cells (Array.replicate cnt (.int .i64 0)) 3)).alloc (.cells #[.slice (some ⟨w.heap.size+1+1,0,none⟩) 0 cnt] 28)).alloc (.cells #[.pointer (some ⟨hb,0,none⟩)] 25)).alloc (.cells #[.int .i64 first] 3)).alloc (.cells #[.int .i64 (cnt:Int)] 3):=⟨_,rfl⟩
 have ST:=hid (fun W=>pg_start (W:=W) hb cnt first (by omega) HPr.out HH.out hW0)
 have HS:=hid (show W0.heap.size=w.heap.size+7 by rw [hW0];simp)
 rw [←hW0]
 clear hW0 mk A1 A2 A3
 refine range_two (gf:=55) (lb:=#[.pointer (some ⟨w.heap.size+1+1+1+1+1,0,none⟩),.pointer (some ⟨w.heap.size+1+1+1+1+1+1,0,none⟩),.pointer (some ⟨w.heap.size+1+1+1+1,0,none⟩)]) rfl (enters_of Tryz.func55 (by kernel_rfl) rfl) rfl
  (PgI arm room croom K p q R t w hb cnt first) (PgM arm room croom K p q R t w hb cnt first) (PgN arm room croom K p q R t w hb cnt first) (fun k=>k=cnt∧pgK t.pages first cnt=0)
  (fun c W=>c=.ret∧¬PgOk t.pages first cnt∧PgX arm room croom (K+cnt) p q R t w hb (w.heap.size+9) (w.heap.size+2) w.heap.size (w.heap.size+1) 28 W) ?hI ?hN ?hM ?hz ?hX ?h0 ?hseq ?a1 ?assign ?body ?done ?stop
 case assign=>
  intro l x r W K hK
  unfold LkD.v
  gi_wp2
  obtain ⟨bb,hbb⟩:∃ bb,bb=W.heap.size:=⟨_,rfl⟩
  rw [←hbb]at hK ⊢
  exact hK
 case hI=>
  rintro k W l o o' h1 h2 _ _ ⟨h3,ao,c,h4⟩
  have:=HS.out
  exact ⟨h3,ao,c,h4.put HL.out o' (by omega) (by omega)⟩
 case hN=>
  rintro k x r z W ⟨⟨h1,h2⟩,h3,h4,ao,c,Kx,h5,h6,h7⟩
  exact ⟨⟨⟨h1,by simp;omega⟩,h3,h4,ao,c,Kx,h5,h6,h7.below (Below.alloc (Below.refl _ _) (Nat.le_refl _) _)⟩,heap_alloc_new W _⟩
 case hM=>
  rintro k x r z b W l o o' g1 g2 g3 g4 ⟨⟨⟨h1,h2⟩,h3,h4,ao,c,Kx,h5,h6,h7⟩,h8⟩
  have:=HS.out
  refine ⟨⟨⟨h1,Nat.lt_of_lt_of_le h2 (put_fr W l o').size⟩,h3,h4,ao,c,Kx,h5,h6,h7.put HL.out o' (by omega) (by omega)⟩,(put_other (fun e=>?_)).trans h8⟩
  subst e
  unfold LB at h8
  rw [h8]at g3;cases g3;cases g4
 case hz=>
  rintro k x r z W ⟨⟨h1,h2⟩,_⟩
  rw [HS.out];exact ⟨h1,h2⟩
 case hX=>
  rintro c W l o o' g1 g2 _ _ ⟨h1,h2,h3⟩
  have:=HS.out
  exact ⟨h1,h2,h3.put HL.out o' (by omega) (by omega) (by omega) (by omega)⟩
 case h0=>
  intro W hB hS
  exact ⟨⟨Nat.zero_le _,fun j hj=>by omega⟩,_,_,(ST.out W hB hS).2⟩
 case hseq=>
  intro l J Lx Jx W hJI hJL hY hJ0
  rw [HS.out]at hJL
  refine chain1_in 2 l (w.heap.size+1+1+1+1+1) (w.heap.size+1+1+1+1+1+1) (w.heap.size+1+1+1+1) hb cnt (pgK t.pages first) (by omega) J Lx Jx (fun k W hj=>?_) (fun k W hk hj=>?_) hY (fun W hp hj=>?_) W hJ0
  ·obtain ⟨_,ao,c,h4⟩:=hJI k W hj
   exact ⟨(boxed_cell (h4.bx (w.heap.size+5,3,.int .i64 first) (by simp [pgBx]))).1,(boxed_cell (h4.bx (w.heap.size+6,3,.int .i64 (cnt:Int)) (by simp [pgBx]))).1,(boxed_cell (h4.bx (w.heap.size+4,25,.pointer (some ⟨hb,0,none⟩)) (by simp [pgBx]))).1⟩
  ·obtain ⟨⟨hkc,hok⟩,ao,c,h4⟩:=hJI k W hj
   by_cases hk2:okK t.pages first k
   ·refine (h4.link_yes HL.out hk2 (HX.out k) (by omega)).mono ?_
    rintro e W1 ⟨g,cap,rfl,hr,hg,h5,hk5⟩
    refine ⟨⟨_,_,_,_,_⟩,0,rfl,fun _=>rfl,?_⟩
    have h6:=h5.below (Below.alloc (Below.refl _ _) (Nat.le_refl _) (LkD.o ⟨pgK t.pages first k,pgK t.pages first (k+1),some ⟨g,4,none⟩,508,508⟩))
    refine hJL k W _ _ _ _ hj ⟨⟨?_,by simp⟩,hok,Or.inl ⟨rfl,hk,hk2,rfl,h5.sz⟩,ao,c,K+k+1,⟨by omega,fun _=>rfl⟩,fun b hb _=>(rr_blk h5.row hb).2,h6⟩ (h4.two HL.out hk5 _ (by omega))
    have:=h5.sz;omega
   ·refine (h4.link_no HL.out (z:=pgK t.pages first k) hk2 hl (by omega)).mono ?_
    rintro e W1 ⟨rfl,h5,hk5⟩
    refine ⟨⟨0,0,none,0,0⟩,9,rfl,fun h=>(by cases h),?_⟩
    have h6:=h5.below (Below.alloc (Below.refl _ _) (Nat.le_refl _) (LkD.o ⟨0,0,none,0,0⟩))
    refine hJL k W _ _ _ _ hj ⟨⟨?_,by simp⟩,hok,Or.inr ⟨rfl,fun hp=>hk2 (hp.1 k hk)⟩,ao,c,K+k+1,⟨by omega,fun h=>(by cases h)⟩,fun b hb h=>(by cases h),h6⟩ (h4.two HL.out hk5 _ (by omega))
    have:=h5.sz;omega
  ·obtain ⟨⟨hkc,hok⟩,ao,c,h4⟩:=hJI cnt W hj
   have hsz:=h4.sz
   exact ⟨w.heap.size,hJL cnt W W _ _ _ hj ⟨⟨by omega,by omega⟩,hok,Or.inr ⟨rfl,fun h=>hp h.2⟩,ao,c,K+cnt,⟨Nat.le_refl _,fun h=>(by cases h)⟩,fun b hb h=>(by cases h),h4⟩ ⟨rfl,rfl⟩⟩
 case body=>
  rintro l k x r z b W ⟨⟨⟨hz1,hz2⟩,hok,hcase,ao,c,Kx,⟨hKx,hKr⟩,hzb,hC⟩,hLB⟩ hM hR
  rw [HS.out]at hM hR ⊢
  obtain ⟨x0,x1,x2,_⟩:=hLB.cells
  have c3:=(boxed_cell hC.out).1
  rcases hcase with ⟨rfl,hkc,hk2,hpn,hzS⟩ | ⟨rfl,hno⟩
  ·obtain rfl:=hKr rfl
   have C1:=hC.below (Below.alloc (Below.refl _ _) (Nat.le_refl _) (.cells #[.int .i64 x.pn] 3))
   have SR:=Cch.Src.mk (w:=W.alloc (.cells #[.int .i64 x.pn] 3)) (ao:=some ⟨W.heap.size,0,none⟩) (m:=1) (c:=1) (ys:=[.int .i64 x.pn]) rfl (fun h=>(by cases h)) (fun ad had j u hu=>by cases had;exact cell_one_new W _ _ j u hu) (by simp [Value.oneCell'])
   obtain ⟨ao',c',w',hrun,ho',hg',ha'⟩:=Cch.app_run' el41 28 (W.alloc (.cells #[.int .i64 x.pn] 3)) (.slice ao k c) k (pgV t.pages first k) (by have:=C1.row;rw [pgV_len]at this;exact rr_base this (Nat.zero_le _)) (some ⟨W.heap.size,0,none⟩) 1 1 [.int .i64 x.pn] SR (by omega)
   obtain ⟨⟨d1,d2⟩,C2,F2⟩:=C1.app HL.out (by rw [pgV_len];rfl) ho' hg' ha'
   have HC2:=hid C2;have HF2:=hid F2;have HOK:=hid hok;have HZB:=hid hzb;have HPN:=hid hpn;have HC:=hid hC
   have HRUN:=hid hrun
   clear C1 C2 F2 ho' hg' ha' hok hzb hpn hLB SR hC hrun
   have HZ2:=hid hz2
   clear hz2
   gi_wp2_with ((with_reducible refine here_in 35 ?_);refine in_append rfl (.tmp 31) (.tmp 34) 28 rfl _ _ _ rfl rfl _ HRUN.out ?_)
   have hsz:=HC.out.sz
   have hq:∀ j,w.heap.size+9≤j+2→j<w.heap.size+9→¬(Value.slice ao k c).ownBlock=some j:=fun j h1 h2 e=>HC.out.sep j e (HL.out.two h1 h2)
   refine ⟨⟨keep_app HF2.out (by omega) (by omega) (hq _ (by omega) (by omega)),keep_app HF2.out (by omega) (by omega) (hq _ (by omega) (by omega))⟩,?_,?_⟩
   ·refine ⟨⟨by omega,fun j hj=>?_⟩,ao',c',?_⟩
    ·rcases Nat.lt_or_ge j k with h1 |h1
     ·exact HOK.out j h1
     ·obtain rfl:j=k:=by omega
      exact hk2
    ·rw [pgV_succ,←HPN.out]
     exact HC2.out
   ·exact keep_app HF2.out HZ2.out (by omega) (fun e=>by have:=HZB.out z e (by first |rfl |trivial);omega)
  ·have E:=(hC.up hKx).err (a:=w.heap.size) (b:=w.heap.size+1) (T:=28) HL.out (by simp [pgBx];rfl) (by simp [pgBx];rfl) (by omega)
   have y0:=boxed_cell (hC.bx (w.heap.size,28,.slice none 0 0) (by simp [pgBx]))
   have y1:=boxed_cell (hC.bx (w.heap.size+1,31,.int .i64 0) (by simp [pgBx]))
   obtain ⟨y00,y01⟩:=y0
   obtain ⟨y10,y11⟩:=y1
   simp only at y00 y01 y10 y11
   have HE:=hid E;have HNO:=hid hno
   clear E hC hno hLB
   gi_wp2
   exact ⟨HE.out.2,rfl,HNO.out,HE.out.1⟩
 case done=>
  rintro k W ⟨rfl,hp0⟩ ⟨⟨hkc,hok⟩,ao,c,hC⟩ hM
  have c3:=(boxed_cell hC.out).1
  have y0:=boxed_cell (hC.bx (w.heap.size,28,.slice none 0 0) (by simp [pgBx]))
  have y1:=boxed_cell (hC.bx (w.heap.size+1,31,.int .i64 0) (by simp [pgBx]))
  obtain ⟨y00,y01⟩:=y0
  obtain ⟨y10,y11⟩:=y1
  simp only at y00 y01 y10 y11
  have HC:=hid hC;have HM:=hid hM;have HP0:=hid hp0;have HOK:=hid hok
  clear hC hM hp0 hok
  have FN:=hid (fun o=>HC.out.fin (a:=w.heap.size) (b:=w.heap.size+1) (T:=28) HL.out (by simp [pgBx];rfl) (by simp [pgBx];rfl) (by omega) W0.heap.size o (by have:=HS.out;omega) (by have:=HS.out;omega))
  gi_wp2
  refine ⟨by simp,.inl ⟨_,_,rfl,run_takeDeferred ((FN.out default).1.trans HM.out),?_⟩⟩
  obtain ⟨_,f1,f2,f3,f4,f5⟩:=FN.out (.deferred none)
  refine ⟨_,ret_cells rfl agg28 agg31 rfl rfl f1 f2,?_⟩
  rw [pgV_len]at f3
  exact ⟨f5,Or.inl ⟨⟨HOK.out,HP0.out⟩,ao,c,rfl,f3,f4⟩⟩
 case stop=>
  rintro cc W ⟨rfl,hno,hX⟩ hM
  have HX2:=hid hX;have HM:=hid hM
  have FX:=hid (fun o=>hX.put HL.out (l:=W0.heap.size) o (by have:=HS.out;omega) (by have:=HS.out;omega) (by omega) (by omega))
  clear hX hM
  gi_wp2
  refine ⟨by simp,.inl ⟨_,_,rfl,run_takeDeferred HM.out,?_⟩⟩
  have f:=FX.out (.deferred none)
  refine ⟨_,ret_cells rfl agg28 agg31 rfl rfl (boxed_cell f.r1).1 (boxed_cell f.r2).1,?_⟩
  obtain ⟨v,hv⟩:=f.prg
  exact ⟨f.rok,Or.inr ⟨hno,rfl,hv.less (fun b hb=>Or.inl (Or.inl hb))⟩⟩
end
end Spl
namespace Spl
open Go.RowKit Go.Maps
open Dsk (gt hid undrew keep_old keep_cell lt_cell)
open Jrn (Rd bs bs_length bs_one bs_get bs_get' bs_append rd_own Row5 putN numAt)
open Cch (Fr TwoKept RPost Rec put_other)
theorem cut_rd(g o n s:Nat)(xs:List Nat)(w:World)(h:Rd w (some ⟨g,o,none⟩) n n xs)(hn:1≤n)(h8:s≤1000000)(hn8:n≤1000000) :
  Calls Tryz.prog 32 #[.slice (some ⟨g,o,none⟩) n n,.int .i64 (s:Int)] w fun e w'=>∃ ao,e=.returned (.tuple #[.slice (some ⟨g,o,none⟩) (min s n) (min s n),.slice ao (n - s) (n - s)])∧Rd w' (some ⟨g,o,none⟩) (min s n) (min s n) (xs.take s)∧Rd w' ao (n - s) (n - s) (xs.drop s)∧(∀ a,ao=some a→a.block=g)∧Below w.heap.size w w':=by
 obtain ⟨hl,hc,_,hat⟩:=h
 obtain ⟨b,off,e,hcell⟩:=hat (by omega)
 simp only [Option.some.injEq,Addr.mk.injEq,and_true]at e
 obtain ⟨rfl,rfl⟩:=e
 have T:∀ w',Below w.heap.size w w'→Rd w' (some ⟨g,o,none⟩) (min s n) (min s n) (xs.take s):=fun w' hb=>⟨by rw [List.length_take,hl],Nat.le_refl _,fun h=>(by cases h),fun _=>⟨g,o,rfl,fun t ht=>by
  have h1:=keep_old hb (hcell t (by omega))
  rw [h1];simp [List.getD,List.getElem?_take_of_lt (show t<s by omega)]⟩⟩
 rcases Nat.lt_or_ge s n with h1 |h1
 ·refine (cut_less g o n n s (Nat.le_refl _) h1 (by omega) w).mono ?_
  rintro e w' ⟨rfl,hb⟩
  refine ⟨some ⟨g,o+s,none⟩,by rw [show min s n=s by omega],T w' hb,⟨by rw [List.length_drop,hl],Nat.le_refl _,fun h=>(by cases h),fun _=>⟨g,o+s,rfl,fun t ht=>?_⟩⟩,fun a ha=>(by cases ha;rfl),hb⟩
  have h2:=keep_old hb (hcell (s+t) (by omega))
  rw [show o+s+t=o+(s+t) by omega,h2]
  simp [List.getD,List.getElem?_drop]
 ·refine (cut_all g o n n s (Nat.le_refl _) h1 h8 (by omega) w).mono ?_
  rintro e w' ⟨rfl,hb⟩
  refine ⟨some ⟨g,o,none⟩,by rw [show min s n=n by omega,show n - s=0 by omega],T w' hb,?_,fun a ha=>(by cases ha;rfl),hb⟩
  rw [show n - s=0 by omega,List.drop_eq_nil_of_le (by omega)]
  exact ⟨rfl,Nat.le_refl _,fun h=>(by cases h),fun h=>(by omega)⟩
theorem make34(n:Nat)(hn:n≤1000000)(w:World):(Instr.makeSlice 34 (.int .i64 0) (.int .i64 (n:Int))).run Tryz.prog w=.ok (.slice (some ⟨w.heap.size,0,none⟩) 0 n) (w.alloc (.cells (Array.replicate n (.int .u8 0)) 5)):=Jrn.make_any 0 n (Nat.zero_le _) (by omega) w
def pieceK(P:List Pg)(first:Int)(n k:Nat):List Nat:=((pageK P first k).drop 4).take (n - 508*k)
def behindK(P:List Pg)(first:Int)(n k:Nat):List Nat:=((pageK P first k).drop 4).drop (n - 508*k)
def accK(P:List Pg)(first:Int)(n:Nat):Nat→List Nat
 | 0=>[]
 | k+1=>accK P first n k++pieceK P first n k
def RdOk(P:List Pg)(first:Int)(n cnt:Nat):Prop:=(∀ k,k<cnt→okK P first k∧allNought (behindK P first n k)=true)∧pgK P first cnt=0
theorem al8(w:World)(a b c d e f g h:Obj):∀ W,W=(((((((w.alloc a).alloc b).alloc c).alloc d).alloc e).alloc f).alloc g).alloc h→W.heap[w.heap.size+0]? = some a∧W.heap[w.heap.size+1]? = some b∧W.heap[w.heap.size+2]? = some c∧W.heap[w.heap.size+3]? = some d∧W.heap[w.heap.size+4]? = some e∧W.heap[w.heap.size+5]? = some f∧W.heap[w.heap.size+6]? = some g∧W.heap[w.heap.size+7]? = some h:=by
 rintro W rfl
 obtain ⟨h0,h1,h2,h3,h4,h5,h6⟩:=al7 w a b c d e f g
 exact ⟨al_step h0,al_step h1,al_step h2,al_step h3,al_step h4,al_step h5,al_step h6,al_last _ h (by simp)⟩
theorem keep_two{W w3 w':World}{v x:Value}{ob j:Nat}(hb:Below W.heap.size W w3)(hf:Fr (fun b=>v.ownBlock=some b) w3 w')(hj:j<W.heap.size)(h1:j≠ob)(h2:¬v.ownBlock=some j):(w'.setCell ⟨ob,0,none⟩ x).heap[j]? = W.heap[j]?:=by
 rw [heap_setCell_other _ _ _ _ (by simpa using h1)]
 exact (hf.blk j (Nat.lt_of_lt_of_le hj hb.size) h2).trans (hb.block j hj)
variable {xs:List Nat} {w:World}
theorem rd_tail{g cap:Nat}(h:Rd w (some ⟨g,0,none⟩) 512 cap xs):Rd w (some ⟨g,4,none⟩) 508 508 (xs.drop 4):=by
 have h1:=Jrn.Rd.from h (i:=4) (by omega)
 obtain ⟨h2,_,h3,h4⟩:=h1
 exact ⟨h2,Nat.le_refl _,fun h=>(by cases h),h4⟩
theorem src_rd{a:Addr}{m c:Nat}(h:Rd w (some a) m c xs)(hm:0<m):Cch.Src w (some a) m c (bs xs):=by
 obtain ⟨hl,hc,_,hat⟩:=h
 obtain ⟨b,off,e,hcell⟩:=hat hm
 refine ⟨by rw [bs_length,hl],fun h=>(by cases h),fun ad had j u hu=>?_,bs_one xs⟩
 cases had
 obtain ⟨hj,rfl⟩:=bs_get' xs j u hu
 cases e
 rw [Addr.add_lit]
 exact hcell j (by omega)
section
variable {arm:Prop} {room croom K:Nat} {p q:Nat} {R:Nat→Prop} {t:RS} {w:World}
def rdBx(s hb cnt n:Nat)(first:Int):List (Nat×TypeId×Value):=[(s,3,.int .i64 (n:Int)),(s+1,34,.slice none 0 0),(s+2,31,.int .i64 0),(s+5,25,.pointer (some ⟨hb,0,none⟩)),(s+6,3,.int .i64 first),(s+7,3,.int .i64 (cnt:Int))]
theorem rd_lie{hb:Nat}(hR:R hb)(hlt:∀ b,R b→b<w.heap.size)(cnt n:Nat)(first:Int):Lie R w hb (w.heap.size+10) (w.heap.size+3) (w.heap.size+4) (rdBx w.heap.size hb cnt n first):=by
 refine ⟨hR,hlt,by omega,fun x hx=>?_,by omega⟩
 simp only [rdBx,List.mem_cons,List.not_mem_nil,or_false]at hx
 rcases hx with rfl |rfl |rfl |rfl |rfl |rfl<;>(simp only;omega)
theorem rd_start(hb cnt n:Nat)(first:Int)(hc:n≤1000000)(h:PrgAt arm room croom K w p q R t)(hh:HeapAt w hb p){W0 W:World}
  (hW0:W0=(((((((w.alloc (.cells #[.int .i64 (n:Int)] 3)).alloc (.cells #[.slice none 0 0] 34)).alloc (.cells #[.int .i64 0] 31)).alloc (.cells (Array.replicate n (.int .u8 0)) 5)).alloc (.cells #[.slice (some ⟨w.heap.size+1+1+1,0,none⟩) 0 n] 34)).alloc (.cells #[.pointer (some ⟨hb,0,none⟩)] 25)).alloc (.cells #[.int .i64 first] 3)).alloc (.cells #[.int .i64 (cnt:Int)] 3))
  (hB:Below W0.heap.size W0 W) (hS:W0.heap.size+2≤W.heap.size) :
  CI arm room croom K p q R t w hb (w.heap.size+10) (w.heap.size+3) (w.heap.size+4) 34 5 (rdBx w.heap.size hb cnt n first) (.slice (some ⟨w.heap.size+3,0,none⟩) 0 n) [] W:=by
 have hs:W0.heap.size=w.heap.size+8:=by rw [hW0];simp
 have ha:=al8 w _ _ _ _ _ _ _ _ W0 hW0
 have B0:Below w.heap.size w W0:=by
  rw [hW0];exact gt (gt (gt (gt (gt (gt (gt (Below.alloc (Below.refl _ _) (Nat.le_refl _) _) (Below.alloc (Below.refl _ _) (Nat.le_refl _) _)) (Below.alloc (Below.refl _ _) (Nat.le_refl _) _)) (Below.alloc (Below.refl _ _) (Nat.le_refl _) _)) (Below.alloc (Below.refl _ _) (Nat.le_refl _) _)) (Below.alloc (Below.refl _ _) (Nat.le_refl _) _)) (Below.alloc (Below.refl _ _) (Nat.le_refl _) _)) (Below.alloc (Below.refl _ _) (Nat.le_refl _) _)
 have BB:=gt B0 hB
 have hp:∀ i o,i<8→W0.heap[w.heap.size+i]? = some o→W.heap[w.heap.size+i]? = some o:=fun i o hi h=>(hB.block _ (by omega)).trans h
 obtain ⟨a0,a1,a2,a3,a4,a5,a6,a7⟩:=ha
 have b0:=hp 0 _ (by omega) a0;have b1:=hp 1 _ (by omega) a1;have b2:=hp 2 _ (by omega) a2;have b3:=hp 3 _ (by omega) a3;have b4:=hp 4 _ (by omega) a4;have b5:=hp 5 _ (by omega) a5;have b6:=hp 6 _ (by omega) a6;have b7:=hp 7 _ (by omega) a7
 refine ⟨?_,?_,?_,b4,?_,hh.keep BB,Rok.of_below BB,by omega⟩
 ·refine h.more BB (fun b hb'=>?_)
  rcases hb' with (h1 |h1) |h1
  ·exact Or.inl h1
  ·exact Or.inr ⟨h1.1,by omega⟩
  ·cases h1;exact Or.inr ⟨by simp,by simp only;omega⟩
 ·exact ⟨by simp,.inr ⟨w.heap.size+3,n,_,rfl,by omega,b3,Nat.zero_le _,by unfold maxLen;omega,by simp,by simp⟩⟩
 ·intro b hb' hq
  cases hb'
  rcases hq with hq |hq
  ·have:=h.lt hq;simp only at this;omega
  ·exact hq.2.2 rfl
 ·intro x hx
  simp only [rdBx,List.mem_cons,List.not_mem_nil,or_false]at hx
  rcases hx with rfl |rfl |rfl |rfl |rfl |rfl
  ·exact b0
  ·exact b1
  ·exact b2
  ·exact b5
  ·exact b6
  ·exact b7
attribute [local go_sem] Oper.semAt_some
def RdI(arm:Prop)(room croom K:Nat)(p q:Nat)(R:Nat→Prop)(t:RS)(w:World)(hb cnt n:Nat)(first:Int)(k:Nat)(W:World):Prop:=
 (k≤cnt∧∀ j,j<k→okK t.pages first j∧allNought (behindK t.pages first n j)=true)∧(accK t.pages first n k).length=min n (508*k)∧∃ ao c,CI arm room croom (K+k) p q R t w hb (w.heap.size+10) (w.heap.size+3) (w.heap.size+4) 34 5 (rdBx w.heap.size hb cnt n first) (.slice ao (min n (508*k)) c) (bs (accK t.pages first n k)) W
def RdM(arm:Prop)(room croom K:Nat)(p q:Nat)(R:Nat→Prop)(t:RS)(w:World)(hb cnt n:Nat)(first:Int)(k:Nat)(x:LkD)(r:Int)(z:Nat)(W:World):Prop:=
 (z≠w.heap.size+8+1∧z<W.heap.size)∧(∀ j,j<k→okK t.pages first j∧allNought (behindK t.pages first n j)=true)∧(accK t.pages first n k).length=min n (508*k)∧((r=0∧k<cnt∧okK t.pages first k∧w.heap.size+10≤z∧∃ g cap,x.ao=some ⟨g,4,none⟩∧x.n=508∧x.c=508∧Row5 W (w.heap.size+10) g cap (pageK t.pages first k))∨(r=9∧¬RdOk t.pages first n cnt)) ∧
 ∃ ao c Kx,(Kx≤K+cnt∧(r=0→Kx=K+k+1))∧(∀ b,(Value.slice ao (min n (508*k)) c).ownBlock=some b→r=0→b<z)∧CI arm room croom Kx p q R t w hb (w.heap.size+10) (w.heap.size+3) (w.heap.size+4) 34 5 (rdBx w.heap.size hb cnt n first) (.slice ao (min n (508*k)) c) (bs (accK t.pages first n k)) W
def RdN(arm:Prop)(room croom K:Nat)(p q:Nat)(R:Nat→Prop)(t:RS)(w:World)(hb cnt n:Nat)(first:Int)(k:Nat)(x:LkD)(r:Int)(z b:Nat)(W:World):Prop:=
 RdM arm room croom K p q R t w hb cnt n first k x r z W∧LB W b x.pn x.nx x.ao x.n x.c
theorem Read_any(hb n cnt:Nat)(first:Int)(h:PrgAt arm room croom K w p q R t)(hh:HeapAt w hb p)(hR:R hb)(hlt:∀ b,R b→b<w.heap.size)(hn1:1≤n)(hn2:n≤20000)(hcn:cnt=(n - 1)/508+1)(hl:0<t.pages.length)(hx:∀ k,∀ x∈pageK t.pages first k,x<256)(hK:K+100≤800000) :
  Calls Tryz.prog 13 #[.pointer (some ⟨hb,0,none⟩),.int .i64 first,.int .i64 (n:Int)] w fun e w'=>Rok R w w'∧((RdOk t.pages first n cnt∧∃ ao c,e=.returned (.tuple #[.slice ao n c,.int .i64 0])∧(accK t.pages first n cnt).length=n∧w'.ownsRow w.heap.size 5 1 (.slice ao n c) n (bs (accK t.pages first n cnt))∧PrgAt arm room croom (K+cnt) w' p q (Own2 R (.slice ao n c)) t)∨(¬RdOk t.pages first n cnt∧e=.returned (.tuple #[.slice none 0 0,.int .i64 9])∧PrgAt arm room croom (K+cnt) w' p q R t)):=by
 have hc40:cnt≤40:=by omega
 have L:=rd_lie hR hlt cnt n first
 have A1:=hid (fun W (hW:Below w.heap.size w W)=>asked_yes (hh.keep hW) (n:Int))
 rw [show askN (n:Int)=0 from if_neg (by omega)]at A1
 have A2:=hid (fun W=>count_any (n:Int) ⟨by omega,by omega⟩ W)
 rw [countN n hn1,←hcn]at A2
 have A3:=hid (fun W=>chain_any hb first (cnt:Int) W)
 have mk:=make34 n (by omega)
 have HL:=hid L;have HPr:=hid h;have HH:=hid hh;have HX:=hid hx
 have HCN:=hid hcn
 clear h hh hx L hlt hR hcn
 refine (callsIn_wide (n:=3)).1 ?_
 refine callsIn_of_wp_marks Tryz.func13 rfl trivial ?_ rfl
 simp only [Tryz.ntmps13,List.size_toArray,List.length_cons,List.length_nil,Nat.reduceAdd,Nat.reduceSub,Array.replicate_succ,Array.replicate_zero,List.push_toArray,List.append_toArray,List.nil_append,List.cons_append]
 gi_wp2_with (first
  | (refine ⟨trivial,?_⟩;gi_at_call 20;refine (callsIn_wide.2 (A1.out _ (gt (gt (Below.alloc (Below.refl _ _) (Nat.le_refl _) _) (Below.alloc (Below.refl _ _) (Nat.le_refl _) _)) (Below.alloc (Below.refl _ _) (Nat.le_refl _) _)))).mono ?_;rintro e w1 ⟨rfl,hw⟩;obtain rfl:=hw.symm)
  | (refine ⟨trivial,?_⟩;gi_at_call 10;refine (callsIn_wide.2 (A2.out _)).mono ?_;rintro e w1 ⟨rfl,hw⟩;obtain rfl:=hw.symm)
  | (refine ⟨trivial,?_⟩;gi_at_call 27;refine (callsIn_wide.2 (A3.out _)).mono ?_;rintro e w1 ⟨rfl,rfl⟩))
 obtain ⟨W0,hW0⟩:∃ W0,W0=(((((((w.alloc (.cells #[.int .i64 (n:Int)] 3)).alloc (.cells #[.slice none 0 0] 34)).alloc (.cells #[.int .i64 0] 31)).alloc (.cells (Array.replicate n (.int .u8 0)) 5)).alloc (.cells #[.slice (some ⟨w.heap.size+1+1+1,0,none⟩) 0 n] 34)).alloc (.cells #[.pointer (some ⟨hb,0,none⟩)] 25)).alloc (.cells #[.int .i64 first] 3)).alloc (.cells #[.int .i64 (cnt:Int)] 3):=⟨_,rfl⟩
 have ST:=hid (fun W=>rd_start (W:=W) hb cnt n first (by omega) HPr.out HH.out hW0)
 have HS:=hid (show W0.heap.size=w.heap.size+8 by rw [hW0];simp)
 rw [←hW0]
 clear hW0 mk A1 A2 A3
 refine range_two (gf:=55) (lb:=#[.pointer (some ⟨w.heap.size+1+1+1+1+1+1,0,none⟩),.pointer (some ⟨w.heap.size+1+1+1+1+1+1+1,0,none⟩),.pointer (some ⟨w.heap.size+1+1+1+1+1,0,none⟩)]) rfl (enters_of Tryz.func55 (by kernel_rfl) rfl) rfl
  (RdI arm room croom K p q R t w hb cnt n first) (RdM arm room croom K p q R t w hb cnt n first) (RdN arm room croom K p q R t w hb cnt n first) (fun k=>k=cnt∧pgK t.pages first cnt=0)
  (fun c W=>c=.ret∧¬RdOk t.pages first n cnt∧PgX arm room croom (K+cnt) p q R t w hb (w.heap.size+10) (w.heap.size+3) (w.heap.size+1) (w.heap.size+2) 34 W) ?hI ?hN ?hM ?hz ?hX ?h0 ?hseq ?a1 ?assign ?body ?done ?stop
 case assign=>
  intro l x r W K hK
  unfold LkD.v
  gi_wp2
  obtain ⟨bb,hbb⟩:∃ bb,bb=W.heap.size:=⟨_,rfl⟩
  rw [←hbb]at hK ⊢
  exact hK
 case hI=>
  rintro k W l o o' h1 h2 _ _ ⟨h3,h3b,ao,c,h4⟩
  have:=HS.out
  exact ⟨h3,h3b,ao,c,h4.put HL.out o' (by omega) (by omega)⟩
 case hN=>
  rintro k x r z W ⟨⟨h1,h2⟩,h3,h3b,h4,ao,c,Kx,h5,h6,h7⟩
  have hB:Below W.heap.size W (W.alloc x.o):=Below.alloc (Below.refl _ _) (Nat.le_refl _) _
  refine ⟨⟨⟨h1,by simp;omega⟩,h3,h3b,?_,ao,c,Kx,h5,h6,h7.below hB⟩,heap_alloc_new W _⟩
  rcases h4 with ⟨e1,e2,e3,e4,g,cap,e5,e6,e7,e8⟩ |h4
  ·exact Or.inl ⟨e1,e2,e3,e4,g,cap,e5,e6,e7,e8.fr (E:=fun _=>False) (Fr.of_below hB) (fun h=>h)⟩
  ·exact Or.inr h4
 case hM=>
  rintro k x r z b W l o o' g1 g2 g3 g4 ⟨⟨⟨h1,h2⟩,h3,h3b,h4,ao,c,Kx,h5,h6,h7⟩,h8⟩
  have:=HS.out
  refine ⟨⟨⟨h1,Nat.lt_of_lt_of_le h2 (put_fr W l o').size⟩,h3,h3b,?_,ao,c,Kx,h5,h6,h7.put HL.out o' (by omega) (by omega)⟩,(put_other (fun e=>?_)).trans h8⟩
  ·rcases h4 with ⟨e1,e2,e3,e4,g,cap,e5,e6,e7,e8⟩ |h4
   ·exact Or.inl ⟨e1,e2,e3,e4,g,cap,e5,e6,e7,e8.fr (put_fr W l o') (by have:=e8.parts.1;omega)⟩
   ·exact Or.inr h4
  ·subst e
   unfold LB at h8
   rw [h8]at g3;cases g3;cases g4
 case hz=>
  rintro k x r z W ⟨⟨h1,h2⟩,_⟩
  rw [HS.out];exact ⟨h1,h2⟩
 case hX=>
  rintro c W l o o' g1 g2 _ _ ⟨h1,h2,h3⟩
  have:=HS.out
  exact ⟨h1,h2,h3.put HL.out o' (by omega) (by omega) (by omega) (by omega)⟩
 case h0=>
  intro W hB hS
  exact ⟨⟨Nat.zero_le _,fun j hj=>by omega⟩,by simp [accK],some ⟨w.heap.size+3,0,none⟩,n,by rw [show min n (508*0)=0 by omega];exact ST.out W hB hS⟩
 case hseq=>
  intro l J Lx Jx W hJI hJL hY hJ0
  rw [HS.out]at hJL
  refine chain1_in 2 l (w.heap.size+1+1+1+1+1+1) (w.heap.size+1+1+1+1+1+1+1) (w.heap.size+1+1+1+1+1) hb cnt (pgK t.pages first) (by omega) J Lx Jx (fun k W hj=>?_) (fun k W hk hj=>?_) hY (fun W hp hj=>?_) W hJ0
  ·obtain ⟨_,_,ao,c,h4⟩:=hJI k W hj
   exact ⟨(boxed_cell (h4.bx (w.heap.size+6,3,.int .i64 first) (by simp [rdBx]))).1,(boxed_cell (h4.bx (w.heap.size+7,3,.int .i64 (cnt:Int)) (by simp [rdBx]))).1,(boxed_cell (h4.bx (w.heap.size+5,25,.pointer (some ⟨hb,0,none⟩)) (by simp [rdBx]))).1⟩
  ·obtain ⟨⟨hkc,hok⟩,hln,ao,c,h4⟩:=hJI k W hj
   by_cases hk2:okK t.pages first k
   ·refine (h4.link_yes HL.out hk2 (HX.out k) (by omega)).mono ?_
    rintro e W1 ⟨g,cap,rfl,hr,hg,h5,hk5⟩
    refine ⟨⟨_,_,_,_,_⟩,0,rfl,fun _=>rfl,?_⟩
    have hB:Below W1.heap.size W1 (W1.alloc (LkD.o ⟨pgK t.pages first k,pgK t.pages first (k+1),some ⟨g,4,none⟩,508,508⟩)):=Below.alloc (Below.refl _ _) (Nat.le_refl _) _
    have h6:=h5.below hB
    refine hJL k W _ _ _ _ hj ⟨⟨?_,by simp⟩,hok,hln,Or.inl ⟨rfl,hk,hk2,h5.sz,g,cap,rfl,rfl,rfl,(hr.fr (E:=fun _=>False) (Fr.of_below hB) (fun h=>h)).base h4.sz⟩,ao,c,K+k+1,⟨by omega,fun _=>rfl⟩,fun b hb _=>(rr_blk h5.row hb).2,h6⟩ (h4.two HL.out hk5 _ (by omega))
    have:=h5.sz;omega
   ·refine (h4.link_no HL.out (z:=pgK t.pages first k) hk2 hl (by omega)).mono ?_
    rintro e W1 ⟨rfl,h5,hk5⟩
    refine ⟨⟨0,0,none,0,0⟩,9,rfl,fun h=>(by cases h),?_⟩
    have h6:=h5.below (Below.alloc (Below.refl _ _) (Nat.le_refl _) (LkD.o ⟨0,0,none,0,0⟩))
    refine hJL k W _ _ _ _ hj ⟨⟨?_,by simp⟩,hok,hln,Or.inr ⟨rfl,fun hp=>hk2 (hp.1 k hk).1⟩,ao,c,K+k+1,⟨by omega,fun h=>(by cases h)⟩,fun b hb h=>(by cases h),h6⟩ (h4.two HL.out hk5 _ (by omega))
    have:=h5.sz;omega
  ·obtain ⟨⟨hkc,hok⟩,hln,ao,c,h4⟩:=hJI cnt W hj
   have hsz:=h4.sz
   exact ⟨w.heap.size,hJL cnt W W _ _ _ hj ⟨⟨by omega,by omega⟩,hok,hln,Or.inr ⟨rfl,fun h=>hp h.2⟩,ao,c,K+cnt,⟨Nat.le_refl _,fun h=>(by cases h)⟩,fun b hb h=>(by cases h),h4⟩ ⟨rfl,rfl⟩⟩
 case body=>
  rintro l k x r z b W ⟨⟨⟨hz1,hz2⟩,hok,hln,hcase,ao,c,Kx,⟨hKx,hKr⟩,hzb,hC⟩,hLB⟩ hM hR
  rw [HS.out]at hM hR ⊢
  obtain ⟨x0,x1,x2,_⟩:=hLB.cells
  have c3:=(boxed_cell hC.out).1
  have c4:=(boxed_cell (hC.bx (w.heap.size,3,.int .i64 (n:Int)) (by simp [rdBx]))).1
  simp only at c4
  have y0:=boxed_cell (hC.bx (w.heap.size+1,34,.slice none 0 0) (by simp [rdBx]))
  have y1:=boxed_cell (hC.bx (w.heap.size+2,31,.int .i64 0) (by simp [rdBx]))
  rcases hcase with ⟨rfl,hkc,hk2,hzS,g,cap,ha,hn',hc',hRow⟩ | ⟨rfl,hno⟩
  ·clear y0 y1
   obtain rfl:=hKr rfl
   rw [ha,hn',hc']at x2
   have hm:min n (508*k)=508*k:=by have:=HCN.out;omega
   have hmn:508*k<n:=by have:=HCN.out;omega
   rw [hm]at hln hC hzb c3
   have RD:=rd_tail hRow.rd
   have CUT:=hid (cut_rd g 4 508 (n - 508*k) _ W RD (by omega) (by omega) (by omega))
   have hpl:(pieceK t.pages first n k).length=min (n - 508*k) 508:=by unfold pieceK;rw [List.length_take,RD.1]
   have HPL:=hid hpl
   have HLE:Hid (min n (508*(k+1))=508*k+min (n - 508*k) 508):=hid (by omega)
   have HACC:Hid (accK t.pages first n (k+1)=accK t.pages first n k++pieceK t.pages first n k):=hid rfl
   have HPC:Hid (((pageK t.pages first k).drop 4).take (n - 508*k)=pieceK t.pages first n k):=hid rfl
   have HBC:Hid (((pageK t.pages first k).drop 4).drop (n - 508*k)=behindK t.pages first n k):=hid rfl
   have HC:=hid hC;have HOK:=hid hok;have HZB:=hid hzb;have HLN:=hid hln;have HZ2:=hid hz2;have HM:=hid hM
   rw [HPC.out,HBC.out]at CUT
   clear hC hok hzb hln hz2 hRow RD hpl hm hLB hM hR ha hn' hc'
   generalize 508*k=m at *
   have kk:(n:Int) - (m:Int)=((n - m:Nat):Int):=by omega
   by_cases hno:allNought (behindK t.pages first n k)=true
   ·gi_wp2_with (first
     | (refine ⟨trivial,?_⟩;gi_at_call 32;refine (CallsIn.inRound l (callsIn_wide.2 CUT.out)).mono ?_;rintro e w2 ⟨ao2,rfl,hp2,hb2,_,hB2⟩;have P2:=hid hp2;have Q2:=hid (noughts_any ao2 _ _ _ w2 hb2 (by omega));have B2:=hid hB2;have C2:=hid (HC.out.below hB2);have c32:=(boxed_cell C2.out.out).1;clear hp2 hb2 hB2 CUT)
     | (refine ⟨trivial,?_⟩;gi_at_call 33;refine (CallsIn.inRound l (callsIn_wide.2 Q2.out)).mono ?_;rintro e w3 ⟨rfl,hB3⟩;rw [hno];have B3:=hid (gt B2.out hB3);have P3:=hid (P2.out.keep hB3);have C3:=hid (C2.out.below hB3);have c33:=(boxed_cell C3.out.out).1;clear hB3 Q2 c32)
     | ((with_reducible refine here_in 47 ?_);obtain ⟨ao',c',w',hrun,ho',hg',ha'⟩:=Cch.app_run' Cch.el38 34 w3 (.slice ao m c) m (bs (accK t.pages first n k)) (by have:=C3.out.row;rw [bs_length,HLN.out]at this;exact rr_base this (Nat.zero_le _)) (some ⟨g,4,none⟩) _ _ _ (src_rd P3.out (by omega)) (by omega);refine in_append rfl (.tmp 45) (.tmp 46) 34 rfl _ _ _ rfl rfl _ hrun ?_;obtain ⟨⟨d1,d2⟩,hc4,hf4⟩:=C3.out.app HL.out (by rw [bs_length,bs_length,HLN.out,HPL.out]) ho' hg' ha';have C4:=hid hc4;have F4:=hid hf4;clear hc4 hf4 ho' hg' ha' hrun))
    have hsz:=HC.out.sz
    have hq:∀ j,w.heap.size+10≤j+2→j<w.heap.size+10→¬(Value.slice ao m c).ownBlock=some j:=fun j h1 h2 e=>HC.out.sep j e (HL.out.two h1 h2)
    refine ⟨⟨keep_two B3.out F4.out (by omega) (by omega) (hq _ (by omega) (by omega)),keep_two B3.out F4.out (by omega) (by omega) (hq _ (by omega) (by omega))⟩,?_,?_⟩
    ·refine ⟨⟨by omega,fun j hj=>?_⟩,?_,ao',c',?_⟩
     ·rcases Nat.lt_or_ge j k with h1 |h1
      ·exact HOK.out j h1
      ·obtain rfl:j=k:=by omega
       exact ⟨hk2,hno⟩
     ·rw [HLE.out,HACC.out,List.length_append,HLN.out,HPL.out]
     ·rw [HLE.out,HACC.out,bs_append]
      exact C4.out
    ·exact keep_two B3.out F4.out HZ2.out (by omega) (fun e=>by have:=HZB.out z e (by first |rfl |trivial);omega)
   ·have hnf:allNought (behindK t.pages first n k)=false:=by simpa using hno
    have HNO:Hid (¬RdOk t.pages first n cnt):=hid (fun h=>hno (h.1 k hkc).2)
    clear hno
    gi_wp2_with (first
     | (refine ⟨trivial,?_⟩;gi_at_call 32;refine (CallsIn.inRound l (callsIn_wide.2 CUT.out)).mono ?_;rintro e w2 ⟨ao2,rfl,hp2,hb2,_,hB2⟩;have Q2:=hid (noughts_any ao2 _ _ _ w2 hb2 (by omega));have B2:=hid hB2;have C2:=hid (HC.out.below hB2);clear hp2 hb2 hB2 CUT)
     | (refine ⟨trivial,?_⟩;gi_at_call 33;refine (CallsIn.inRound l (callsIn_wide.2 Q2.out)).mono ?_;rintro e w3 ⟨rfl,hB3⟩;rw [hnf];have B3:=hid (gt B2.out hB3);have C3:=hid (C2.out.below hB3);obtain ⟨y00,y01⟩:=boxed_cell (C3.out.bx (w.heap.size+1,34,.slice none 0 0) (by simp [rdBx]));obtain ⟨y10,y11⟩:=boxed_cell (C3.out.bx (w.heap.size+2,31,.int .i64 0) (by simp [rdBx]));simp only at y00 y01 y10 y11;clear hB3 Q2))
    have E:=(C3.out.up hKx).err (a:=w.heap.size+1) (b:=w.heap.size+2) (T:=34) HL.out (by simp [rdBx];rfl) (by simp [rdBx];rfl) (by omega)
    have hsz:=HC.out.sz
    exact ⟨⟨E.2.d.trans (B3.out.block _ (by omega)),E.2.l.trans (B3.out.block _ (by omega))⟩,rfl,HNO.out,E.1⟩
  ·have E:=(hC.up hKx).err (a:=w.heap.size+1) (b:=w.heap.size+2) (T:=34) HL.out (by simp [rdBx];rfl) (by simp [rdBx];rfl) (by omega)
   obtain ⟨y00,y01⟩:=y0
   obtain ⟨y10,y11⟩:=y1
   simp only at y00 y01 y10 y11
   have HE:=hid E;have HNO:=hid hno
   clear E hC hno hLB
   gi_wp2
   exact ⟨HE.out.2,rfl,HNO.out,HE.out.1⟩
 case done=>
  rintro k W ⟨rfl,hp0⟩ ⟨⟨hkc,hok⟩,hln,ao,c,hC⟩ hM
  have hmn:min n (508*k)=n:=by have:=HCN.out;omega
  rw [hmn]at hln hC
  have c3:=(boxed_cell hC.out).1
  have y0:=boxed_cell (hC.bx (w.heap.size+1,34,.slice none 0 0) (by simp [rdBx]))
  have y1:=boxed_cell (hC.bx (w.heap.size+2,31,.int .i64 0) (by simp [rdBx]))
  obtain ⟨y00,y01⟩:=y0
  obtain ⟨y10,y11⟩:=y1
  simp only at y00 y01 y10 y11
  have HC:=hid hC;have HM:=hid hM;have HP0:=hid hp0;have HOK:=hid hok;have HLN:=hid hln
  clear hC hM hp0 hok hln hmn
  have FN:=hid (fun o=>HC.out.fin (a:=w.heap.size+1) (b:=w.heap.size+2) (T:=34) HL.out (by simp [rdBx];rfl) (by simp [rdBx];rfl) (by omega) W0.heap.size o (by have:=HS.out;omega) (by have:=HS.out;omega))
  gi_wp2
  refine ⟨by simp,.inl ⟨_,_,rfl,run_takeDeferred ((FN.out default).1.trans HM.out),?_⟩⟩
  obtain ⟨_,f1,f2,f3,f4,f5⟩:=FN.out (.deferred none)
  refine ⟨_,ret_cells rfl agg34 agg31 rfl rfl f1 f2,?_⟩
  rw [bs_length,HLN.out]at f3
  exact ⟨f5,Or.inl ⟨⟨HOK.out,HP0.out⟩,ao,c,rfl,HLN.out,f3,f4⟩⟩
 case stop=>
  rintro cc W ⟨rfl,hno,hX⟩ hM
  have HX2:=hid hX;have HM:=hid hM
  have FX:=hid (fun o=>hX.put HL.out (l:=W0.heap.size) o (by have:=HS.out;omega) (by have:=HS.out;omega) (by omega) (by omega))
  clear hX hM
  gi_wp2
  refine ⟨by simp,.inl ⟨_,_,rfl,run_takeDeferred HM.out,?_⟩⟩
  have f:=FX.out (.deferred none)
  refine ⟨_,ret_cells rfl agg34 agg31 rfl rfl (boxed_cell f.r1).1 (boxed_cell f.r2).1,?_⟩
  obtain ⟨v,hv⟩:=f.prg
  exact ⟨f.rok,Or.inr ⟨hno,rfl,hv.less (fun b hb=>Or.inl (Or.inl hb))⟩⟩
end
end Spl
end Go.Proofs.YtneemfbnjkcflaaGreatDoor
