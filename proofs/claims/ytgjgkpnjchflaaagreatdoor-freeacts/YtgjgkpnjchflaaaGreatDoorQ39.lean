/- Both heaps, the program's and the document's, and the row of what is taken; no statement of the seat is proved here. -/
import Derived.Test.YtgjgkpnjchflaaaGreatDoorQ36
import Derived.Test.YtgjgkpnjchflaaaGreatDoorQ38
set_option maxHeartbeats 16000000
set_option maxRecDepth 20000
namespace Go.Proofs.YtgjgkpnjchflaaaGreatDoor
section
open Go.RowKit Go.Maps
open Dsk (gt hid undrew keep_old keep_cell lt_cell Rd op_at)
open Cch (Fr)
theorem src_frm{W W':World}{ao:Option Addr}{n c:Nat}{xs:List Value}{E:Nat→Prop}(h:Cch.Src W ao n c xs)(hf:Fr E W W')(hE:∀ a,ao=some a→¬E a.block∧a.off=0∧a.spot=none):Cch.Src W' ao n c xs:=⟨h.len,h.no,fun ad e j u hu=>by
 obtain ⟨q1,q3,q4⟩:=hE ad e
 have:=h.at_ ad e j u hu
 obtain ⟨ab,of,sp⟩:=ad
 simp only at q1 q3 q4
 subst q3;subst q4
 rw [Addr.add_lit]at this ⊢
 exact fr_cell hf this q1,h.one⟩
structure FA (K:Nat) (O:Nat→Prop) (w:World) (hb p q hm:Nat) (ao:Option Addr) (n c:Nat) (l:List Nat) (tr:List (Nat×List Nat)) (N:Nat) (ws:List Nat) (tr2:List (Nat×List Nat)) (N2:Nat) (wd:List Int) (W:World):Prop where
 is:∃ R S t,HeapS False 32768 16 K W hb p q R t tr ws∧t.now.length=N∧RefH W S hm tr2 N2 wd∧(∀ b,S b→R b)∧(∀ b,O b→R b)∧(∀ b,S b→¬O b)∧¬S hb∧∀ a,ao=some a→R a.block∧¬S a.block∧a.off=0∧a.spot=none
 row:Cch.Src W ao n c (zI l)
 cap:n≤c
 k:Rok O w W
section
variable {K:Nat} {O:Nat→Prop} {w W W':World} {hb p q hm:Nat} {ao:Option Addr} {n c N N2:Nat} {l ws:List Nat} {tr tr2:List (Nat×List Nat)} {wd:List Int}
variable {v:Value} {args:Array Value} {K' f:Nat}
theorem FA.prg{N':Nat}{tr':List (Nat×List Nat)}{ws':List Nat}(h:FA K O w hb p q hm ao n c l tr N ws tr2 N2 wd W)(hc:∀ R t,HeapS False 32768 16 K W hb p q R t tr ws→t.now.length=N→Calls Tryz.prog f args W (HTo False 32768 16 K' W hb p q R N' tr' ws' v)) :
  Calls Tryz.prog f args W fun e W'=>e=.returned v∧FA K' O w hb p q hm ao n c l tr' N' ws' tr2 N2 wd W':=by
 obtain ⟨R,S,t,h1,h2,h3,h4,h5,h6,h7,h8⟩:=h.is
 refine (hc R t h1 h2).mono ?_
 rintro e W' ⟨he,t',k1,k2,k3⟩
 exact ⟨he,⟨R,S,t',k1,k2,h3.fr k3 (fun b hb e=>e.1 (h4 b hb)),h4,h5,h6,h7,h8⟩,src_frm h.row k3 (fun a ha=>⟨fun e=>e.1 (h8 a ha).1,(h8 a ha).2.2⟩),h.cap,h.k.then k3 h5⟩
theorem FA.ref{N2':Nat}{tr2':List (Nat×List Nat)}{wd':List Int}(h:FA K O w hb p q hm ao n c l tr N ws tr2 N2 wd W)(hc:∀ S,RefH W S hm tr2 N2 wd→Calls Tryz.prog f args W (DTo S hm tr2' N2' wd' v W)) :
  Calls Tryz.prog f args W fun e W'=>e=.returned v∧FA K O w hb p q hm ao n c l tr N ws tr2' N2' wd' W':=by
 obtain ⟨R,S,t,h1,h2,h3,h4,h5,h6,h7,h8⟩:=h.is
 refine (hc S h3).mono ?_
 rintro e W' ⟨he,S',k1,k2,k3⟩
 refine ⟨he,⟨NewR R W W',S',t,⟨h1.prg.work (fr_imp k2 h4),h1.heap.fr k2 h7,Or.inl h1.mem,h1.lay,h1.busy⟩,h2,k1,fun b hb=>?_,fun b hb=>Or.inl (h5 b hb),fun b hb=>?_,fun hb=>?_,fun a ha=>⟨Or.inl (h8 a ha).1,fun hb=>?_,(h8 a ha).2.2⟩⟩,src_frm h.row k2 (fun a ha=>(h8 a ha).2),h.cap,h.k.trans k2 (fun j hj hS=>⟨h6 j hS,h1.prg.ne0 (h4 j hS)⟩)⟩
 ·rcases k3 b hb with h |h
  ·exact Or.inl (h4 b h)
  ·exact Or.inr ⟨h,k1.lt b hb⟩
 ·rcases k3 b hb with h |h
  ·exact h6 b h
  ·intro ho;have:=h1.prg.lt (h5 b ho);omega
 ·rcases k3 _ hb with h |h
  ·exact h7 h
  ·have:=h1.heap.lt;omega
 ·rcases k3 _ hb with h |h
  ·exact (h8 a ha).2.1 h
  ·have:=h1.prg.lt (h8 a ha).1;omega
theorem FA.below(h:FA K O w hb p q hm ao n c l tr N ws tr2 N2 wd W)(b:Below W.heap.size W W'):FA K O w hb p q hm ao n c l tr N ws tr2 N2 wd W':=by
 obtain ⟨R,S,t,h1,h2,h3,h4,h5,h6,h7,h8⟩:=h.is
 exact ⟨⟨R,S,t,⟨h1.prg.keep b,h1.heap.keep b,h1.mem,h1.lay,h1.busy⟩,h2,h3.fr (Fr.of_below (S:=fun _=>False) b) (fun _ _ h=>h),h4,h5,h6,h7,h8⟩,src_below h.row b,h.cap,h.k.below b⟩
theorem FA.up(h:FA K O w hb p q hm ao n c l tr N ws tr2 N2 wd W)(hK:K≤K'):FA K' O w hb p q hm ao n c l tr N ws tr2 N2 wd W:=by
 obtain ⟨R,S,t,h1,h2,h3⟩:=h.is
 exact ⟨⟨R,S,t,⟨h1.prg.up hK,h1.heap,h1.mem,h1.lay,h1.busy⟩,h2,h3⟩,h.row,h.cap,h.k⟩
theorem FA.other{ao':Option Addr}{n' c':Nat}{l':List Nat}(h:FA K O w hb p q hm ao n c l tr N ws tr2 N2 wd W)(b:Below W.heap.size W W')(ho:W'.ownsRow 0 3 1 (.slice ao' n' c') n' (zI l'))(hv:∀ k,(Value.slice ao' n' c').ownBlock=some k→W.heap.size≤k):FA K O w hb p q hm ao' n' c' l' tr N ws tr2 N2 wd W':=by
 obtain ⟨R,S,t,h1,h2,h3,h4,h5,h6,h7,h8⟩:=h.is
 obtain ⟨ao2,cap,e,hno,hso⟩:=Cch.row_form ho
 simp only [Value.slice.injEq]at e
 obtain ⟨rfl,-,rfl⟩:=e
 have hl:=fun b hb=>h3.lt b hb
 refine ⟨⟨fun b=>R b∨(W.heap.size≤b∧b<W'.heap.size),S,t,⟨h1.prg.more b (fun _ h=>h),h1.heap.keep b,Or.inl h1.mem,h1.lay,h1.busy⟩,h2,h3.fr (Fr.of_below (S:=fun _=>False) b) (fun _ _ h=>h),fun b hb=>Or.inl (h4 b hb),fun b hb=>Or.inl (h5 b hb),h6,h7,fun a ha=>?_⟩,Cch.src_row ho (fun u hu=>by unfold zI at hu;obtain ⟨x,_,rfl⟩:=List.mem_map.1 hu;rfl),?_,h.k.below b⟩
 ·obtain ⟨e1,e2,e3⟩:=hso a ha
  subst ha
  have hw:=hv a.block rfl
  exact ⟨Or.inr ⟨hw,e3⟩,fun hs=>by have:=hl _ hs;omega,by rw [e1],by rw [e1]⟩
 ·cases hao:ao' with
  | none=>have:=hno hao;omega
  | some a=>exact (hso a hao).2.1
theorem FA.pages(h:FA K O w hb p q hm ao n c l tr N ws tr2 N2 wd W):Calls Tryz.prog 10 #[.pointer (some ⟨p,0,none⟩)] W fun e w'=>e=.returned (.int .i64 (N:Int))∧Below W.heap.size W w':=by
 obtain ⟨R,S,t,h1,h2,_⟩:=h.is
 have:=prg_pages h1.prg
 rw [RS.pages_busy h1.busy,h2]at this
 exact this
theorem FA.cell(h:FA K O w hb p q hm ao n c l tr N ws tr2 N2 wd W){i:Nat}(hi:i<n):∃ g,ao=some ⟨g,0,none⟩∧∀ i,i<n→W.cell? ⟨g,i,none⟩=some (.int .i64 ((l.getD i 0:Nat):Int)):=by
 obtain ⟨R,S,t,h1,h2,h3,h4,h5,h6,h7,h8⟩:=h.is
 have hl:l.length=n:=by have:=h.row.len;simpa [zI] using this
 cases hao:ao with
 | none=>have:=(h.row.no hao).1;omega
 | some a=>
  obtain ⟨ab,of,sp⟩:=a
  obtain ⟨_,_,q3,q4⟩:=h8 _ hao
  simp only at q3 q4
  subst q3;subst q4
  refine ⟨ab,rfl,fun j hj=>?_⟩
  have:=h.row.at_ _ hao j (.int .i64 ((l.getD j 0:Nat):Int)) (by unfold zI;rw [List.getElem?_map,List.getD,List.getElem?_eq_getElem (by omega)];rfl)
  rw [Addr.add_lit]at this
  simpa using this
theorem FA.len(h:FA K O w hb p q hm ao n c l tr N ws tr2 N2 wd W):l.length=n:=by have:=h.row.len;simpa [zI] using this
theorem FA.range(h:FA K O w hb p q hm ao n c l tr N ws tr2 N2 wd W):∀ y∈flat tr,2≤y∧y≤N:=by
 obtain ⟨R,S,t,h1,h2,_⟩:=h.is
 rw [←h2];exact fun y hy=>h1.lay.chain.range y hy
theorem FA.nodup(h:FA K O w hb p q hm ao n c l tr N ws tr2 N2 wd W):(flat tr).Nodup:=by
 obtain ⟨R,S,t,h1,h2,_⟩:=h.is
 exact h1.lay.nd
theorem FA.leaves(h:FA K O w hb p q hm ao n c l tr N ws tr2 N2 wd W):∀ y∈tr,y.2.length≤126:=by
 obtain ⟨R,S,t,h1,h2,_⟩:=h.is
 have key:∀ {now:List Pg} {f:Nat} {tr:List (Nat×List Nat)},Chain8 now f tr→∀ y∈tr,y.2.length≤126:=by
  intro now f tr
  induction tr generalizing f with
  | nil=>intro _ y hy;cases hy
  | cons x r ih=>
   rintro ⟨_,_,_,k3,_,nx,_,_,k7⟩ y hy
   rcases List.mem_cons.1 hy with rfl |hy
   ·exact k3
   ·exact ih k7 y hy
 exact key h1.lay.chain
theorem FA.refc(h:FA K O w hb p q hm ao n c l tr N ws tr2 N2 wd W):∃ S,RefH W S hm tr2 N2 wd:=by
 obtain ⟨R,S,t,h1,h2,h3,_⟩:=h.is
 exact ⟨S,h3⟩
variable {g:Nat}
theorem FA.enter(h:FA K O w hb p q hm ao n c l tr N ws tr2 N2 wd W)(b:Below W.heap.size W W')(hg:W.heap.size≤g)(hl:g<W'.heap.size):FA K (Plus O g) W' hb p q hm ao n c l tr N ws tr2 N2 wd W':=by
 obtain ⟨R0,S0,t0,g1,g2,g3,g4,g5,g6,g7,g8⟩:=h.is
 refine ⟨⟨Plus R0 g,S0,t0,⟨g1.prg.new b hg hl,g1.heap.keep b,Or.inl g1.mem,g1.lay,g1.busy⟩,g2,g3.fr (Fr.of_below (S:=fun _=>False) b) (fun _ _ h=>h),fun b hb=>Or.inl (g4 b hb),fun b hb=>?_,fun b hb ho=>?_,g7,fun a ha=>⟨Or.inl (g8 a ha).1,(g8 a ha).2⟩⟩,(h.below b).row,h.cap,Rok.of_below (Below.refl _ _)⟩
 ·rcases hb with hb |rfl
  ·exact Or.inl (g5 b hb)
  ·exact Or.inr rfl
 ·rcases ho with ho |rfl
  ·exact g6 b hb ho
  ·have:=g3.lt _ hb;omega
theorem FA.leave{W0:World}(h:FA K (Plus O g) W0 hb p q hm ao n c l tr N ws tr2 N2 wd W)(k:Rok O w W0):FA K O w hb p q hm ao n c l tr N ws tr2 N2 wd W:=by
 obtain ⟨R,S,t,h1,h2,h3,h4,h5,h6,h7,h8⟩:=h.is
 exact ⟨⟨R,S,t,h1,h2,h3,h4,fun b hb=>h5 b (Or.inl hb),fun b hb ho=>h6 b hb (Or.inl ho),h7,h8⟩,h.row,h.cap,k.then h.k (fun b hb=>Or.inl hb)⟩
end
def wsOf(wd:List Int):List Nat:=wd.map fun z=>(IntKind.u64.wrap z).toNat
end
end Go.Proofs.YtgjgkpnjchflaaaGreatDoor
