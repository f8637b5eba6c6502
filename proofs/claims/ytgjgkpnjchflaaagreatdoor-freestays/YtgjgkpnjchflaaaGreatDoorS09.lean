/- Steps that are done to a disk: what they do, and how they lie in memory. No statement of the seat is proved here. -/
import Derived.Test.YtgjgkpnjchflaaaGreatDoorS08
import Derived.Deep.DeepCutAuto
set_option maxHeartbeats 16000000
set_option maxRecDepth 20000
namespace Go.Proofs.YtgjgkpnjchflaaaGreatDoor
section
open Go.RowKit Go.Maps
open Dsk (gt hid undrew keep_old keep_cell lt_cell Rd DS FS Sec DiskP DFrame Grew From writeD syncD cutD lenD readD newD known)
inductive Stp where
 | wr (f a:Int) (ss:List Sec)
 | sy (f:Int)
 | ct (f n:Int)
def Stp.go(d:DS):Stp→Int×DS
 | .wr f a ss=>writeD d f a ss
 | .sy f=>syncD d f
 | .ct f n=>if (lenD d f:Int)≤n then (0,d) else cutD d f n
def firstD:List Stp→DS→Int×DS
 | [],d=>(0,d)
 | s::r,d=>if (s.go d).1=0 then firstD r (s.go d).2 else s.go d
def DN(q:Nat)(P:Dsk.Parts):Nat→Prop:=fun k=>k=q∨P.all k
variable {d:DS} {q:Nat} {w:World}
theorem DN.lt{P:Dsk.Parts}(h:DiskP w q P d){k:Nat}(hk:DN q P k):k<w.heap.size:=by
 rcases hk with rfl |hk
 ·exact Dsk.p_lt h
 ·exact Dsk.all_lt h hk
def Out(w:World)(N:Nat→Prop)(b:Nat):Prop:=b<w.heap.size∧¬N b
variable {b:Nat} {N:Nat→Prop} {w':World}
theorem Out.later(h:Out w N b)(hb:w.heap.size≤w'.heap.size):Out w' N b:=⟨Nat.lt_of_lt_of_le h.1 hb,h.2⟩
theorem Out.grew{P P':Dsk.Parts}(h:Out w (DN q P) b)(hs:w.heap.size≤w'.heap.size)(hg:Grew P w P'):Out w' (DN q P') b:=
 ⟨Nat.lt_of_lt_of_le h.1 hs,fun hk=>by
  rcases hk with rfl |hk
  ·exact h.2 (Or.inl rfl)
  ·rcases hg b hk with h1 |h1
   ·exact h.2 (Or.inr h1)
   ·have:=h.1;omega⟩
theorem Out.new(hN:∀ k,N k→k<w.heap.size)(h1:w.heap.size≤b)(h2:b<w'.heap.size):Out w' N b:=
 ⟨h2,fun h=>by have:=hN b h;omega⟩
theorem cell_df{P:Dsk.Parts}(hf:DFrame w w' q P.all){b o:Nat}{v:Value}(hc:w.cell? ⟨b,o,none⟩=some v)(h:Out w (DN q P) b):w'.cell? ⟨b,o,none⟩=some v:=
 hf.cellAt hc (fun e=>h.2 (Or.inl e)) (fun e=>h.2 (Or.inr e))
theorem rd_df{P:Dsk.Parts}(hf:DFrame w w' q P.all){ao:Option Addr}{n cap:Nat}{xs:List Nat}(h:Rd w ao n cap xs)(ho:0<n→∀ a,ao=some a→Out w (DN q P) a.block):Rd w' ao n cap xs:=by
 refine ⟨h.1,h.2.1,h.2.2.1,fun hn=>?_⟩
 obtain ⟨b,off,rfl,hc⟩:=h.2.2.2 hn
 exact ⟨b,off,rfl,fun t ht=>cell_df hf (hc t ht) (ho hn _ rfl)⟩
def StepAt(w:World)(q:Nat)(N:Nat→Prop)(v:Value):Stp→Prop
 | .wr f a ss=>∃ b0 b1 b2 b3 ao n cap,v=.func (.func 155) #[] #[.pointer (some ⟨b0,0,none⟩),.pointer (some ⟨b1,0,none⟩),.pointer (some ⟨b2,0,none⟩),.pointer (some ⟨b3,0,none⟩)] ∧
   (w.cell? ⟨b0,0,none⟩=some (.pointer (some ⟨q,0,none⟩))∧w.cell? ⟨b1,0,none⟩=some (.int .i64 f)∧w.cell? ⟨b2,0,none⟩=some (.int .i64 a)∧w.cell? ⟨b3,0,none⟩=some (.slice ao n cap)) ∧
   (Out w N b0∧Out w N b1∧Out w N b2∧Out w N b3) ∧
   Rd w ao n cap ss.flatten∧(0<n→∀ a,ao=some a→Out w N a.block)∧n=ss.length*128∧(∀ x∈ss,x.length=128)∧ss.length≤1000
 | .sy f=>∃ b0 b1,v=.func (.func 157) #[] #[.pointer (some ⟨b0,0,none⟩),.pointer (some ⟨b1,0,none⟩)] ∧
   (w.cell? ⟨b0,0,none⟩=some (.pointer (some ⟨q,0,none⟩))∧w.cell? ⟨b1,0,none⟩=some (.int .i64 f))∧(Out w N b0∧Out w N b1)
 | .ct f m=>∃ b0 b1 b2,v=.func (.func 103) #[] #[.pointer (some ⟨b0,0,none⟩),.pointer (some ⟨b1,0,none⟩),.pointer (some ⟨b2,0,none⟩)] ∧
   (w.cell? ⟨b0,0,none⟩=some (.pointer (some ⟨q,0,none⟩))∧w.cell? ⟨b1,0,none⟩=some (.int .i64 f)∧w.cell? ⟨b2,0,none⟩=some (.int .i64 m))∧(Out w N b0∧Out w N b1∧Out w N b2)
variable {s:Stp} {v:Value} {N':Nat→Prop}
theorem StepAt.turn(h:StepAt w q N v s)(ho:∀ b,Out w N b→Out w' N' b)(hc:∀ b o v,Out w N b→w.cell? ⟨b,o,none⟩=some v→w'.cell? ⟨b,o,none⟩=some v):StepAt w' q N' v s:=by
 cases s with
 | wr f a ss=>
  obtain ⟨b0,b1,b2,b3,ao,n,cap,rfl,⟨c0,c1,c2,c3⟩,⟨o0,o1,o2,o3⟩,hr,hro,hn,hx,hl⟩:=h
  refine ⟨b0,b1,b2,b3,ao,n,cap,rfl,⟨hc _ _ _ o0 c0,hc _ _ _ o1 c1,hc _ _ _ o2 c2,hc _ _ _ o3 c3⟩,⟨ho _ o0,ho _ o1,ho _ o2,ho _ o3⟩,⟨hr.1,hr.2.1,hr.2.2.1,fun hp=>?_⟩,fun hp a ha=>ho _ (hro hp a ha),hn,hx,hl⟩
  obtain ⟨b,off,rfl,hh⟩:=hr.2.2.2 hp
  exact ⟨b,off,rfl,fun t ht=>hc _ _ _ (hro hp _ rfl) (hh t ht)⟩
 | sy f=>
  obtain ⟨b0,b1,rfl,⟨c0,c1⟩,o0,o1⟩:=h
  exact ⟨b0,b1,rfl,⟨hc _ _ _ o0 c0,hc _ _ _ o1 c1⟩,ho _ o0,ho _ o1⟩
 | ct f m=>
  obtain ⟨b0,b1,b2,rfl,⟨c0,c1,c2⟩,o0,o1,o2⟩:=h
  exact ⟨b0,b1,b2,rfl,⟨hc _ _ _ o0 c0,hc _ _ _ o1 c1,hc _ _ _ o2 c2⟩,ho _ o0,ho _ o1,ho _ o2⟩
theorem StepAt.later(h:StepAt w q N v s)(hb:Below w.heap.size w w'):StepAt w' q N v s:=
 h.turn (fun _ ho=>ho.later hb.size) (fun _ _ _ _ hc=>keep_old hb hc)
def StepsAt(w:World)(q:Nat)(N:Nat→Prop)(lo:Option Addr)(l:List Stp):Prop:=
 0<l.length→∃ b off,lo=some ⟨b,off,none⟩∧Out w N b∧∀ i s,l[i]? = some s→∃ v,w.cell? ⟨b,off+i,none⟩=some v∧StepAt w q N v s
variable {l:List Stp} {lo:Option Addr}
theorem StepsAt.turn(h:StepsAt w q N lo l)(ho:∀ b,Out w N b→Out w' N' b)(hc:∀ b o v,Out w N b→w.cell? ⟨b,o,none⟩=some v→w'.cell? ⟨b,o,none⟩=some v):StepsAt w' q N' lo l:=fun hl=>by
 obtain ⟨b,off,rfl,hb,hh⟩:=h hl
 refine ⟨b,off,rfl,ho _ hb,fun i s hs=>?_⟩
 obtain ⟨v,h1,h2⟩:=hh i s hs
 exact ⟨v,hc _ _ _ hb h1,h2.turn ho hc⟩
theorem StepsAt.later(h:StepsAt w q N lo l)(hb:Below w.heap.size w w'):StepsAt w' q N lo l:=
 h.turn (fun _ ho=>ho.later hb.size) (fun _ _ _ _ hc=>keep_old hb hc)
theorem StepsAt.disk{P P':Dsk.Parts}(h:StepsAt w q (DN q P) lo l)(hf:DFrame w w' q P.all)(hg:Grew P w P'):StepsAt w' q (DN q P') lo l:=
 h.turn (fun _ ho=>ho.grew hf.size hg) (fun _ _ _ ho hc=>cell_df hf hc ho)
theorem grew_refl(P:Dsk.Parts)(w:World):Grew P w P:=fun _ h=>Or.inl h
variable {w1:World}
theorem grew_trans{P P1 P2:Dsk.Parts}(h:Grew P w P1)(k:Grew P1 w1 P2)(hs:w.heap.size≤w1.heap.size):Grew P w P2:=fun b hb=>by
 rcases k b hb with h1 |h1
 ·exact h b h1
 ·exact Or.inr (Nat.le_trans hs h1)
variable {w2:World}
theorem df_trans{P P1:Dsk.Parts}(h:DFrame w w1 q P.all)(hg:Grew P w P1)(k:DFrame w1 w2 q P1.all):DFrame w w2 q P.all:=
 h.trans (k.imp (fun b _ hb=>hg b hb))
structure DiskTo (w w':World) (q:Nat) (P:Dsk.Parts) (d:DS):Prop where
 is:∃ P',DiskP w' q P' d∧Grew P w P'
 fr:DFrame w w' q P.all
theorem DiskTo.trans{P P1:Dsk.Parts}{d2:DS}(hf:DFrame w w1 q P.all)(hg:Grew P w P1)(k:DiskTo w1 w2 q P1 d2):DiskTo w w2 q P d2:=by
 obtain ⟨P2,hp,hg2⟩:=k.is
 exact ⟨⟨P2,hp,grew_trans hg hg2 hf.size⟩,df_trans hf hg k.fr⟩
theorem DiskTo.first{P:Dsk.Parts}(hb:Below w.heap.size w w1)(k:DiskTo w1 w2 q P d):DiskTo w w2 q P d:=by
 obtain ⟨P2,hp,hg2⟩:=k.is
 exact ⟨⟨P2,hp,fun b h=>by
  rcases hg2 b h with h1 |h1
  ·exact Or.inl h1
  ·exact Or.inr (Nat.le_trans hb.size h1)⟩,(DFrame.below hb).trans (k.fr.imp (fun _ _ h=>Or.inl h))⟩
end
section
open Go.RowKit Go.Maps
open Dsk (gt hid undrew keep_old keep_cell lt_cell Rd DS FS Sec DiskP DFrame Grew From writeD syncD cutD lenD readD newD known)
theorem place_any(n:Int)(w:World)(h : -1000000≤n∧n≤1000000):Calls Tryz.prog 109 #[.int .i64 n] w fun e w'=>e=.returned (.int .i64 ((n - 1)*4))∧w'=w:=by
 have e1:IntKind.i64.wrap (n - 1)=n - 1:=IntWalk.i64_in _ ⟨by omega,by omega⟩
 have e2:IntKind.i64.wrap ((n - 1)*4)=(n - 1)*4:=IntWalk.i64_in _ ⟨by omega,by omega⟩
 clear h
 go_enter Tryz.func109,Tryz.ntmps109
 go_wp2
 go_ret
 exact ⟨rfl,rfl⟩
variable {v:Value} {w:World}
theorem cell_box{t:TypeId}{n:Nat}(hn:n=w.heap.size):(w.alloc (.cells #[v] t)).cell? ⟨n,0,none⟩=some v:=by
 rw [World.cell?_alloc_at _ _ _ _ hn];rfl
theorem cell_up{a:Addr}{o:Obj}(h:w.cell? a=some v):(w.alloc o).cell? a=some v:=keep_old (Below.alloc (Below.refl _ _) (Nat.le_refl _) o) h
theorem write_make(q:Nat)(f a:Int)(ao:Option Addr)(n cap:Nat)(ss:List Sec)(N:Nat→Prop)(w:World)(hN:∀ k,N k→k<w.heap.size)
  (hr:Rd w ao n cap ss.flatten) (ho:0<n→∀ a,ao=some a→Out w N a.block) (hn:n=ss.length*128) (hx:∀ x∈ss,x.length=128) (hl:ss.length≤1000) :
  Calls Tryz.prog 110 #[.pointer (some ⟨q,0,none⟩),.int .i64 f,.int .i64 a,.slice ao n cap] w fun e w'=>∃ v,e=.returned v∧StepAt w' q N v (.wr f a ss)∧Below w.heap.size w w':=by
 have H:=hid hr;have HO:=hid ho;have HN:=hid hN;have HX:=hid hx;have Hn:=hid hn;have HL:=hid hl
 clear hr ho hN hx hn hl
 go_enter Tryz.func110,Tryz.ntmps110
 go_wp2
 go_ret
 have hb:Below w.heap.size w ((((w.alloc (.cells #[.pointer (some ⟨q,0,none⟩)] 52)).alloc (.cells #[.int .i64 f] 3)).alloc (.cells #[.int .i64 a] 3)).alloc (.cells #[.slice ao n cap] 79)):=(by repeat (first |with_reducible exact Below.refl _ _ |with_reducible assumption |with_reducible refine Below.drew ?_ |with_reducible refine below_drewN ?_ _ |with_reducible refine Below.alloc ?_ (by simp<;>omega) _ |with_reducible refine Below.setCell ?_ (by simp<;>omega) _))
 refine ⟨_,rfl,⟨w.heap.size,w.heap.size+1,w.heap.size+1+1,w.heap.size+1+1+1,ao,n,cap,by simp,?_,?_,H.out.keep hb,fun hp x hx=>(HO.out hp x hx).later hb.size,Hn.out,HX.out,HL.out⟩,hb⟩
 ·exact ⟨cell_up (cell_up (cell_up (cell_box rfl))),cell_up (cell_up (cell_box (by simp))),cell_up (cell_box (by simp)),cell_box (by simp)⟩
 ·exact ⟨Out.new HN.out (by omega) (by simp;omega),Out.new HN.out (by omega) (by simp),Out.new HN.out (by omega) (by simp),Out.new HN.out (by omega) (by simp)⟩
theorem sync_make(q:Nat)(f:Int)(N:Nat→Prop)(w:World)(hN:∀ k,N k→k<w.heap.size) :
  Calls Tryz.prog 111 #[.pointer (some ⟨q,0,none⟩),.int .i64 f] w fun e w'=>∃ v,e=.returned v∧StepAt w' q N v (.sy f)∧Below w.heap.size w w':=by
 have HN:=hid hN
 clear hN
 go_enter Tryz.func111,Tryz.ntmps111
 go_wp2
 go_ret
 have hb:Below w.heap.size w ((w.alloc (.cells #[.pointer (some ⟨q,0,none⟩)] 52)).alloc (.cells #[.int .i64 f] 3)):=(by repeat (first |with_reducible exact Below.refl _ _ |with_reducible assumption |with_reducible refine Below.drew ?_ |with_reducible refine below_drewN ?_ _ |with_reducible refine Below.alloc ?_ (by simp<;>omega) _ |with_reducible refine Below.setCell ?_ (by simp<;>omega) _))
 refine ⟨_,rfl,⟨w.heap.size,w.heap.size+1,by simp,?_,?_⟩,hb⟩
 ·exact ⟨cell_up (cell_box rfl),cell_box (by simp)⟩
 ·exact ⟨Out.new HN.out (by omega) (by simp;omega),Out.new HN.out (by omega) (by simp)⟩
theorem cut_make(q:Nat)(f m:Int)(N:Nat→Prop)(w:World)(hN:∀ k,N k→k<w.heap.size) :
  Calls Tryz.prog 78 #[.pointer (some ⟨q,0,none⟩),.int .i64 f,.int .i64 m] w fun e w'=>∃ v,e=.returned v∧StepAt w' q N v (.ct f m)∧Below w.heap.size w w':=by
 have HN:=hid hN
 clear hN
 go_enter Tryz.func78,Tryz.ntmps78
 go_wp2
 go_ret
 have hb:Below w.heap.size w (((w.alloc (.cells #[.pointer (some ⟨q,0,none⟩)] 52)).alloc (.cells #[.int .i64 f] 3)).alloc (.cells #[.int .i64 m] 3)):=(by repeat (first |with_reducible exact Below.refl _ _ |with_reducible assumption |with_reducible refine Below.drew ?_ |with_reducible refine below_drewN ?_ _ |with_reducible refine Below.alloc ?_ (by simp<;>omega) _ |with_reducible refine Below.setCell ?_ (by simp<;>omega) _))
 refine ⟨_,rfl,⟨w.heap.size,w.heap.size+1,w.heap.size+1+1,by simp,?_,?_⟩,hb⟩
 ·exact ⟨cell_up (cell_up (cell_box rfl)),cell_up (cell_box (by simp)),cell_box (by simp)⟩
 ·exact ⟨Out.new HN.out (by omega) (by simp;omega),Out.new HN.out (by omega) (by simp),Out.new HN.out (by omega) (by simp)⟩
theorem df_drawn{w':World}{q:Nat}{S:Nat→Prop}(h:DFrame w.drew w' q S):DFrame w w' q S:=⟨h.os,h.tape,h.output,h.size,h.block⟩
theorem wr_call(q:Nat)(P:Dsk.Parts)(d:DS)(f a:Int)(ss:List Sec)(w:World)(h:DiskP w q P d)(hop:d.ops<1000000000)(b0 b1 b2 b3:Nat)
  (hs:StepAt w q (DN q P) (.func (.func 155) #[] #[.pointer (some ⟨b0,0,none⟩),.pointer (some ⟨b1,0,none⟩),.pointer (some ⟨b2,0,none⟩),.pointer (some ⟨b3,0,none⟩)]) (.wr f a ss)) :
  Calls Tryz.prog 155 #[.pointer (some ⟨b0,0,none⟩),.pointer (some ⟨b1,0,none⟩),.pointer (some ⟨b2,0,none⟩),.pointer (some ⟨b3,0,none⟩)] w fun e w'=>e=.returned (.int .i64 ((Stp.wr f a ss).go d).1)∧DiskTo w w' q P ((Stp.wr f a ss).go d).2:=by
 obtain ⟨c0,c1,c2,c3,ao,n,cap,e,⟨k0,k1,k2,k3⟩,_,hr,hro,hn,hx,hl⟩:=hs
 simp only [Value.func.injEq,Array.mk.injEq,List.cons.injEq,Value.pointer.injEq,Option.some.injEq,Addr.mk.injEq,and_true,true_and]at e
 obtain ⟨rfl,rfl,rfl,rfl⟩:=e
 have c:=hid (Dsk.write_call q P d f a ao n cap ss w h hop hx hl hn (fun w' hf=>rd_df hf hr hro))
 clear h hr hro hn hx hl hop
 go_enter Tryz.func155,Tryz.ntmps155
 go_wp2_with (go_at_call 156;refine c.out.mono ?_;rintro e w1 ⟨rfl,hp,hf⟩;have HP:=hid hp;have HF:=hid hf;clear hp hf)
 go_ret
 exact ⟨rfl,HP.out,HF.out⟩
theorem sy_call(q:Nat)(P:Dsk.Parts)(d:DS)(f:Int)(w:World)(h:DiskP w q P d)(hop:d.ops<1000000000)(b0 b1:Nat)
  (hs:StepAt w q (DN q P) (.func (.func 157) #[] #[.pointer (some ⟨b0,0,none⟩),.pointer (some ⟨b1,0,none⟩)]) (.sy f)) :
  Calls Tryz.prog 157 #[.pointer (some ⟨b0,0,none⟩),.pointer (some ⟨b1,0,none⟩)] w fun e w'=>e=.returned (.int .i64 ((Stp.sy f).go d).1)∧DiskTo w w' q P ((Stp.sy f).go d).2:=by
 obtain ⟨c0,c1,e,⟨k0,k1⟩,_⟩:=hs
 simp only [Value.func.injEq,Array.mk.injEq,List.cons.injEq,Value.pointer.injEq,Option.some.injEq,Addr.mk.injEq,and_true,true_and]at e
 obtain ⟨rfl,rfl⟩:=e
 have c:=hid (Dsk.sync_call q P d f w h hop)
 clear h hop
 go_enter Tryz.func157,Tryz.ntmps157
 go_wp2_with (go_at_call 158;refine c.out.mono ?_;rintro e w1 ⟨rfl,hp,hf⟩;have HP:=hid hp;have HF:=hid hf;clear hp hf)
 go_ret
 exact ⟨rfl,HP.out,HF.out⟩
abbrev SB3(b0 b1 b2 q:Nat)(f m:Int)(W:World):Prop:=W.cell? ⟨b0,0,none⟩=some (.pointer (some ⟨q,0,none⟩))∧W.cell? ⟨b1,0,none⟩=some (.int .i64 f)∧W.cell? ⟨b2,0,none⟩=some (.int .i64 m)
theorem ct_call(q:Nat)(P:Dsk.Parts)(d:DS)(f m:Int)(w:World)(h:DiskP w q P d)(hop:d.ops<1000000000)(b0 b1 b2:Nat)
  (hs:StepAt w q (DN q P) (.func (.func 103) #[] #[.pointer (some ⟨b0,0,none⟩),.pointer (some ⟨b1,0,none⟩),.pointer (some ⟨b2,0,none⟩)]) (.ct f m)) :
  Calls Tryz.prog 103 #[.pointer (some ⟨b0,0,none⟩),.pointer (some ⟨b1,0,none⟩),.pointer (some ⟨b2,0,none⟩)] w fun e w'=>e=.returned (.int .i64 ((Stp.ct f m).go d).1)∧DiskTo w w' q P ((Stp.ct f m).go d).2:=by
 obtain ⟨c0,c1,c2,e,⟨k0,k1,k2⟩,_⟩:=hs
 simp only [Value.func.injEq,Array.mk.injEq,List.cons.injEq,Value.pointer.injEq,Option.some.injEq,Addr.mk.injEq,and_true,true_and]at e
 obtain ⟨rfl,rfl,rfl⟩:=e
 have hd:DiskP w.drew q P d:=h.later (Below.refl _ _).drew
 have c:=hid (Dsk.cut_call q P d f m w.drew hd hop)
 have cs:=hid (Dsk.sectors_call q P d f w.drew hd)
 have H:=hid hd
 have HF0:Hid (DFrame w w.drew q P.all):=hid (DFrame.below (Below.refl _ _).drew)
 obtain ⟨L,hL⟩:∃ L,lenD d f=L:=⟨_,rfl⟩
 have hgo:(Stp.ct f m).go d=if (L:Int)≤m then (0,d) else cutD d f m:=by rw [←hL];rfl
 rw [hL]at cs
 clear h hop hL hd
 have g0:SB3 b0 b1 b2 q f m w.drew:=⟨k0,k1,k2⟩
 by_cases hlm:(L:Int)≤m
 ·rw [if_pos hlm]at hgo
  rw [hgo]
  clear hgo
  go_enter Tryz.func103,Tryz.ntmps103
  go_upto_region 1 with fail
  go_region_held3 (SB3 b0 b1 b2 q f m) (with_reducible assumption) (first |(go_at_call 43;refine cs.out.mono ?_;rintro e w1 ⟨rfl,hw⟩;obtain rfl:=hw.symm))
  go_wp2
  go_ret
  exact ⟨rfl,⟨P,H.out,grew_refl _ _⟩,HF0.out⟩
 ·rw [if_neg hlm]at hgo
  rw [hgo]
  clear hgo
  go_enter Tryz.func103,Tryz.ntmps103
  go_upto_region 1 with fail
  go_region_held3 (SB3 b0 b1 b2 q f m) (with_reducible assumption) (first |(go_at_call 43;refine cs.out.mono ?_;rintro e w1 ⟨rfl,hw⟩;obtain rfl:=hw.symm))
  go_wp2_with (go_at_call 104;refine c.out.mono ?_;rintro e w1 ⟨rfl,hp,hf⟩;have HP:=hid hp;have HF:=hid hf;clear hp hf)
  go_ret
  exact ⟨rfl,HP.out,df_drawn HF.out⟩
end
section
open Go.RowKit Go.Maps
open Dsk (gt hid undrew keep_old keep_cell lt_cell Rd DS FS Sec DiskP DFrame Grew From writeD syncD cutD lenD readD newD known)
theorem put_ops(d:DS)(f:Int)(F:FS):(d.put f F).ops=d.ops:=by unfold Dsk.DS.put;split<;>rfl
theorem crash_ops(d:DS)(k:List Bool)(t:Int):(Dsk.crashD d k t).ops=d.ops:=rfl
theorem go_ops(s:Stp)(d:DS):(s.go d).2.ops≤d.ops+1:=by
 cases s with
 | wr f a ss=>
  simp only [Stp.go,writeD]
  repeat' split
  all_goals simp [put_ops,crash_ops,Dsk.opsD,Dsk.tickD]
 | sy f=>
  simp only [Stp.go,syncD]
  repeat' split
  all_goals simp [put_ops,crash_ops,Dsk.opsD,Dsk.tickD]
 | ct f m=>
  simp only [Stp.go,cutD]
  repeat' split
  all_goals simp [put_ops,crash_ops,Dsk.opsD,Dsk.tickD]
theorem firstD_ops(l:List Stp)(d:DS):(firstD l d).2.ops≤d.ops+l.length:=by
 induction l generalizing d with
 | nil=>simp [firstD]
 | cons s r ih=>
  have h1:=go_ops s d
  simp only [firstD]
  split
  ·have:=ih (s.go d).2;simp only [List.length_cons];omega
  ·simp only [List.length_cons];omega
theorem firstD_drop{l:List Stp}{i:Nat}{s:Stp}(h:l[i]? = some s)(d:DS):firstD (l.drop i) d=if (s.go d).1=0 then firstD (l.drop (i+1)) (s.go d).2 else s.go d:=by
 have hl:i<l.length:=(List.getElem?_eq_some_iff.1 h).1
 rw [List.drop_eq_getElem_cons hl]
 have e:l[i]=s:=(List.getElem?_eq_some_iff.1 h).2
 rw [e]
 rfl
theorem first_call(q:Nat)(P:Dsk.Parts)(d:DS)(lo:Option Addr)(cap:Nat)(l:List Stp)(w:World)(h:DiskP w q P d)(hop:d.ops+l.length≤1000000000)(hs:StepsAt w q (DN q P) lo l) :
  Calls Tryz.prog 83 #[.slice lo l.length cap] w fun e w'=>e=.returned (.int .i64 (firstD l d).1)∧DiskTo w w' q P (firstD l d).2:=by
 obtain ⟨R,hR⟩:∃ R,firstD l d=R:=⟨_,rfl⟩
 rw [hR]
 have HR:=hid hR;have H:=hid h;have HS:=hid hs;have HOP:=hid hop
 obtain ⟨L,hL⟩:∃ L,l.length=L:=⟨_,rfl⟩
 rw [hL]at HOP ⊢
 have HL:=hid hL
 have hLb:L≤1000000000:=by have:=HOP.out;omega
 clear h hs hop hR hL
 go_enter Tryz.func83,Tryz.ntmps83
 go_wp2
 go_loopw [8] (fun cc W=>∃ (i:Nat) (P':Dsk.Parts) (d':DS),i≤L∧cc=.int .i64 (i:Int)∧Hid (DiskP W q P' d'∧Grew P w P'∧DFrame w W q P.all∧firstD (l.drop i) d'=R∧d'.ops≤d.ops+i)) (fun cc _=>L - (Lib.intOf cc).toNat)
 case atStart=>exact ⟨0,P,d,by omega,rfl,hid ⟨H.out,grew_refl _ _,DFrame.refl _ _ _,by simpa using HR.out,by omega⟩⟩
 case round=>
  obtain ⟨i,P',d',hi,rfl,F⟩:=hrel
  by_cases hiL:i<L
  ·obtain ⟨hd,hg,hf,hr,ho⟩:=F.out
   have hs:=HS.out.disk hf hg
   obtain ⟨b,off,rfl,hb,hv⟩:=hs (by have:=HL.out;omega)
   obtain ⟨s,hsi⟩:∃ s,l[i]? = some s:=⟨l[i]'(by have:=HL.out;omega),List.getElem?_eq_getElem _⟩
   obtain ⟨v,hc,hst⟩:=hv i s hsi
   rw [firstD_drop hsi]at hr
   have hop':d'.ops<1000000000:=by have:=HOP.out;omega
   have hgo:=go_ops s d'
   have hiI:(i:Int)<(L:Int):=by omega
   have hi0:(0:Int)≤(i:Int):=by omega
   have HR2:=hid hr;have HG:=hid hg;have HF:=hid hf;have HO:=hid ho;have HGO:=hid hgo
   obtain ⟨E,hE⟩:∃ E,s.go d'=E:=⟨_,rfl⟩
   obtain ⟨n,cs,rfl,C⟩:∃ n cs,v=.func (.func n) #[] cs∧((n=155∨n=157∨n=103)∧Calls Tryz.prog n cs wr fun e w'=>e=.returned (.int .i64 E.1)∧DiskTo wr w' q P' E.2):=by
    rw [←hE]
    cases s with
    | wr f a ss=>
     obtain ⟨b0,b1,b2,b3,ao,n,cap,e,_⟩:=id hst
     subst e
     exact ⟨155,_,rfl,Or.inl rfl,wr_call q P' d' f a ss wr hd hop' b0 b1 b2 b3 hst⟩
    | sy f=>
     obtain ⟨b0,b1,e,_⟩:=id hst
     subst e
     exact ⟨157,_,rfl,Or.inr (Or.inl rfl),sy_call q P' d' f wr hd hop' b0 b1 hst⟩
    | ct f m=>
     obtain ⟨b0,b1,b2,e,_⟩:=id hst
     subst e
     exact ⟨103,_,rfl,Or.inr (Or.inr rfl),ct_call q P' d' f m wr hd hop' b0 b1 b2 hst⟩
   rw [hE]at HR2 HGO
   clear hd hg hf hr ho hs hb hv hsi hst hop' hgo hE F
   obtain ⟨hn,C⟩:=C
   have CC:=hid C
   clear C
   obtain ⟨e1,d1⟩:=E
   by_cases he:e1=0
   ·subst he
    rcases hn with rfl |rfl |rfl
    ·go_wp2_with (go_at_call 155;refine CC.out.mono ?_;rintro e w2 ⟨rfl,hp⟩;have HP:=hid hp;clear hp)
     go_roundw
     case rel=>
      obtain ⟨⟨P2,h2,g2⟩,f2⟩:=HP.out
      exact ⟨i+1,P2,d1,by omega,by go_num,hid ⟨h2,grew_trans HG.out g2 HF.out.size,df_trans HF.out HG.out f2,by simpa using HR2.out,by have:=HGO.out;have:=HO.out;simp at *;omega⟩⟩
     case measure=>simp [Lib.intOf];omega
    ·go_wp2_with (go_at_call 157;refine CC.out.mono ?_;rintro e w2 ⟨rfl,hp⟩;have HP:=hid hp;clear hp)
     go_roundw
     case rel=>
      obtain ⟨⟨P2,h2,g2⟩,f2⟩:=HP.out
      exact ⟨i+1,P2,d1,by omega,by go_num,hid ⟨h2,grew_trans HG.out g2 HF.out.size,df_trans HF.out HG.out f2,by simpa using HR2.out,by have:=HGO.out;have:=HO.out;simp at *;omega⟩⟩
     case measure=>simp [Lib.intOf];omega
    ·go_wp2_with (go_at_call 103;refine CC.out.mono ?_;rintro e w2 ⟨rfl,hp⟩;have HP:=hid hp;clear hp)
     go_roundw
     case rel=>
      obtain ⟨⟨P2,h2,g2⟩,f2⟩:=HP.out
      exact ⟨i+1,P2,d1,by omega,by go_num,hid ⟨h2,grew_trans HG.out g2 HF.out.size,df_trans HF.out HG.out f2,by simpa using HR2.out,by have:=HGO.out;have:=HO.out;simp at *;omega⟩⟩
     case measure=>simp [Lib.intOf];omega
   ·have hR3:=HR2.out
    rw [if_neg he]at hR3
    subst hR3
    rcases hn with rfl |rfl |rfl
    ·go_wp2_with (go_at_call 155;refine CC.out.mono ?_;rintro e w2 ⟨rfl,hp⟩;have HP:=hid hp;clear hp)
     go_ret
     exact ⟨rfl,DiskTo.trans HF.out HG.out HP.out⟩
    ·go_wp2_with (go_at_call 157;refine CC.out.mono ?_;rintro e w2 ⟨rfl,hp⟩;have HP:=hid hp;clear hp)
     go_ret
     exact ⟨rfl,DiskTo.trans HF.out HG.out HP.out⟩
    ·go_wp2_with (go_at_call 103;refine CC.out.mono ?_;rintro e w2 ⟨rfl,hp⟩;have HP:=hid hp;clear hp)
     go_ret
     exact ⟨rfl,DiskTo.trans HF.out HG.out HP.out⟩
  ·obtain rfl:i=L:=by omega
   obtain ⟨hd,hg,hf,hr,ho⟩:=F.out
   rw [List.drop_eq_nil_of_le (by have:=HL.out;omega)]at hr
   have hr':((0:Int),d')=R:=hr
   subst hr'
   have HD:=hid hd;have HG:=hid hg;have HF:=hid hf
   clear hd hg hf hr ho F
   go_wp2
   go_ret
   exact ⟨rfl,⟨P',HD.out,HG.out⟩,HF.out⟩
end
end Go.Proofs.YtgjgkpnjchflaaaGreatDoor
