/- Steps that are done to a disk: what they do, and how they lie in memory. No statement of the seat is proved here. -/
import Derived.Test.YtadhdedjdgjboaaGreatDoorH09
import Derived.Deep.DeepCutAuto
import Derived.Test.YtadhdedjdgjboaaGreatDoorProg
import Derived.Maps.AppendAt
import Derived.Maps.OwnSet
import Derived.Maps.OwnOps
import Derived.Deep.AppendSrc
import Derived.WalkKit
import Derived.WalkSpells
import Derived.WalkLawsBesides
import Derived.Laws.CopyOwn
import Derived.Laws.BytesArg
import Derived.Laws.AppendOwnNone
import Derived.Deep.OwnRows
import Derived.BigRegion
import Derived.Deep.RegionWith
import Derived.Deep.RegionHeld3
import Derived.Lib.OthersKept
import Derived.Deep.AppendLies
import Derived.Laws.OwnMore
set_option maxHeartbeats 16000000
set_option maxRecDepth 20000
namespace Go.Proofs.YtadhdedjdgjboaaGreatDoor
section
open Go.RowKit Go.Maps
open Dsk (gt hid undrew keep_old keep_cell lt_cell Rd DS FS Sec DiskP DFrame Grew From writeD syncD cutD lenD readD newD known)
inductive Stp where
 | wr (f a:Int) (ss:List Sec)
 | sy (f:Int)
 | ct (f n:Int)
def Stp.go(d:DS):Stp→Int×DS
 | .wr f a ss=>writeD d f a ss
 | .sy f=>syncD d f
 | .ct f n=>if (lenD d f:Int)≤n then (0,d) else cutD d f n
def firstD:List Stp→DS→Int×DS
 | [],d=>(0,d)
 | s::r,d=>if (s.go d).1=0 then firstD r (s.go d).2 else s.go d
def DN(q:Nat)(P:Dsk.Parts):Nat→Prop:=fun k=>k=q∨P.all k
variable {d:DS} {q:Nat} {w:World}
theorem DN.lt{P:Dsk.Parts}(h:DiskP w q P d){k:Nat}(hk:DN q P k):k<w.heap.size:=by
 rcases hk with rfl |hk
 ·exact Dsk.p_lt h
 ·exact Dsk.all_lt h hk
def Out(w:World)(N:Nat→Prop)(b:Nat):Prop:=b<w.heap.size∧¬N b
variable {b:Nat} {N:Nat→Prop} {w':World}
theorem Out.later(h:Out w N b)(hb:w.heap.size≤w'.heap.size):Out w' N b:=⟨Nat.lt_of_lt_of_le h.1 hb,h.2⟩
theorem Out.grew{P P':Dsk.Parts}(h:Out w (DN q P) b)(hs:w.heap.size≤w'.heap.size)(hg:Grew P w P'):Out w' (DN q P') b:=
 ⟨Nat.lt_of_lt_of_le h.1 hs,fun hk=>by
  rcases hk with rfl |hk
  ·exact h.2 (Or.inl rfl)
  ·rcases hg b hk with h1 |h1
   ·exact h.2 (Or.inr h1)
   ·have:=h.1;omega⟩
theorem Out.new(hN:∀ k,N k→k<w.heap.size)(h1:w.heap.size≤b)(h2:b<w'.heap.size):Out w' N b:=
 ⟨h2,fun h=>by have:=hN b h;omega⟩
theorem cell_df{P:Dsk.Parts}(hf:DFrame w w' q P.all){b o:Nat}{v:Value}(hc:w.cell? ⟨b,o,none⟩=some v)(h:Out w (DN q P) b):w'.cell? ⟨b,o,none⟩=some v:=
 hf.cellAt hc (fun e=>h.2 (Or.inl e)) (fun e=>h.2 (Or.inr e))
theorem rd_df{P:Dsk.Parts}(hf:DFrame w w' q P.all){ao:Option Addr}{n cap:Nat}{xs:List Nat}(h:Rd w ao n cap xs)(ho:0<n→∀ a,ao=some a→Out w (DN q P) a.block):Rd w' ao n cap xs:=by
 refine ⟨h.1,h.2.1,h.2.2.1,fun hn=>?_⟩
 obtain ⟨b,off,rfl,hc⟩:=h.2.2.2 hn
 exact ⟨b,off,rfl,fun t ht=>cell_df hf (hc t ht) (ho hn _ rfl)⟩
def StepAt(w:World)(q:Nat)(N:Nat→Prop)(v:Value):Stp→Prop
 | .wr f a ss=>∃ b0 b1 b2 b3 ao n cap,v=.func (.func 140) #[] #[.pointer (some ⟨b0,0,none⟩),.pointer (some ⟨b1,0,none⟩),.pointer (some ⟨b2,0,none⟩),.pointer (some ⟨b3,0,none⟩)] ∧
   (w.cell? ⟨b0,0,none⟩=some (.pointer (some ⟨q,0,none⟩))∧w.cell? ⟨b1,0,none⟩=some (.int .i64 f)∧w.cell? ⟨b2,0,none⟩=some (.int .i64 a)∧w.cell? ⟨b3,0,none⟩=some (.slice ao n cap)) ∧
   (Out w N b0∧Out w N b1∧Out w N b2∧Out w N b3) ∧
   Rd w ao n cap ss.flatten∧(0<n→∀ a,ao=some a→Out w N a.block)∧n=ss.length*128∧(∀ x∈ss,x.length=128)∧ss.length≤1000
 | .sy f=>∃ b0 b1,v=.func (.func 142) #[] #[.pointer (some ⟨b0,0,none⟩),.pointer (some ⟨b1,0,none⟩)] ∧
   (w.cell? ⟨b0,0,none⟩=some (.pointer (some ⟨q,0,none⟩))∧w.cell? ⟨b1,0,none⟩=some (.int .i64 f))∧(Out w N b0∧Out w N b1)
 | .ct f m=>∃ b0 b1 b2,v=.func (.func 103) #[] #[.pointer (some ⟨b0,0,none⟩),.pointer (some ⟨b1,0,none⟩),.pointer (some ⟨b2,0,none⟩)] ∧
   (w.cell? ⟨b0,0,none⟩=some (.pointer (some ⟨q,0,none⟩))∧w.cell? ⟨b1,0,none⟩=some (.int .i64 f)∧w.cell? ⟨b2,0,none⟩=some (.int .i64 m))∧(Out w N b0∧Out w N b1∧Out w N b2)
variable {s:Stp} {v:Value} {N':Nat→Prop}
theorem StepAt.turn(h:StepAt w q N v s)(ho:∀ b,Out w N b→Out w' N' b)(hc:∀ b o v,Out w N b→w.cell? ⟨b,o,none⟩=some v→w'.cell? ⟨b,o,none⟩=some v):StepAt w' q N' v s:=by
 cases s with
 | wr f a ss=>
  obtain ⟨b0,b1,b2,b3,ao,n,cap,rfl,⟨c0,c1,c2,c3⟩,⟨o0,o1,o2,o3⟩,hr,hro,hn,hx,hl⟩:=h
  refine ⟨b0,b1,b2,b3,ao,n,cap,rfl,⟨hc _ _ _ o0 c0,hc _ _ _ o1 c1,hc _ _ _ o2 c2,hc _ _ _ o3 c3⟩,⟨ho _ o0,ho _ o1,ho _ o2,ho _ o3⟩,⟨hr.1,hr.2.1,hr.2.2.1,fun hp=>?_⟩,fun hp a ha=>ho _ (hro hp a ha),hn,hx,hl⟩
  obtain ⟨b,off,rfl,hh⟩:=hr.2.2.2 hp
  exact ⟨b,off,rfl,fun t ht=>hc _ _ _ (hro hp _ rfl) (hh t ht)⟩
 | sy f=>
  obtain ⟨b0,b1,rfl,⟨c0,c1⟩,o0,o1⟩:=h
  exact ⟨b0,b1,rfl,⟨hc _ _ _ o0 c0,hc _ _ _ o1 c1⟩,ho _ o0,ho _ o1⟩
 | ct f m=>
  obtain ⟨b0,b1,b2,rfl,⟨c0,c1,c2⟩,o0,o1,o2⟩:=h
  exact ⟨b0,b1,b2,rfl,⟨hc _ _ _ o0 c0,hc _ _ _ o1 c1,hc _ _ _ o2 c2⟩,ho _ o0,ho _ o1,ho _ o2⟩
theorem StepAt.later(h:StepAt w q N v s)(hb:Below w.heap.size w w'):StepAt w' q N v s:=
 h.turn (fun _ ho=>ho.later hb.size) (fun _ _ _ _ hc=>keep_old hb hc)
def StepsAt(w:World)(q:Nat)(N:Nat→Prop)(lo:Option Addr)(l:List Stp):Prop:=
 0<l.length→∃ b off,lo=some ⟨b,off,none⟩∧Out w N b∧∀ i s,l[i]? = some s→∃ v,w.cell? ⟨b,off+i,none⟩=some v∧StepAt w q N v s
variable {l:List Stp} {lo:Option Addr}
theorem StepsAt.turn(h:StepsAt w q N lo l)(ho:∀ b,Out w N b→Out w' N' b)(hc:∀ b o v,Out w N b→w.cell? ⟨b,o,none⟩=some v→w'.cell? ⟨b,o,none⟩=some v):StepsAt w' q N' lo l:=fun hl=>by
 obtain ⟨b,off,rfl,hb,hh⟩:=h hl
 refine ⟨b,off,rfl,ho _ hb,fun i s hs=>?_⟩
 obtain ⟨v,h1,h2⟩:=hh i s hs
 exact ⟨v,hc _ _ _ hb h1,h2.turn ho hc⟩
theorem StepsAt.later(h:StepsAt w q N lo l)(hb:Below w.heap.size w w'):StepsAt w' q N lo l:=
 h.turn (fun _ ho=>ho.later hb.size) (fun _ _ _ _ hc=>keep_old hb hc)
theorem StepsAt.disk{P P':Dsk.Parts}(h:StepsAt w q (DN q P) lo l)(hf:DFrame w w' q P.all)(hg:Grew P w P'):StepsAt w' q (DN q P') lo l:=
 h.turn (fun _ ho=>ho.grew hf.size hg) (fun _ _ _ ho hc=>cell_df hf hc ho)
theorem grew_refl(P:Dsk.Parts)(w:World):Grew P w P:=fun _ h=>Or.inl h
variable {w1:World}
theorem grew_trans{P P1 P2:Dsk.Parts}(h:Grew P w P1)(k:Grew P1 w1 P2)(hs:w.heap.size≤w1.heap.size):Grew P w P2:=fun b hb=>by
 rcases k b hb with h1 |h1
 ·exact h b h1
 ·exact Or.inr (Nat.le_trans hs h1)
variable {w2:World}
theorem df_trans{P P1:Dsk.Parts}(h:DFrame w w1 q P.all)(hg:Grew P w P1)(k:DFrame w1 w2 q P1.all):DFrame w w2 q P.all:=
 h.trans (k.imp (fun b _ hb=>hg b hb))
structure DiskTo (w w':World) (q:Nat) (P:Dsk.Parts) (d:DS):Prop where
 is:∃ P',DiskP w' q P' d∧Grew P w P'
 fr:DFrame w w' q P.all
theorem DiskTo.trans{P P1:Dsk.Parts}{d2:DS}(hf:DFrame w w1 q P.all)(hg:Grew P w P1)(k:DiskTo w1 w2 q P1 d2):DiskTo w w2 q P d2:=by
 obtain ⟨P2,hp,hg2⟩:=k.is
 exact ⟨⟨P2,hp,grew_trans hg hg2 hf.size⟩,df_trans hf hg k.fr⟩
theorem DiskTo.first{P:Dsk.Parts}(hb:Below w.heap.size w w1)(k:DiskTo w1 w2 q P d):DiskTo w w2 q P d:=by
 obtain ⟨P2,hp,hg2⟩:=k.is
 exact ⟨⟨P2,hp,fun b h=>by
  rcases hg2 b h with h1 |h1
  ·exact Or.inl h1
  ·exact Or.inr (Nat.le_trans hb.size h1)⟩,(DFrame.below hb).trans (k.fr.imp (fun _ _ h=>Or.inl h))⟩
end
section
open Go.RowKit Go.Maps
open Dsk (gt hid undrew keep_old keep_cell lt_cell Rd DS FS Sec DiskP DFrame Grew From writeD syncD cutD lenD readD newD known)
theorem place_any(n:Int)(w:World)(h : -1000000≤n∧n≤1000000):Calls Tryz.prog 97 #[.int .i64 n] w fun e w'=>e=.returned (.int .i64 ((n - 1)*4))∧w'=w:=by
 have e1:IntKind.i64.wrap (n - 1)=n - 1:=IntWalk.i64_in _ ⟨by omega,by omega⟩
 have e2:IntKind.i64.wrap ((n - 1)*4)=(n - 1)*4:=IntWalk.i64_in _ ⟨by omega,by omega⟩
 clear h
 go_enter Tryz.func97,Tryz.ntmps97
 go_wp2
 go_ret
 exact ⟨rfl,rfl⟩
variable {v:Value} {w:World}
theorem cell_box{t:TypeId}{n:Nat}(hn:n=w.heap.size):(w.alloc (.cells #[v] t)).cell? ⟨n,0,none⟩=some v:=by
 rw [World.cell?_alloc_at _ _ _ _ hn];rfl
theorem cell_up{a:Addr}{o:Obj}(h:w.cell? a=some v):(w.alloc o).cell? a=some v:=keep_old (Below.alloc (Below.refl _ _) (Nat.le_refl _) o) h
theorem write_make(q:Nat)(f a:Int)(ao:Option Addr)(n cap:Nat)(ss:List Sec)(N:Nat→Prop)(w:World)(hN:∀ k,N k→k<w.heap.size)
  (hr:Rd w ao n cap ss.flatten) (ho:0<n→∀ a,ao=some a→Out w N a.block) (hn:n=ss.length*128) (hx:∀ x∈ss,x.length=128) (hl:ss.length≤1000) :
  Calls Tryz.prog 109 #[.pointer (some ⟨q,0,none⟩),.int .i64 f,.int .i64 a,.slice ao n cap] w fun e w'=>∃ v,e=.returned v∧StepAt w' q N v (.wr f a ss)∧Below w.heap.size w w':=by
 have H:=hid hr;have HO:=hid ho;have HN:=hid hN;have HX:=hid hx;have Hn:=hid hn;have HL:=hid hl
 clear hr ho hN hx hn hl
 go_enter Tryz.func109,Tryz.ntmps109
 go_wp2
 go_ret
 have hb:Below w.heap.size w ((((w.alloc (.cells #[.pointer (some ⟨q,0,none⟩)] 24)).alloc (.cells #[.int .i64 f] 3)).alloc (.cells #[.int .i64 a] 3)).alloc (.cells #[.slice ao n cap] 60)):=(by repeat (first |with_reducible exact Below.refl _ _ |with_reducible assumption |with_reducible refine Below.drew ?_ |with_reducible refine below_drewN ?_ _ |with_reducible refine Below.alloc ?_ (by simp<;>omega) _ |with_reducible refine Below.setCell ?_ (by simp<;>omega) _))
 refine ⟨_,rfl,⟨w.heap.size,w.heap.size+1,w.heap.size+1+1,w.heap.size+1+1+1,ao,n,cap,by simp,?_,?_,H.out.keep hb,fun hp x hx=>(HO.out hp x hx).later hb.size,Hn.out,HX.out,HL.out⟩,hb⟩
 ·exact ⟨cell_up (cell_up (cell_up (cell_box rfl))),cell_up (cell_up (cell_box (by simp))),cell_up (cell_box (by simp)),cell_box (by simp)⟩
 ·exact ⟨Out.new HN.out (by omega) (by simp;omega),Out.new HN.out (by omega) (by simp),Out.new HN.out (by omega) (by simp),Out.new HN.out (by omega) (by simp)⟩
theorem sync_make(q:Nat)(f:Int)(N:Nat→Prop)(w:World)(hN:∀ k,N k→k<w.heap.size) :
  Calls Tryz.prog 110 #[.pointer (some ⟨q,0,none⟩),.int .i64 f] w fun e w'=>∃ v,e=.returned v∧StepAt w' q N v (.sy f)∧Below w.heap.size w w':=by
 have HN:=hid hN
 clear hN
 go_enter Tryz.func110,Tryz.ntmps110
 go_wp2
 go_ret
 have hb:Below w.heap.size w ((w.alloc (.cells #[.pointer (some ⟨q,0,none⟩)] 24)).alloc (.cells #[.int .i64 f] 3)):=(by repeat (first |with_reducible exact Below.refl _ _ |with_reducible assumption |with_reducible refine Below.drew ?_ |with_reducible refine below_drewN ?_ _ |with_reducible refine Below.alloc ?_ (by simp<;>omega) _ |with_reducible refine Below.setCell ?_ (by simp<;>omega) _))
 refine ⟨_,rfl,⟨w.heap.size,w.heap.size+1,by simp,?_,?_⟩,hb⟩
 ·exact ⟨cell_up (cell_box rfl),cell_box (by simp)⟩
 ·exact ⟨Out.new HN.out (by omega) (by simp;omega),Out.new HN.out (by omega) (by simp)⟩
theorem cut_make(q:Nat)(f m:Int)(N:Nat→Prop)(w:World)(hN:∀ k,N k→k<w.heap.size) :
  Calls Tryz.prog 78 #[.pointer (some ⟨q,0,none⟩),.int .i64 f,.int .i64 m] w fun e w'=>∃ v,e=.returned v∧StepAt w' q N v (.ct f m)∧Below w.heap.size w w':=by
 have HN:=hid hN
 clear hN
 go_enter Tryz.func78,Tryz.ntmps78
 go_wp2
 go_ret
 have hb:Below w.heap.size w (((w.alloc (.cells #[.pointer (some ⟨q,0,none⟩)] 24)).alloc (.cells #[.int .i64 f] 3)).alloc (.cells #[.int .i64 m] 3)):=(by repeat (first |with_reducible exact Below.refl _ _ |with_reducible assumption |with_reducible refine Below.drew ?_ |with_reducible refine below_drewN ?_ _ |with_reducible refine Below.alloc ?_ (by simp<;>omega) _ |with_reducible refine Below.setCell ?_ (by simp<;>omega) _))
 refine ⟨_,rfl,⟨w.heap.size,w.heap.size+1,w.heap.size+1+1,by simp,?_,?_⟩,hb⟩
 ·exact ⟨cell_up (cell_up (cell_box rfl)),cell_up (cell_box (by simp)),cell_box (by simp)⟩
 ·exact ⟨Out.new HN.out (by omega) (by simp;omega),Out.new HN.out (by omega) (by simp),Out.new HN.out (by omega) (by simp)⟩
theorem df_drawn{w':World}{q:Nat}{S:Nat→Prop}(h:DFrame w.drew w' q S):DFrame w w' q S:=⟨h.os,h.tape,h.output,h.size,h.block⟩
theorem wr_call(q:Nat)(P:Dsk.Parts)(d:DS)(f a:Int)(ss:List Sec)(w:World)(h:DiskP w q P d)(hop:d.ops<1000000000)(b0 b1 b2 b3:Nat)
  (hs:StepAt w q (DN q P) (.func (.func 140) #[] #[.pointer (some ⟨b0,0,none⟩),.pointer (some ⟨b1,0,none⟩),.pointer (some ⟨b2,0,none⟩),.pointer (some ⟨b3,0,none⟩)]) (.wr f a ss)) :
  Calls Tryz.prog 140 #[.pointer (some ⟨b0,0,none⟩),.pointer (some ⟨b1,0,none⟩),.pointer (some ⟨b2,0,none⟩),.pointer (some ⟨b3,0,none⟩)] w fun e w'=>e=.returned (.int .i64 ((Stp.wr f a ss).go d).1)∧DiskTo w w' q P ((Stp.wr f a ss).go d).2:=by
 obtain ⟨c0,c1,c2,c3,ao,n,cap,e,⟨k0,k1,k2,k3⟩,_,hr,hro,hn,hx,hl⟩:=hs
 simp only [Value.func.injEq,Array.mk.injEq,List.cons.injEq,Value.pointer.injEq,Option.some.injEq,Addr.mk.injEq,and_true,true_and]at e
 obtain ⟨rfl,rfl,rfl,rfl⟩:=e
 have c:=hid (Dsk.write_call q P d f a ao n cap ss w h hop hx hl hn (fun w' hf=>rd_df hf hr hro))
 clear h hr hro hn hx hl hop
 go_enter Tryz.func140,Tryz.ntmps140
 go_wp2_with (go_at_call 141;refine c.out.mono ?_;rintro e w1 ⟨rfl,hp,hf⟩;have HP:=hid hp;have HF:=hid hf;clear hp hf)
 go_ret
 exact ⟨rfl,HP.out,HF.out⟩
theorem sy_call(q:Nat)(P:Dsk.Parts)(d:DS)(f:Int)(w:World)(h:DiskP w q P d)(hop:d.ops<1000000000)(b0 b1:Nat)
  (hs:StepAt w q (DN q P) (.func (.func 142) #[] #[.pointer (some ⟨b0,0,none⟩),.pointer (some ⟨b1,0,none⟩)]) (.sy f)) :
  Calls Tryz.prog 142 #[.pointer (some ⟨b0,0,none⟩),.pointer (some ⟨b1,0,none⟩)] w fun e w'=>e=.returned (.int .i64 ((Stp.sy f).go d).1)∧DiskTo w w' q P ((Stp.sy f).go d).2:=by
 obtain ⟨c0,c1,e,⟨k0,k1⟩,_⟩:=hs
 simp only [Value.func.injEq,Array.mk.injEq,List.cons.injEq,Value.pointer.injEq,Option.some.injEq,Addr.mk.injEq,and_true,true_and]at e
 obtain ⟨rfl,rfl⟩:=e
 have c:=hid (Dsk.sync_call q P d f w h hop)
 clear h hop
 go_enter Tryz.func142,Tryz.ntmps142
 go_wp2_with (go_at_call 143;refine c.out.mono ?_;rintro e w1 ⟨rfl,hp,hf⟩;have HP:=hid hp;have HF:=hid hf;clear hp hf)
 go_ret
 exact ⟨rfl,HP.out,HF.out⟩
abbrev SB3(b0 b1 b2 q:Nat)(f m:Int)(W:World):Prop:=W.cell? ⟨b0,0,none⟩=some (.pointer (some ⟨q,0,none⟩))∧W.cell? ⟨b1,0,none⟩=some (.int .i64 f)∧W.cell? ⟨b2,0,none⟩=some (.int .i64 m)
theorem ct_call(q:Nat)(P:Dsk.Parts)(d:DS)(f m:Int)(w:World)(h:DiskP w q P d)(hop:d.ops<1000000000)(b0 b1 b2:Nat)
  (hs:StepAt w q (DN q P) (.func (.func 103) #[] #[.pointer (some ⟨b0,0,none⟩),.pointer (some ⟨b1,0,none⟩),.pointer (some ⟨b2,0,none⟩)]) (.ct f m)) :
  Calls Tryz.prog 103 #[.pointer (some ⟨b0,0,none⟩),.pointer (some ⟨b1,0,none⟩),.pointer (some ⟨b2,0,none⟩)] w fun e w'=>e=.returned (.int .i64 ((Stp.ct f m).go d).1)∧DiskTo w w' q P ((Stp.ct f m).go d).2:=by
 obtain ⟨c0,c1,c2,e,⟨k0,k1,k2⟩,_⟩:=hs
 simp only [Value.func.injEq,Array.mk.injEq,List.cons.injEq,Value.pointer.injEq,Option.some.injEq,Addr.mk.injEq,and_true,true_and]at e
 obtain ⟨rfl,rfl,rfl⟩:=e
 have hd:DiskP w.drew q P d:=h.later (Below.refl _ _).drew
 have c:=hid (Dsk.cut_call q P d f m w.drew hd hop)
 have cs:=hid (Dsk.sectors_call q P d f w.drew hd)
 have H:=hid hd
 have HF0:Hid (DFrame w w.drew q P.all):=hid (DFrame.below (Below.refl _ _).drew)
 obtain ⟨L,hL⟩:∃ L,lenD d f=L:=⟨_,rfl⟩
 have hgo:(Stp.ct f m).go d=if (L:Int)≤m then (0,d) else cutD d f m:=by rw [←hL];rfl
 rw [hL]at cs
 clear h hop hL hd
 have g0:SB3 b0 b1 b2 q f m w.drew:=⟨k0,k1,k2⟩
 by_cases hlm:(L:Int)≤m
 ·rw [if_pos hlm]at hgo
  rw [hgo]
  clear hgo
  go_enter Tryz.func103,Tryz.ntmps103
  go_upto_region 1 with fail
  go_region_held3 (SB3 b0 b1 b2 q f m) (with_reducible assumption) (first |(go_at_call 29;refine cs.out.mono ?_;rintro e w1 ⟨rfl,hw⟩;obtain rfl:=hw.symm))
  go_wp2
  go_ret
  exact ⟨rfl,⟨P,H.out,grew_refl _ _⟩,HF0.out⟩
 ·rw [if_neg hlm]at hgo
  rw [hgo]
  clear hgo
  go_enter Tryz.func103,Tryz.ntmps103
  go_upto_region 1 with fail
  go_region_held3 (SB3 b0 b1 b2 q f m) (with_reducible assumption) (first |(go_at_call 29;refine cs.out.mono ?_;rintro e w1 ⟨rfl,hw⟩;obtain rfl:=hw.symm))
  go_wp2_with (go_at_call 104;refine c.out.mono ?_;rintro e w1 ⟨rfl,hp,hf⟩;have HP:=hid hp;have HF:=hid hf;clear hp hf)
  go_ret
  exact ⟨rfl,HP.out,df_drawn HF.out⟩
end
section
open Go.RowKit Go.Maps
open Dsk (gt hid undrew keep_old keep_cell lt_cell Rd DS FS Sec DiskP DFrame Grew From writeD syncD cutD lenD readD newD known)
theorem put_ops(d:DS)(f:Int)(F:FS):(d.put f F).ops=d.ops:=by unfold Dsk.DS.put;split<;>rfl
theorem crash_ops(d:DS)(k:List Bool)(t:Int):(Dsk.crashD d k t).ops=d.ops:=rfl
theorem go_ops(s:Stp)(d:DS):(s.go d).2.ops≤d.ops+1:=by
 cases s with
 | wr f a ss=>
  simp only [Stp.go,writeD]
  repeat' split
  all_goals simp [put_ops,crash_ops,Dsk.opsD,Dsk.tickD]
 | sy f=>
  simp only [Stp.go,syncD]
  repeat' split
  all_goals simp [put_ops,crash_ops,Dsk.opsD,Dsk.tickD]
 | ct f m=>
  simp only [Stp.go,cutD]
  repeat' split
  all_goals simp [put_ops,crash_ops,Dsk.opsD,Dsk.tickD]
theorem firstD_ops(l:List Stp)(d:DS):(firstD l d).2.ops≤d.ops+l.length:=by
 induction l generalizing d with
 | nil=>simp [firstD]
 | cons s r ih=>
  have h1:=go_ops s d
  simp only [firstD]
  split
  ·have:=ih (s.go d).2;simp only [List.length_cons];omega
  ·simp only [List.length_cons];omega
theorem firstD_drop{l:List Stp}{i:Nat}{s:Stp}(h:l[i]? = some s)(d:DS):firstD (l.drop i) d=if (s.go d).1=0 then firstD (l.drop (i+1)) (s.go d).2 else s.go d:=by
 have hl:i<l.length:=(List.getElem?_eq_some_iff.1 h).1
 rw [List.drop_eq_getElem_cons hl]
 have e:l[i]=s:=(List.getElem?_eq_some_iff.1 h).2
 rw [e]
 rfl
theorem first_call(q:Nat)(P:Dsk.Parts)(d:DS)(lo:Option Addr)(cap:Nat)(l:List Stp)(w:World)(h:DiskP w q P d)(hop:d.ops+l.length≤1000000000)(hs:StepsAt w q (DN q P) lo l) :
  Calls Tryz.prog 83 #[.slice lo l.length cap] w fun e w'=>e=.returned (.int .i64 (firstD l d).1)∧DiskTo w w' q P (firstD l d).2:=by
 obtain ⟨R,hR⟩:∃ R,firstD l d=R:=⟨_,rfl⟩
 rw [hR]
 have HR:=hid hR;have H:=hid h;have HS:=hid hs;have HOP:=hid hop
 obtain ⟨L,hL⟩:∃ L,l.length=L:=⟨_,rfl⟩
 rw [hL]at HOP ⊢
 have HL:=hid hL
 have hLb:L≤1000000000:=by have:=HOP.out;omega
 clear h hs hop hR hL
 go_enter Tryz.func83,Tryz.ntmps83
 go_wp2
 go_loopw [8] (fun cc W=>∃ (i:Nat) (P':Dsk.Parts) (d':DS),i≤L∧cc=.int .i64 (i:Int)∧Hid (DiskP W q P' d'∧Grew P w P'∧DFrame w W q P.all∧firstD (l.drop i) d'=R∧d'.ops≤d.ops+i)) (fun cc _=>L - (Lib.intOf cc).toNat)
 case atStart=>exact ⟨0,P,d,by omega,rfl,hid ⟨H.out,grew_refl _ _,DFrame.refl _ _ _,by simpa using HR.out,by omega⟩⟩
 case round=>
  obtain ⟨i,P',d',hi,rfl,F⟩:=hrel
  by_cases hiL:i<L
  ·obtain ⟨hd,hg,hf,hr,ho⟩:=F.out
   have hs:=HS.out.disk hf hg
   obtain ⟨b,off,rfl,hb,hv⟩:=hs (by have:=HL.out;omega)
   obtain ⟨s,hsi⟩:∃ s,l[i]? = some s:=⟨l[i]'(by have:=HL.out;omega),List.getElem?_eq_getElem _⟩
   obtain ⟨v,hc,hst⟩:=hv i s hsi
   rw [firstD_drop hsi]at hr
   have hop':d'.ops<1000000000:=by have:=HOP.out;omega
   have hgo:=go_ops s d'
   have hiI:(i:Int)<(L:Int):=by omega
   have hi0:(0:Int)≤(i:Int):=by omega
   have HR2:=hid hr;have HG:=hid hg;have HF:=hid hf;have HO:=hid ho;have HGO:=hid hgo
   obtain ⟨E,hE⟩:∃ E,s.go d'=E:=⟨_,rfl⟩
   obtain ⟨n,cs,rfl,C⟩:∃ n cs,v=.func (.func n) #[] cs∧((n=140∨n=142∨n=103)∧Calls Tryz.prog n cs wr fun e w'=>e=.returned (.int .i64 E.1)∧DiskTo wr w' q P' E.2):=by
    rw [←hE]
    cases s with
    | wr f a ss=>
     obtain ⟨b0,b1,b2,b3,ao,n,cap,e,_⟩:=id hst
     subst e
     exact ⟨140,_,rfl,Or.inl rfl,wr_call q P' d' f a ss wr hd hop' b0 b1 b2 b3 hst⟩
    | sy f=>
     obtain ⟨b0,b1,e,_⟩:=id hst
     subst e
     exact ⟨142,_,rfl,Or.inr (Or.inl rfl),sy_call q P' d' f wr hd hop' b0 b1 hst⟩
    | ct f m=>
     obtain ⟨b0,b1,b2,e,_⟩:=id hst
     subst e
     exact ⟨103,_,rfl,Or.inr (Or.inr rfl),ct_call q P' d' f m wr hd hop' b0 b1 b2 hst⟩
   rw [hE]at HR2 HGO
   clear hd hg hf hr ho hs hb hv hsi hst hop' hgo hE F
   obtain ⟨hn,C⟩:=C
   have CC:=hid C
   clear C
   obtain ⟨e1,d1⟩:=E
   by_cases he:e1=0
   ·subst he
    rcases hn with rfl |rfl |rfl
    ·go_wp2_with (go_at_call 140;refine CC.out.mono ?_;rintro e w2 ⟨rfl,hp⟩;have HP:=hid hp;clear hp)
     go_roundw
     case rel=>
      obtain ⟨⟨P2,h2,g2⟩,f2⟩:=HP.out
      exact ⟨i+1,P2,d1,by omega,by go_num,hid ⟨h2,grew_trans HG.out g2 HF.out.size,df_trans HF.out HG.out f2,by simpa using HR2.out,by have:=HGO.out;have:=HO.out;simp at *;omega⟩⟩
     case measure=>simp [Lib.intOf];omega
    ·go_wp2_with (go_at_call 142;refine CC.out.mono ?_;rintro e w2 ⟨rfl,hp⟩;have HP:=hid hp;clear hp)
     go_roundw
     case rel=>
      obtain ⟨⟨P2,h2,g2⟩,f2⟩:=HP.out
      exact ⟨i+1,P2,d1,by omega,by go_num,hid ⟨h2,grew_trans HG.out g2 HF.out.size,df_trans HF.out HG.out f2,by simpa using HR2.out,by have:=HGO.out;have:=HO.out;simp at *;omega⟩⟩
     case measure=>simp [Lib.intOf];omega
    ·go_wp2_with (go_at_call 103;refine CC.out.mono ?_;rintro e w2 ⟨rfl,hp⟩;have HP:=hid hp;clear hp)
     go_roundw
     case rel=>
      obtain ⟨⟨P2,h2,g2⟩,f2⟩:=HP.out
      exact ⟨i+1,P2,d1,by omega,by go_num,hid ⟨h2,grew_trans HG.out g2 HF.out.size,df_trans HF.out HG.out f2,by simpa using HR2.out,by have:=HGO.out;have:=HO.out;simp at *;omega⟩⟩
     case measure=>simp [Lib.intOf];omega
   ·have hR3:=HR2.out
    rw [if_neg he]at hR3
    subst hR3
    rcases hn with rfl |rfl |rfl
    ·go_wp2_with (go_at_call 140;refine CC.out.mono ?_;rintro e w2 ⟨rfl,hp⟩;have HP:=hid hp;clear hp)
     go_ret
     exact ⟨rfl,DiskTo.trans HF.out HG.out HP.out⟩
    ·go_wp2_with (go_at_call 142;refine CC.out.mono ?_;rintro e w2 ⟨rfl,hp⟩;have HP:=hid hp;clear hp)
     go_ret
     exact ⟨rfl,DiskTo.trans HF.out HG.out HP.out⟩
    ·go_wp2_with (go_at_call 103;refine CC.out.mono ?_;rintro e w2 ⟨rfl,hp⟩;have HP:=hid hp;clear hp)
     go_ret
     exact ⟨rfl,DiskTo.trans HF.out HG.out HP.out⟩
  ·obtain rfl:i=L:=by omega
   obtain ⟨hd,hg,hf,hr,ho⟩:=F.out
   rw [List.drop_eq_nil_of_le (by have:=HL.out;omega)]at hr
   have hr':((0:Int),d')=R:=hr
   subst hr'
   have HD:=hid hd;have HG:=hid hg;have HF:=hid hf
   clear hd hg hf hr ho F
   go_wp2
   go_ret
   exact ⟨rfl,⟨P',HD.out,HG.out⟩,HF.out⟩
end
namespace Cch
open Go.RowKit Go.Maps
variable {w:World}
theorem gt{a b:World}(h:Below w.heap.size w a)(k:Below a.heap.size a b):Below w.heap.size w b:=h.trans (k.mono h.size)
theorem hid{p:Prop}(h:p):Hid p:=h
variable {w':World}
theorem undrew(h:Below w.drew.heap.size w.drew w'):Below w.heap.size w w':=⟨h.os,h.tape,h.output,h.size,h.block⟩
variable {v:Value}
theorem lt_cell{a:Addr}(h:w.cell? a=some v):a.block<w.heap.size:=by
 rcases Nat.lt_or_ge a.block w.heap.size with h1 |h1
 ·exact h1
 ·exfalso
  have h2:w.heap[a.block]? = none:=Array.getElem?_eq_none h1
  simp [World.cell?,h2]at h
variable {B:Nat}
theorem keep_cell(h:Below B w w'){a:Addr}{v:Value}(hc:w.cell? a=some v)(hB:a.block<B):w'.cell? a=some v:=by
 rw [World.cell?_of_block (h.block a.block hB)];exact hc
theorem keep_old(h:Below w.heap.size w w'){a:Addr}{v:Value}(hc:w.cell? a=some v):w'.cell? a=some v:=keep_cell h hc (lt_cell hc)
theorem keep_frozen(h:Below B w w'){a:Addr}(hB:a.block<B):w'.frozen? a=w.frozen? a:=World.frozen?_of_block (h.block a.block hB)
def bs(xs:List Nat):List Value:=xs.map fun x:Nat=>Value.int .u8 (x:Int)
def str(xs:List Nat):ByteArray:=⟨(xs.map UInt8.ofNat).toArray⟩
theorem bs_length(xs:List Nat):(bs xs).length=xs.length:=by simp [bs]
theorem bs_append(xs ys:List Nat):bs (xs++ys)=bs xs++bs ys:=by simp [bs]
theorem bs_one(xs:List Nat):∀ u∈bs xs,u.oneCell'=true:=by
 intro u hu
 obtain ⟨x,_,rfl⟩:=List.mem_map.1 hu
 rfl
theorem bs_get(xs:List Nat)(t:Nat)(h:t<xs.length):(bs xs)[t]? = some (.int .u8 ((xs.getD t 0:Nat):Int)):=by
 simp [bs,List.getElem?_map,List.getElem?_eq_getElem h,List.getD]
theorem bs_get'(xs:List Nat)(t:Nat)(u:Value)(h:(bs xs)[t]? = some u):t<xs.length∧u=.int .u8 ((xs.getD t 0:Nat):Int):=by
 have hl:t<xs.length:=by
  have:=(List.getElem?_eq_some_iff.1 h).1
  simpa [bs] using this
 rw [bs_get xs t hl]at h
 exact ⟨hl,(Option.some.inj h).symm⟩
def Rd(w:World)(ao:Option Addr)(n cap:Nat)(xs:List Nat):Prop:=
 xs.length=n∧n≤cap∧(ao=none→n=0∧cap=0) ∧
  (0<n→∃ b off,ao=some ⟨b,off,none⟩∧∀ t,t<n→w.cell? ⟨b,off+t,none⟩=some (.int .u8 ((xs.getD t 0:Nat):Int)))
variable {n cap:Nat} {ao:Option Addr}
theorem Rd.keep{xs:List Nat}(h:Rd w ao n cap xs)(hb:Below w.heap.size w w'):Rd w' ao n cap xs:=by
 refine ⟨h.1,h.2.1,h.2.2.1,fun hn=>?_⟩
 obtain ⟨b,off,e,hc⟩:=h.2.2.2 hn
 exact ⟨b,off,e,fun t ht=>keep_old hb (hc t ht)⟩
theorem Rd.nil(w:World):Rd w none 0 0 []:=⟨rfl,Nat.le_refl _,fun _=>⟨rfl,rfl⟩,fun h=>by omega⟩
variable {g:Nat}
theorem rd_own{xs:List Nat}(h:w.ownsRow B 5 1 (.slice (some ⟨g,0,none⟩) n cap) n (bs xs)):Rd w (some ⟨g,0,none⟩) n cap xs:=by
 have hl:xs.length=n:=by simpa [bs] using h.1
 refine ⟨hl,?_,fun h=>(by cases h),fun _=>⟨g,0,rfl,fun t ht=>?_⟩⟩
 ·rcases h.2 with ⟨h',_⟩ | ⟨g',cap',cur,h',_,_,hnc,_⟩
  ·simp at h'
  ·simp only [Value.slice.injEq,Option.some.injEq,Addr.mk.injEq,and_true,true_and]at h'
   rw [h'.2];exact hnc
 ·rw [Nat.zero_add,h.cellAt t (by omega),bs_get xs t (by omega)]
variable {P:Program}
theorem conv_rd{xs:List Nat}(h:Rd w ao n cap xs)(src dst e:TypeId)(hs:P.underlying src=some (.slice e))(he:P.underlying e=some (.int .u8))(hd:P.underlying dst=some .string) :
  (convert src dst (.slice ao n cap)).run P w=.ok (.string (str xs)) w:=by
 obtain ⟨hl,hc,hno,hat⟩:=h
 rcases Nat.eq_zero_or_pos n with h0 |hp
 ·subst h0
  obtain rfl:xs = []:=List.eq_nil_of_length_eq_zero hl
  cases ao with
  | none=>rw [run_convert_bytes_nil w src e hs he 0 cap dst hd];rfl
  | some a=>
   rw [run_convert_bytes_string w src dst e (some a) 0 cap hs he hd,run_bytesToString w a 0 cap [] (run_loadCells_list (P:=P) w a [] (fun j v hj=>by simp at hj))]
   rfl
 ·obtain ⟨b,off,rfl,hcell⟩:=hat hp
  rw [run_convert_bytes_arg w src e hs he b off n cap (xs.map fun x:Nat=>(x:Int)) (by simpa using hl) (fun i hi=>by
   rw [hcell i hi]
   simp [List.getD,List.getElem?_map,List.getElem?_eq_getElem (show i<xs.length by omega)]) dst hd]
  simp [strOfNums,str,Function.comp_def]
theorem Tryz.info5:(Tryz.prog.info? 5).map (fun i=>(i.zero,i.size,i.bytes))=some (some (.int .u8 0),1,1):=by kernel_rfl
theorem make_any(n cap:Nat)(h:n≤cap)(hc:cap≤281474976710656)(w:World) :
  (Instr.makeSlice 60 (.int .i64 (n:Int)) (.int .i64 (cap:Int))).run Tryz.prog w=.ok (.slice (some ⟨w.heap.size,0,none⟩) n cap) (w.alloc (.cells (Array.replicate cap (.int .u8 0)) 5)):=by
 obtain ⟨i,hi,hz0,hz1,hz2⟩:=info_parts Tryz.info5
 have hr:=run_make (P:=Tryz.prog) w 60 5 i (.int .u8 0) Tryz.underlying60 hi hz0 .i64 .i64 n cap (by omega) (by omega) (by rw [hz2];omega) (by omega)
 simp only [Int.toNat_natCast,hz1,Nat.mul_one]at hr
 rw [hr,show Array.replicate cap (Value.int .u8 0)=(List.replicate cap (Value.int .u8 0)).toArray by simp,←toList_madeCells_one,Array.toArray_toList]
 rfl
theorem own_of_row{cur:List Value}{xs:List Nat}(hB:B≤g)(hg:w.heap[g]? = some (.cells cur.toArray 5 (0,0)))(hcap:cur.length=cap)(hm:cap≤9223372036854775807)
  (hx:cur.take n=bs xs) (hn:xs.length=n) (hnc:n≤cap):w.ownsRow B 5 1 (.slice (some ⟨g,0,none⟩) n cap) n (bs xs):=
 ⟨by simp [bs,hn],.inr ⟨g,cap,cur.toArray,rfl,hB,hg,hnc,hm,by simp [hcap],by simpa using hx⟩⟩
theorem splice_zero(n m:Nat)(xs:List Nat)(h:xs.length=n):(splice (List.replicate (n+m) (Value.int .u8 0)) 0 (bs xs)).take n=bs xs:=by
 have hl:(bs xs).length=n:=by simp [bs,h]
 simp [splice,List.take_append_of_le_length (Nat.le_of_eq hl.symm),List.take_of_length_le (Nat.le_of_eq hl)]
theorem here_op(k:Nat){P:Program}{ops:Array Oper}{Q:Exit→Act→World→Prop}{a:Act}{w:World}{rest:List Oper}{op:Op}{t:TypeId}{pos:String}{after:Array Edge}{gd:Option (Nat×Bool)}
  (h:wpList P ops Q (⟨some k,op,t,pos,after,gd⟩::rest) a w):wpList P ops Q (⟨some k,op,t,pos,after,gd⟩::rest) a w:=h
theorem copy_hg(w:World)(k:Nat):(w.alloc (.cells (Array.replicate k (.int .u8 0)) 5)).heap[w.heap.size]? = some (.cells (List.replicate k (Value.int .u8 0)).toArray 5 (0,0)):=by
 rw [heap_alloc_new];simp
theorem copy_hn{xs:List Nat}(h:Rd w ao n cap xs):(bs xs).length=Nat.min n n:=by
 rw [bs_length,h.1];exact (Nat.min_self n).symm
theorem copy_hpos{xs:List Nat}(h:Rd w ao n cap xs){o:Obj}:0<(bs xs).length→some (⟨w.heap.size,0,none⟩:Addr)=some ⟨w.heap.size,0,none⟩∧∃ ad,ao=some ad∧∀ j v,(bs xs)[j]? = some v→(w.alloc o).cell? (ad.add j)=some v:=by
 intro hp
 rw [bs_length,h.1]at hp
 obtain ⟨b,off,rfl,hc⟩:=h.2.2.2 hp
 refine ⟨rfl,_,rfl,fun j v hv=>?_⟩
 obtain ⟨hj,rfl⟩:=bs_get' xs j v hv
 rw [Addr.add_lit]
 exact keep_old (Below.alloc (Below.refl _ _) (Nat.le_refl _) o) (hc j (by have:=h.1;omega))
def From(S:Nat→Prop)(w:World):Nat→Prop:=fun k=>S k∨w.heap.size≤k
variable {xs:List Value} {sz base:Nat} {e:TypeId}
theorem row_stay(h:w.ownsRow base e sz (.slice ao n cap) n xs)(hb:∀ a,ao=some a→w'.heap[a.block]? = w.heap[a.block]?):w'.ownsRow base e sz (.slice ao n cap) n xs:=by
 refine ⟨h.1,?_⟩
 rcases h.2 with hn | ⟨g,cap',cur,hv,hb',hg,hr⟩
 ·exact .inl hn
 ·simp only [Value.slice.injEq,true_and]at hv
  obtain ⟨rfl,rfl⟩:=hv
  exact .inr ⟨g,cap,cur,rfl,hb',(hb _ rfl).trans hg,hr⟩
theorem row_lt(h:w.ownsRow base e sz (.slice ao n cap) n xs):∀ a,ao=some a→a.block<w.heap.size:=by
 intro a ha
 rcases h.2 with ⟨hn,_⟩ | ⟨g,cap',cur,hv,hb',hg,hr⟩
 ·simp only [Value.slice.injEq]at hn;rw [ha]at hn;simp at hn
 ·simp only [Value.slice.injEq]at hv
  obtain ⟨rfl,_⟩:=hv
  cases ha
  exact (Array.getElem?_eq_some_iff.1 hg).1
theorem set_same{p i:Nat}{u:Value}(h:w.cell? ⟨p,i,none⟩=some u):(w.setCell ⟨p,i,none⟩ v).cell? ⟨p,i,none⟩=some v:=World.cell?_setCell_same _ _ _ h
theorem set_off(w:World)(p:Nat){i j:Nat}(v:Value)(h:i≠j):(w.setCell ⟨p,i,none⟩ v).cell? ⟨p,j,none⟩=w.cell? ⟨p,j,none⟩:=World.cell?_setCell_other _ _ _ _ (by intro e;cases e;exact h rfl)
theorem set_heap(w:World)(p i k:Nat)(v:Value)(h:k≠p):(w.setCell ⟨p,i,none⟩ v).heap[k]? = w.heap[k]?:=heap_setCell_other w ⟨p,i,none⟩ k v h
section
variable {P:Program} {ops:Array Oper} {rest:List Oper} {o:Oper} {a:Act} {w:World} {Q:Exit→Act→World→Prop}
theorem wpList_load_run(hgd:o.guard=none)(ty:TypeId)(x:Operand)(ho:o.op=.load ty x)(ad:Addr)(hx:a.eval x=.pointer (some ad))(v:Value)
  (hrun:(loadVar ty ad).run P w=.ok v w) (h:wpList P ops Q rest (a.put o.dst v) w):wpList P ops Q (o::rest) a w:=by
 refine wpList_plain hgd fun K hK=>?_
 unfold Oper.wp
 simp [execOp,ho,hx,Instr.loadAt,Instr.sureAddr,hrun,Result.andThen]
 exact hK _ _ h
theorem wpList_store_run(hgd:o.guard=none)(ty:TypeId)(x y:Operand)(ho:o.op=.store ty x y)(ad:Addr)(hx:a.eval x=.pointer (some ad))(v:Value)(hy:a.eval y=v)(w':World)
  (hrun:(storeVar ty ad v).run P w=.ok () w') (h:wpList P ops Q rest (a.put o.dst undef) w'):wpList P ops Q (o::rest) a w:=by
 refine wpList_plain hgd fun K hK=>?_
 unfold Oper.wp
 simp [execOp,ho,hx,hy,Instr.storeAt,Instr.sureAddr,hrun,Result.andThen]
 exact hK _ _ h
theorem wpList_build_run(hgd:o.guard=none)(ty:TypeId)(ho:o.op=.build ty #[])(v:Value)
  (hrun:(Instr.build ty #[]).run P w=.ok v w) (h:wpList P ops Q rest (a.put o.dst v) w):wpList P ops Q (o::rest) a w:=by
 refine wpList_plain hgd fun K hK=>?_
 unfold Oper.wp
 simp [execOp,ho,hrun,Result.andThen]
 exact hK _ _ h
theorem wpList_buildSlice_run(hgd:o.guard=none)(ty:TypeId)(x:Operand)(ho:o.op=.buildSlice ty 1 #[(0,x)])(v u:Value)(hx:a.eval x=v)(w':World)
  (hrun:(Instr.buildSlice ty 1 #[(0,v)]).run P w=.ok u w') (h:wpList P ops Q rest (a.put o.dst u) w'):wpList P ops Q (o::rest) a w:=by
 refine wpList_plain hgd fun K hK=>?_
 unfold Oper.wp
 simp [execOp,ho,hx,hrun,Result.andThen]
 exact hK _ _ h
theorem wpList_alloc_run(hgd:o.guard=none)(ty:TypeId)(ho:o.op=.alloc ty)(v:Value)(w':World)
  (hrun:(Instr.alloc ty true (.tuple #[])).run P w=.ok v w') (h:wpList P ops Q rest (a.put o.dst v) w'):wpList P ops Q (o::rest) a w:=by
 refine wpList_plain hgd fun K hK=>?_
 unfold Oper.wp
 simp [execOp,ho,hrun,Result.andThen]
 exact hK _ _ h
theorem wpList_box_run(hgd:o.guard=none)(ty:TypeId)(x:Operand)(ho:o.op=.box ty x)(u v:Value)(hx:a.eval x=u)(w':World)
  (hrun:(Instr.box ty u).run P w=.ok v w') (h:wpList P ops Q rest (a.put o.dst v) w'):wpList P ops Q (o::rest) a w:=by
 refine wpList_plain hgd fun K hK=>?_
 unfold Oper.wp
 simp [execOp,ho,hx,hrun,Result.andThen]
 exact hK _ _ h
end
variable {rest:List Oper} {a:Act} {ops:Array Oper}
theorem here_store{Q:Exit→Act→World→Prop}(ty:TypeId){x y:Operand}{t:TypeId}{pos:String}{after:Array Edge}{gd:Option (Nat×Bool)}
  (h:wpList P ops Q (⟨none,.store ty x y,t,pos,after,gd⟩::rest) a w):wpList P ops Q (⟨none,.store ty x y,t,pos,after,gd⟩::rest) a w:=h
variable {o:Oper}
theorem exec_load{ρ:Operand→Value}{ty:TypeId}{x:Operand}{ad:Addr}{W:World}(ho:o.op=.load ty x)(hx:ρ x=.pointer (some ad))(hrun:(loadVar ty ad).run P W=.ok v W):(execOp ρ o).run P W=.ok (.value v) W:=by
 simp [execOp,ho,hx,Instr.loadAt,Instr.sureAddr,hrun]
variable {E:Prop}
theorem step_mapUpdate{K:Act→World→Prop}{Q:Exit→Act→World→Prop}(hgd:o.guard=none)(m x v:Operand)(t:TypeId)(hop:o.op=Op.mapUpdate t m x v)
  (k e:TypeId) (KK:Keyed P k) (ht:P.underlying t=some (.map k e)) (R:Value→Option (DataW Unit×List MemPlace)) (b n:Nat) (D:DataW Unit)
  (hm:a.eval m=.map (some b)) (hown:w.ownsMap P k R b n D) (hn:n<maxLen) (key val:Value) (kl:Lit) (hx:a.eval x=key) (hv:a.eval v=val) (hkey:keyOf P k key=some kl)
  (d:DataW Unit) (ps:List MemPlace) (hval:R val=some (d,ps))
  (hK:∀ w',w'.ownsMap P k R b (n+1) (D.put kl d)→w.grownBy w' (some b)→K (a.put o.dst undef) w') :
  if Region.wanted o (yielded ops a.tmps)=true then Oper.wp P o a w K Q else E:=by
 have hw:Region.wanted o (yielded ops a.tmps)=true:=by simp [Region.wanted,hgd]
 rw [if_pos hw]
 obtain ⟨w',hrun,r1,r2⟩:=hown.update KK ht hn hkey hval
 unfold Oper.wp
 simp [execOp,hop,hm,hx,hv,hrun,Result.andThen]
 exact hK w' r1 r2
theorem step_copy_row{K:Act→World→Prop}{Q:Exit→Act→World→Prop}(hgd:o.guard=none)(d s:Operand)(dT sT:TypeId)
  (ho:o.op=.call { callee:=.builtin .copy,args:=#[d,s],argTypes:=#[dT,sT] }) (elem:TypeId) (hu:P.underlying dT=some (.slice elem)) (hsz:(P.info? elem).map (·.size)=some 1)
  (g off dLen dCap:Nat) (ad:Addr) (sLen sCap:Nat) (hd:a.eval d=.slice (some ⟨g,off,none⟩) dLen dCap) (hs:a.eval s=.slice (some ad) sLen sCap)
  (cur:Array Value) (t:TypeId) (hg:w.heap[g]? = some (.cells cur t (0,0))) (cs:List Value) (hn:cs.length=Nat.min sLen dLen)
  (hsrc:∀ j v,cs[j]? = some v→w.cell? (ad.add j)=some v) (hfit:off+cs.length≤cur.size) (h1:∀ v∈cs,v.oneCell'=true)
  (h:K (a.put o.dst (goInt cs.length)) (w.setRow g (cur.toList.take off++(cs++cur.toList.drop (off+cs.length))).toArray)) :
  if Region.wanted o (yielded ops a.tmps)=true then Oper.wp P o a w K Q else E:=by
 have hw:Region.wanted o (yielded ops a.tmps)=true:=by simp [Region.wanted,hgd]
 rw [if_pos hw]
 have hrun:=run_copy_row (P:=P) w dT sT o.type elem g off dLen dCap ad sLen sCap cur t cs hu hsz hg hn hsrc hfit h1
 unfold Oper.wp
 simp [execOp,ho,resolve,invoke,builtin,hd,hs,hrun,Result.andThen]
 exact h
structure El (t e:TypeId) (z:Value) (b:Nat):Prop where
 ht:Tryz.prog.underlying t=some (.slice e)
 hi:∃ i,Tryz.prog.info? e=some i∧i.zero=some z∧i.size=1∧i.bytes=b
 hz:z.cells.size=1
 hb:b≤24
structure Src (w:World) (ao:Option Addr) (m c:Nat) (ys:List Value):Prop where
 len:ys.length=m
 no:ao=none→m=0∧c=0
 at_:∀ ad,ao=some ad→∀ j u,ys[j]? = some u→w.cell? (ad.add j)=some u
 one:∀ u∈ys,u.oneCell'=true
variable {b:Nat} {z:Value} {t:TypeId}
theorem app_run(E:El t e z b)(ty:TypeId)(w:World)(v:Value)(n:Nat)(xs:List Value)(hown:w.ownsRow 0 e 1 v n xs)(ao:Option Addr)(m c:Nat)(ys:List Value)(hs:Src w ao m c ys)(hb:n+m≤1000000) :
  ∃ v' w',(Builtin.append_ #[t,t] ty #[v,.slice ao m c]).run Tryz.prog w=.ok v' w'∧w'.ownsRow 0 e 1 v' (n+m) (xs++ys)∧w.grownBy w' v.ownBlock∧(v'.ownBlock=v.ownBlock∨v'.ownBlock=some w.heap.size):=by
 obtain ⟨i,hi,hz,hsz,hby⟩:=E.hi
 have hbb:=E.hb
 cases ao with
 | none=>
  obtain ⟨rfl,rfl⟩:=hs.no rfl
  obtain rfl:ys = []:=List.eq_nil_of_length_eq_zero hs.len
  refine ⟨v,w,run_append_owned_none (P:=Tryz.prog) (w:=w) 0 t ty e i 1 E.ht hi v n xs hown,by simpa using hown,⟨rfl,rfl,rfl,Nat.le_refl _,fun _ _ _=>rfl⟩,Or.inl rfl⟩
 | some ad=>
  have hm:(n+m)*b≤1000000*24:=Nat.mul_le_mul hb hbb
  obtain ⟨v',w',h1,h2,h3,_,h5⟩:=run_append_own_at (P:=Tryz.prog) w 0 t ty e i z 1 b E.ht hi hz hsz hby E.hz (by decide) v n xs hown ad m c ys (by rw [hs.len];omega) (hs.at_ ad rfl) hs.one (by unfold maxLen;omega) (by omega) (Nat.zero_le _)
  exact ⟨v',w',h1,h2,h3,h5⟩
theorem row_form(h:w.ownsRow 0 e 1 v n xs):∃ ao cap,v=.slice ao n cap∧(ao=none→n=0∧cap=0)∧∀ a,ao=some a→a=⟨a.block,0,none⟩∧n≤cap∧a.block<w.heap.size:=by
 rcases h.2 with ⟨rfl,rfl⟩ | ⟨g,cap,cur,rfl,_,hg,hnc,_⟩
 ·exact ⟨none,0,rfl,fun _=>⟨rfl,rfl⟩,fun a ha=>by cases ha⟩
 ·exact ⟨_,_,rfl,fun h=>(by cases h),fun a ha=>by cases ha;exact ⟨rfl,hnc,(Array.getElem?_eq_some_iff.1 hg).1⟩⟩
theorem app_run'(E:El t e z b)(ty:TypeId)(w:World)(v:Value)(n:Nat)(xs:List Value)(hown:w.ownsRow 0 e 1 v n xs)(ao:Option Addr)(m c:Nat)(ys:List Value)(hs:Src w ao m c ys)(hb:n+m≤1000000) :
  ∃ ao' c' w',(Builtin.append_ #[t,t] ty #[v,.slice ao m c]).run Tryz.prog w=.ok (.slice ao' (n+m) c') w'∧w'.ownsRow 0 e 1 (.slice ao' (n+m) c') (n+m) (xs++ys)∧w.grownBy w' v.ownBlock∧∀ a,ao'=some a→(v.ownBlock=some a.block∨a.block=w.heap.size):=by
 obtain ⟨v',w',h1,h2,h3,h4⟩:=app_run E ty w v n xs hown ao m c ys hs hb
 obtain ⟨ao',c',rfl,_⟩:=row_form h2
 refine ⟨ao',c',w',h1,h2,h3,fun a ha=>?_⟩
 subst ha
 rcases h4 with h4 |h4
 ·exact Or.inl h4.symm
 ·right;simpa [Value.ownBlock] using h4
theorem wpList_app{Q:Exit→Act→World→Prop}(hgd:o.guard=none)(s x:Operand){t e:TypeId}{z:Value}{b:Nat}(E:El t e z b)
  (ho:o.op=.call { callee:=.builtin .append,args:=#[s,x],argTypes:=#[t,t] }) (v:Value) (n:Nat) (xs:List Value) (hs:a.eval s=v) (hown:w.ownsRow 0 e 1 v n xs)
  (ao:Option Addr) (m c:Nat) (ys:List Value) (hx:a.eval x=.slice ao m c) (hsr:Src w ao m c ys) (hb:n+m≤1000000)
  (h:∀ ao' c' w',w'.ownsRow 0 e 1 (.slice ao' (n+m) c') (n+m) (xs++ys)→w.grownBy w' v.ownBlock→(∀ a,ao'=some a→(v.ownBlock=some a.block∨a.block=w.heap.size))→wpList Tryz.prog ops Q rest (a.put o.dst (.slice ao' (n+m) c')) w'):wpList Tryz.prog ops Q (o::rest) a w:=by
 refine wpList_plain hgd fun K hK=>?_
 obtain ⟨ao',c',w',hr,h2,h3,h4⟩:=app_run' E o.type w v n xs hown ao m c ys hsr hb
 unfold Oper.wp execOp
 simp only [ho,resolve,invoke,builtin,Sem.run_bind,Sem.run_pure,Result.andThen_ok,List.map_toArray,List.map_cons,List.map_nil,hs,hx,hr]
 exact hK _ _ (h ao' c' w' h2 h3 h4)
theorem step_app{K:Act→World→Prop}{Q:Exit→Act→World→Prop}{E':Prop}(hgd:o.guard=none)(s x:Operand){t e:TypeId}{z:Value}{b:Nat}(E:El t e z b)
  (ho:o.op=.call { callee:=.builtin .append,args:=#[s,x],argTypes:=#[t,t] }) (v:Value) (n:Nat) (xs:List Value) (hs:a.eval s=v) (hown:w.ownsRow 0 e 1 v n xs)
  (ao:Option Addr) (m c:Nat) (ys:List Value) (hx:a.eval x=.slice ao m c) (hsr:Src w ao m c ys) (hb:n+m≤1000000)
  (h:∀ ao' c' w',w'.ownsRow 0 e 1 (.slice ao' (n+m) c') (n+m) (xs++ys)→w.grownBy w' v.ownBlock→(∀ a,ao'=some a→(v.ownBlock=some a.block∨a.block=w.heap.size))→K (a.put o.dst (.slice ao' (n+m) c')) w') :
  if Region.wanted o (yielded ops a.tmps)=true then Oper.wp Tryz.prog o a w K Q else E':=by
 have hw:Region.wanted o (yielded ops a.tmps)=true:=by simp [Region.wanted,hgd]
 rw [if_pos hw]
 obtain ⟨ao',c',w',hr,h2,h3,h4⟩:=app_run' E o.type w v n xs hown ao m c ys hsr hb
 unfold Oper.wp execOp
 simp only [ho,resolve,invoke,builtin,Sem.run_bind,Sem.run_pure,Result.andThen_ok,List.map_toArray,List.map_cons,List.map_nil,hs,hx,hr]
 exact h ao' c' w' h2 h3 h4
theorem src_row{c:Nat}(h:w.ownsRow 0 e 1 (.slice ao n c) n xs)(h1:∀ u∈xs,u.oneCell'=true):Src w ao n c xs:=by
 refine ⟨by have:=h.1;omega,fun h0=>?_,fun ad ha j u hu=>?_,h1⟩
 ·rcases h.2 with ⟨hv,hz⟩ | ⟨g,cap,cur,hv,_⟩
  ·simp only [Value.slice.injEq]at hv;exact ⟨hz,hv.2.2⟩
  ·simp only [Value.slice.injEq]at hv;rw [h0]at hv;simp at hv
 ·subst ha
  rcases h.2 with ⟨hv,_⟩ | ⟨g,cap,cur,hv,_⟩
  ·simp at hv
  ·simp only [Value.slice.injEq,Option.some.injEq]at hv
   obtain ⟨rfl,_,_⟩:=hv
   exact h.cells (g:=g) rfl j u hu
theorem own_stay(h:w.ownsRow 0 e 1 v n xs)(hb:∀ k,v.ownBlock=some k→w'.heap[k]? = w.heap[k]?):w'.ownsRow 0 e 1 v n xs:=by
 refine ⟨h.1,?_⟩
 rcases h.2 with hn | ⟨g,cap,cur,rfl,hb',hg,hr⟩
 ·exact .inl hn
 ·exact .inr ⟨g,cap,cur,rfl,hb',(hb g rfl).trans hg,hr⟩
theorem own_lt(h:w.ownsRow 0 e 1 v n xs){k:Nat}(hk:v.ownBlock=some k):k<w.heap.size:=(h.lt k hk).2
theorem own_later(h:w.ownsRow 0 e 1 v n xs)(hb:Below w.heap.size w w'):w'.ownsRow 0 e 1 v n xs:=own_stay h (fun k hk=>hb.block k (own_lt h hk))
theorem own_ne{e1 e2:TypeId}{n1 n2:Nat}{v1 v2:Value}{xs1 xs2:List Value}(h1:w.ownsRow 0 e1 1 v1 n1 xs1)(h2:w.ownsRow 0 e2 1 v2 n2 xs2)(he:e1≠e2){k1 k2:Nat}(hk1:v1.ownBlock=some k1)(hk2:v2.ownBlock=some k2):k1≠k2:=by
 rintro rfl
 rcases h1.2 with ⟨rfl,_⟩ | ⟨g,cap,cur,rfl,_,hg,_⟩
 ·cases hk1
 ·cases hk1
  rcases h2.2 with ⟨rfl,_⟩ | ⟨g2,cap2,cur2,rfl,_,hg2,_⟩
  ·cases hk2
  ·cases hk2
   rw [hg]at hg2
   cases hg2
   exact he rfl
theorem own_set(h:w.ownsRow 0 e 1 (.slice (some ⟨g,0,none⟩) n cap) n xs){i:Nat}(hi:i<n)(v:Value) :
  (w.setCell ⟨g,i,none⟩ v).ownsRow 0 e 1 (.slice (some ⟨g,0,none⟩) n cap) n (xs.set i v)∧(∃ u,w.cell? ⟨g,i,none⟩=some u)∧w.frozen? ⟨g,i,none⟩=false:=by
 rcases h.2 with ⟨hv,_⟩ | ⟨g',cap',cur,hv,hb',hg,hnc,hm,hcs,htake⟩
 ·simp at hv
 ·simp only [Value.slice.injEq,Option.some.injEq,Addr.mk.injEq,and_true,true_and]at hv
  obtain ⟨rfl,rfl⟩:=hv
  have hic:i<cur.size:=by omega
  have hset:(w.setCell ⟨g,i,none⟩ v).heap[g]? = some (.cells (cur.setIfInBounds i v) e (0,0)):=by
   have hgl:g<w.heap.size:=(Array.getElem?_eq_some_iff.1 hg).1
   have hgv:w.heap[g]=.cells cur e (0,0):=(Array.getElem?_eq_some_iff.1 hg).2
   simp [World.setCell,Array.getElem?_modify,hg]
  refine ⟨⟨by rw [List.length_set];exact h.1,.inr ⟨g,cap,_,rfl,hb',hset,hnc,hm,by simpa using hcs,?_⟩⟩,⟨cur[i],by simp [World.cell?,hg,hic]⟩,by simp [World.frozen?,hg]⟩
  rw [Array.toList_setIfInBounds,List.take_set,htake]
theorem wpList_append_rd{Q:Exit→Act→World→Prop}(hgd:o.guard=none)(s x:Operand)
  (ho:o.op=.call { callee:=.builtin .append,args:=#[s,x],argTypes:=#[60,60] }) (B:Nat) (v:Value) (n:Nat) (xs:List Nat) (hs:a.eval s=v) (hown:w.ownsRow B 5 1 v n (bs xs))
  (ao:Option Addr) (m c:Nat) (ys:List Nat) (hx:a.eval x=.slice ao m c) (hr:Rd w ao m c ys) (hb:n+m≤140737488355328) (hB:B≤w.heap.size)
  (h:∀ v' w',w'.ownsRow B 5 1 v' (n+m) (bs (xs++ys))→Below B w w'→wpList Tryz.prog ops Q rest (a.put o.dst v') w'):wpList Tryz.prog ops Q (o::rest) a w:=by
 obtain ⟨i5,hi5,hz0,hz1,hz2⟩:=info_parts Tryz.info5
 obtain ⟨hl,hc,hno,hat⟩:=hr
 cases ao with
 | none=>
  obtain ⟨rfl,rfl⟩:=hno rfl
  obtain rfl:ys = []:=List.eq_nil_of_length_eq_zero hl
  refine wpList_append_own_none hgd s x 60 ho B 5 i5 1 Tryz.underlying60 hi5 v n (bs xs) hs hown hx ?_
  exact h v w (by simpa using hown) (Below.refl _ _)
 | some ad=>
  refine wpList_append_own w hgd s x 60 ho B 5 i5 (.int .u8 0) 1 1 Tryz.underlying60 hi5 hz0 hz1 hz2 rfl (by decide) v n (bs xs) hs hown ad m c (bs ys) hx (by simp [bs,hl]) ?_ (bs_one ys) (by unfold maxLen;omega) (by omega) hB ?_
  ·intro j u hu
   obtain ⟨hj,rfl⟩:=bs_get' ys j u hu
   obtain ⟨b,off,e,hcell⟩:=hat (by omega)
   simp only [Option.some.injEq]at e
   subst e
   rw [Addr.add_lit]
   exact hcell j (by omega)
  ·intro v' w' h1 h2 _
   refine h v' w' (by rw [bs_append];exact h1) ((Below.refl B w).grown h2 hB fun k hk=>(hown.lt k hk).1)
theorem rd_owned{xs:List Nat}(h:w.ownsRow B 5 1 v n (bs xs)):∃ ao cap,v=.slice ao n cap∧Rd w ao n cap xs∧∀ a,ao=some a→B≤a.block:=by
 rcases h.2 with ⟨rfl,rfl⟩ | ⟨g,cap,cur,rfl,hB,_⟩
 ·obtain rfl:xs = []:=by have:=h.1;simp [bs]at this;exact this
  exact ⟨none,0,rfl,Rd.nil w,fun a ha=>by cases ha⟩
 ·exact ⟨_,_,rfl,rd_own h,fun a ha=>by cases ha;exact hB⟩
end Cch
end Go.Proofs.YtadhdedjdgjboaaGreatDoor
