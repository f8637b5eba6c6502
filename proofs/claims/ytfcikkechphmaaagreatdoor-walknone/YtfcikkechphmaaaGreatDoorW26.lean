/- Steps that are done to a disk: what they do, and how they lie in memory. No statement of the seat is proved here. -/
import Derived.Test.YtfcikkechphmaaaGreatDoorW25
import Derived.Deep.DeepCutAuto
import Derived.Test.YtfcikkechphmaaaGreatDoorW11
import Derived.Test.YtfcikkechphmaaaGreatDoorW17
import Derived.RangeFuncNested
import Derived.RangeFuncBound
import Derived.RangeFuncCalls
import Derived.RangeFuncLeaves
import Derived.Shelf.Abstract
import Derived.Shelf.RegionOpen
import Derived.OwnWalkIn
import Derived.TacticsInMore
import Derived.LoopNIn
import Derived.LoopIn
import Derived.LaidEql
import Derived.RangeFuncBox
import Derived.Maps.AppendAt
set_option maxHeartbeats 16000000
set_option maxRecDepth 20000
namespace Go.Proofs.YtfcikkechphmaaaGreatDoor
section
open Go.RowKit Go.Maps
open Dsk (gt hid undrew keep_old keep_cell lt_cell Rd DS FS Sec DiskP DFrame Grew From writeD syncD cutD lenD readD newD known)
inductive Stp where
 | wr (f a:Int) (ss:List Sec)
 | sy (f:Int)
 | ct (f n:Int)
def Stp.go(d:DS):Stp→Int×DS
 | .wr f a ss=>writeD d f a ss
 | .sy f=>syncD d f
 | .ct f n=>if (lenD d f:Int)≤n then (0,d) else cutD d f n
def firstD:List Stp→DS→Int×DS
 | [],d=>(0,d)
 | s::r,d=>if (s.go d).1=0 then firstD r (s.go d).2 else s.go d
def DN(q:Nat)(P:Dsk.Parts):Nat→Prop:=fun k=>k=q∨P.all k
variable {d:DS} {q:Nat} {w:World}
theorem DN.lt{P:Dsk.Parts}(h:DiskP w q P d){k:Nat}(hk:DN q P k):k<w.heap.size:=by
 rcases hk with rfl |hk
 ·exact Dsk.p_lt h
 ·exact Dsk.all_lt h hk
def Out(w:World)(N:Nat→Prop)(b:Nat):Prop:=b<w.heap.size∧¬N b
variable {b:Nat} {N:Nat→Prop} {w':World}
theorem Out.later(h:Out w N b)(hb:w.heap.size≤w'.heap.size):Out w' N b:=⟨Nat.lt_of_lt_of_le h.1 hb,h.2⟩
theorem Out.grew{P P':Dsk.Parts}(h:Out w (DN q P) b)(hs:w.heap.size≤w'.heap.size)(hg:Grew P w P'):Out w' (DN q P') b:=
 ⟨Nat.lt_of_lt_of_le h.1 hs,fun hk=>by
  rcases hk with rfl |hk
  ·exact h.2 (Or.inl rfl)
  ·rcases hg b hk with h1 |h1
   ·exact h.2 (Or.inr h1)
   ·have:=h.1;omega⟩
theorem Out.new(hN:∀ k,N k→k<w.heap.size)(h1:w.heap.size≤b)(h2:b<w'.heap.size):Out w' N b:=
 ⟨h2,fun h=>by have:=hN b h;omega⟩
theorem cell_df{P:Dsk.Parts}(hf:DFrame w w' q P.all){b o:Nat}{v:Value}(hc:w.cell? ⟨b,o,none⟩=some v)(h:Out w (DN q P) b):w'.cell? ⟨b,o,none⟩=some v:=
 hf.cellAt hc (fun e=>h.2 (Or.inl e)) (fun e=>h.2 (Or.inr e))
theorem rd_df{P:Dsk.Parts}(hf:DFrame w w' q P.all){ao:Option Addr}{n cap:Nat}{xs:List Nat}(h:Rd w ao n cap xs)(ho:0<n→∀ a,ao=some a→Out w (DN q P) a.block):Rd w' ao n cap xs:=by
 refine ⟨h.1,h.2.1,h.2.2.1,fun hn=>?_⟩
 obtain ⟨b,off,rfl,hc⟩:=h.2.2.2 hn
 exact ⟨b,off,rfl,fun t ht=>cell_df hf (hc t ht) (ho hn _ rfl)⟩
def StepAt(w:World)(q:Nat)(N:Nat→Prop)(v:Value):Stp→Prop
 | .wr f a ss=>∃ b0 b1 b2 b3 ao n cap,v=.func (.func 275) #[] #[.pointer (some ⟨b0,0,none⟩),.pointer (some ⟨b1,0,none⟩),.pointer (some ⟨b2,0,none⟩),.pointer (some ⟨b3,0,none⟩)] ∧
   (w.cell? ⟨b0,0,none⟩=some (.pointer (some ⟨q,0,none⟩))∧w.cell? ⟨b1,0,none⟩=some (.int .i64 f)∧w.cell? ⟨b2,0,none⟩=some (.int .i64 a)∧w.cell? ⟨b3,0,none⟩=some (.slice ao n cap)) ∧
   (Out w N b0∧Out w N b1∧Out w N b2∧Out w N b3) ∧
   Rd w ao n cap ss.flatten∧(0<n→∀ a,ao=some a→Out w N a.block)∧n=ss.length*128∧(∀ x∈ss,x.length=128)∧ss.length≤1000
 | .sy f=>∃ b0 b1,v=.func (.func 277) #[] #[.pointer (some ⟨b0,0,none⟩),.pointer (some ⟨b1,0,none⟩)] ∧
   (w.cell? ⟨b0,0,none⟩=some (.pointer (some ⟨q,0,none⟩))∧w.cell? ⟨b1,0,none⟩=some (.int .i64 f))∧(Out w N b0∧Out w N b1)
 | .ct f m=>∃ b0 b1 b2,v=.func (.func 216) #[] #[.pointer (some ⟨b0,0,none⟩),.pointer (some ⟨b1,0,none⟩),.pointer (some ⟨b2,0,none⟩)] ∧
   (w.cell? ⟨b0,0,none⟩=some (.pointer (some ⟨q,0,none⟩))∧w.cell? ⟨b1,0,none⟩=some (.int .i64 f)∧w.cell? ⟨b2,0,none⟩=some (.int .i64 m))∧(Out w N b0∧Out w N b1∧Out w N b2)
variable {s:Stp} {v:Value} {N':Nat→Prop}
theorem StepAt.turn(h:StepAt w q N v s)(ho:∀ b,Out w N b→Out w' N' b)(hc:∀ b o v,Out w N b→w.cell? ⟨b,o,none⟩=some v→w'.cell? ⟨b,o,none⟩=some v):StepAt w' q N' v s:=by
 cases s with
 | wr f a ss=>
  obtain ⟨b0,b1,b2,b3,ao,n,cap,rfl,⟨c0,c1,c2,c3⟩,⟨o0,o1,o2,o3⟩,hr,hro,hn,hx,hl⟩:=h
  refine ⟨b0,b1,b2,b3,ao,n,cap,rfl,⟨hc _ _ _ o0 c0,hc _ _ _ o1 c1,hc _ _ _ o2 c2,hc _ _ _ o3 c3⟩,⟨ho _ o0,ho _ o1,ho _ o2,ho _ o3⟩,⟨hr.1,hr.2.1,hr.2.2.1,fun hp=>?_⟩,fun hp a ha=>ho _ (hro hp a ha),hn,hx,hl⟩
  obtain ⟨b,off,rfl,hh⟩:=hr.2.2.2 hp
  exact ⟨b,off,rfl,fun t ht=>hc _ _ _ (hro hp _ rfl) (hh t ht)⟩
 | sy f=>
  obtain ⟨b0,b1,rfl,⟨c0,c1⟩,o0,o1⟩:=h
  exact ⟨b0,b1,rfl,⟨hc _ _ _ o0 c0,hc _ _ _ o1 c1⟩,ho _ o0,ho _ o1⟩
 | ct f m=>
  obtain ⟨b0,b1,b2,rfl,⟨c0,c1,c2⟩,o0,o1,o2⟩:=h
  exact ⟨b0,b1,b2,rfl,⟨hc _ _ _ o0 c0,hc _ _ _ o1 c1,hc _ _ _ o2 c2⟩,ho _ o0,ho _ o1,ho _ o2⟩
theorem StepAt.later(h:StepAt w q N v s)(hb:Below w.heap.size w w'):StepAt w' q N v s:=
 h.turn (fun _ ho=>ho.later hb.size) (fun _ _ _ _ hc=>keep_old hb hc)
def StepsAt(w:World)(q:Nat)(N:Nat→Prop)(lo:Option Addr)(l:List Stp):Prop:=
 0<l.length→∃ b off,lo=some ⟨b,off,none⟩∧Out w N b∧∀ i s,l[i]? = some s→∃ v,w.cell? ⟨b,off+i,none⟩=some v∧StepAt w q N v s
variable {l:List Stp} {lo:Option Addr}
theorem StepsAt.turn(h:StepsAt w q N lo l)(ho:∀ b,Out w N b→Out w' N' b)(hc:∀ b o v,Out w N b→w.cell? ⟨b,o,none⟩=some v→w'.cell? ⟨b,o,none⟩=some v):StepsAt w' q N' lo l:=fun hl=>by
 obtain ⟨b,off,rfl,hb,hh⟩:=h hl
 refine ⟨b,off,rfl,ho _ hb,fun i s hs=>?_⟩
 obtain ⟨v,h1,h2⟩:=hh i s hs
 exact ⟨v,hc _ _ _ hb h1,h2.turn ho hc⟩
theorem StepsAt.later(h:StepsAt w q N lo l)(hb:Below w.heap.size w w'):StepsAt w' q N lo l:=
 h.turn (fun _ ho=>ho.later hb.size) (fun _ _ _ _ hc=>keep_old hb hc)
theorem StepsAt.disk{P P':Dsk.Parts}(h:StepsAt w q (DN q P) lo l)(hf:DFrame w w' q P.all)(hg:Grew P w P'):StepsAt w' q (DN q P') lo l:=
 h.turn (fun _ ho=>ho.grew hf.size hg) (fun _ _ _ ho hc=>cell_df hf hc ho)
theorem grew_refl(P:Dsk.Parts)(w:World):Grew P w P:=fun _ h=>Or.inl h
variable {w1:World}
theorem grew_trans{P P1 P2:Dsk.Parts}(h:Grew P w P1)(k:Grew P1 w1 P2)(hs:w.heap.size≤w1.heap.size):Grew P w P2:=fun b hb=>by
 rcases k b hb with h1 |h1
 ·exact h b h1
 ·exact Or.inr (Nat.le_trans hs h1)
variable {w2:World}
theorem df_trans{P P1:Dsk.Parts}(h:DFrame w w1 q P.all)(hg:Grew P w P1)(k:DFrame w1 w2 q P1.all):DFrame w w2 q P.all:=
 h.trans (k.imp (fun b _ hb=>hg b hb))
structure DiskTo (w w':World) (q:Nat) (P:Dsk.Parts) (d:DS):Prop where
 is:∃ P',DiskP w' q P' d∧Grew P w P'
 fr:DFrame w w' q P.all
theorem DiskTo.trans{P P1:Dsk.Parts}{d2:DS}(hf:DFrame w w1 q P.all)(hg:Grew P w P1)(k:DiskTo w1 w2 q P1 d2):DiskTo w w2 q P d2:=by
 obtain ⟨P2,hp,hg2⟩:=k.is
 exact ⟨⟨P2,hp,grew_trans hg hg2 hf.size⟩,df_trans hf hg k.fr⟩
theorem DiskTo.first{P:Dsk.Parts}(hb:Below w.heap.size w w1)(k:DiskTo w1 w2 q P d):DiskTo w w2 q P d:=by
 obtain ⟨P2,hp,hg2⟩:=k.is
 exact ⟨⟨P2,hp,fun b h=>by
  rcases hg2 b h with h1 |h1
  ·exact Or.inl h1
  ·exact Or.inr (Nat.le_trans hb.size h1)⟩,(DFrame.below hb).trans (k.fr.imp (fun _ _ h=>Or.inl h))⟩
end
section
open Go.RowKit Go.Maps
open Dsk (gt hid undrew keep_old keep_cell lt_cell Rd DS FS Sec DiskP DFrame Grew From writeD syncD cutD lenD readD newD known)
theorem place_any(n:Int)(w:World)(h : -1000000≤n∧n≤1000000):Calls Tryz.prog 222 #[.int .i64 n] w fun e w'=>e=.returned (.int .i64 ((n - 1)*4))∧w'=w:=by
 have e1:IntKind.i64.wrap (n - 1)=n - 1:=IntWalk.i64_in _ ⟨by omega,by omega⟩
 have e2:IntKind.i64.wrap ((n - 1)*4)=(n - 1)*4:=IntWalk.i64_in _ ⟨by omega,by omega⟩
 clear h
 go_enter Tryz.func222,Tryz.ntmps222
 go_wp2
 go_ret
 exact ⟨rfl,rfl⟩
variable {v:Value} {w:World}
theorem cell_box{t:TypeId}{n:Nat}(hn:n=w.heap.size):(w.alloc (.cells #[v] t)).cell? ⟨n,0,none⟩=some v:=by
 rw [World.cell?_alloc_at _ _ _ _ hn];rfl
theorem cell_up{a:Addr}{o:Obj}(h:w.cell? a=some v):(w.alloc o).cell? a=some v:=keep_old (Below.alloc (Below.refl _ _) (Nat.le_refl _) o) h
theorem write_make(q:Nat)(f a:Int)(ao:Option Addr)(n cap:Nat)(ss:List Sec)(N:Nat→Prop)(w:World)(hN:∀ k,N k→k<w.heap.size)
  (hr:Rd w ao n cap ss.flatten) (ho:0<n→∀ a,ao=some a→Out w N a.block) (hn:n=ss.length*128) (hx:∀ x∈ss,x.length=128) (hl:ss.length≤1000) :
  Calls Tryz.prog 223 #[.pointer (some ⟨q,0,none⟩),.int .i64 f,.int .i64 a,.slice ao n cap] w fun e w'=>∃ v,e=.returned v∧StepAt w' q N v (.wr f a ss)∧Below w.heap.size w w':=by
 have H:=hid hr;have HO:=hid ho;have HN:=hid hN;have HX:=hid hx;have Hn:=hid hn;have HL:=hid hl
 clear hr ho hN hx hn hl
 go_enter Tryz.func223,Tryz.ntmps223
 go_wp2
 go_ret
 have hb:Below w.heap.size w ((((w.alloc (.cells #[.pointer (some ⟨q,0,none⟩)] 103)).alloc (.cells #[.int .i64 f] 3)).alloc (.cells #[.int .i64 a] 3)).alloc (.cells #[.slice ao n cap] 48)):=(by repeat (first |with_reducible exact Below.refl _ _ |with_reducible assumption |with_reducible refine Below.drew ?_ |with_reducible refine below_drewN ?_ _ |with_reducible refine Below.alloc ?_ (by simp<;>omega) _ |with_reducible refine Below.setCell ?_ (by simp<;>omega) _))
 refine ⟨_,rfl,⟨w.heap.size,w.heap.size+1,w.heap.size+1+1,w.heap.size+1+1+1,ao,n,cap,by simp,?_,?_,H.out.keep hb,fun hp x hx=>(HO.out hp x hx).later hb.size,Hn.out,HX.out,HL.out⟩,hb⟩
 ·exact ⟨cell_up (cell_up (cell_up (cell_box rfl))),cell_up (cell_up (cell_box (by simp))),cell_up (cell_box (by simp)),cell_box (by simp)⟩
 ·exact ⟨Out.new HN.out (by omega) (by simp;omega),Out.new HN.out (by omega) (by simp),Out.new HN.out (by omega) (by simp),Out.new HN.out (by omega) (by simp)⟩
theorem cut_make(q:Nat)(f m:Int)(N:Nat→Prop)(w:World)(hN:∀ k,N k→k<w.heap.size) :
  Calls Tryz.prog 160 #[.pointer (some ⟨q,0,none⟩),.int .i64 f,.int .i64 m] w fun e w'=>∃ v,e=.returned v∧StepAt w' q N v (.ct f m)∧Below w.heap.size w w':=by
 have HN:=hid hN
 clear hN
 go_enter Tryz.func160,Tryz.ntmps160
 go_wp2
 go_ret
 have hb:Below w.heap.size w (((w.alloc (.cells #[.pointer (some ⟨q,0,none⟩)] 103)).alloc (.cells #[.int .i64 f] 3)).alloc (.cells #[.int .i64 m] 3)):=(by repeat (first |with_reducible exact Below.refl _ _ |with_reducible assumption |with_reducible refine Below.drew ?_ |with_reducible refine below_drewN ?_ _ |with_reducible refine Below.alloc ?_ (by simp<;>omega) _ |with_reducible refine Below.setCell ?_ (by simp<;>omega) _))
 refine ⟨_,rfl,⟨w.heap.size,w.heap.size+1,w.heap.size+1+1,by simp,?_,?_⟩,hb⟩
 ·exact ⟨cell_up (cell_up (cell_box rfl)),cell_up (cell_box (by simp)),cell_box (by simp)⟩
 ·exact ⟨Out.new HN.out (by omega) (by simp;omega),Out.new HN.out (by omega) (by simp),Out.new HN.out (by omega) (by simp)⟩
theorem df_drawn{w':World}{q:Nat}{S:Nat→Prop}(h:DFrame w.drew w' q S):DFrame w w' q S:=⟨h.os,h.tape,h.output,h.size,h.block⟩
theorem wr_call(q:Nat)(P:Dsk.Parts)(d:DS)(f a:Int)(ss:List Sec)(w:World)(h:DiskP w q P d)(hop:d.ops<1000000000)(b0 b1 b2 b3:Nat)
  (hs:StepAt w q (DN q P) (.func (.func 275) #[] #[.pointer (some ⟨b0,0,none⟩),.pointer (some ⟨b1,0,none⟩),.pointer (some ⟨b2,0,none⟩),.pointer (some ⟨b3,0,none⟩)]) (.wr f a ss)) :
  Calls Tryz.prog 275 #[.pointer (some ⟨b0,0,none⟩),.pointer (some ⟨b1,0,none⟩),.pointer (some ⟨b2,0,none⟩),.pointer (some ⟨b3,0,none⟩)] w fun e w'=>e=.returned (.int .i64 ((Stp.wr f a ss).go d).1)∧DiskTo w w' q P ((Stp.wr f a ss).go d).2:=by
 obtain ⟨c0,c1,c2,c3,ao,n,cap,e,⟨k0,k1,k2,k3⟩,_,hr,hro,hn,hx,hl⟩:=hs
 simp only [Value.func.injEq,Array.mk.injEq,List.cons.injEq,Value.pointer.injEq,Option.some.injEq,Addr.mk.injEq,and_true,true_and]at e
 obtain ⟨rfl,rfl,rfl,rfl⟩:=e
 have c:=hid (Dsk.write_call q P d f a ao n cap ss w h hop hx hl hn (fun w' hf=>rd_df hf hr hro))
 clear h hr hro hn hx hl hop
 go_enter Tryz.func275,Tryz.ntmps275
 go_wp2_with (go_at_call 276;refine c.out.mono ?_;rintro e w1 ⟨rfl,hp,hf⟩;have HP:=hid hp;have HF:=hid hf;clear hp hf)
 go_ret
 exact ⟨rfl,HP.out,HF.out⟩
theorem sy_call(q:Nat)(P:Dsk.Parts)(d:DS)(f:Int)(w:World)(h:DiskP w q P d)(hop:d.ops<1000000000)(b0 b1:Nat)
  (hs:StepAt w q (DN q P) (.func (.func 277) #[] #[.pointer (some ⟨b0,0,none⟩),.pointer (some ⟨b1,0,none⟩)]) (.sy f)) :
  Calls Tryz.prog 277 #[.pointer (some ⟨b0,0,none⟩),.pointer (some ⟨b1,0,none⟩)] w fun e w'=>e=.returned (.int .i64 ((Stp.sy f).go d).1)∧DiskTo w w' q P ((Stp.sy f).go d).2:=by
 obtain ⟨c0,c1,e,⟨k0,k1⟩,_⟩:=hs
 simp only [Value.func.injEq,Array.mk.injEq,List.cons.injEq,Value.pointer.injEq,Option.some.injEq,Addr.mk.injEq,and_true,true_and]at e
 obtain ⟨rfl,rfl⟩:=e
 have c:=hid (Dsk.sync_call q P d f w h hop)
 clear h hop
 go_enter Tryz.func277,Tryz.ntmps277
 go_wp2_with (go_at_call 278;refine c.out.mono ?_;rintro e w1 ⟨rfl,hp,hf⟩;have HP:=hid hp;have HF:=hid hf;clear hp hf)
 go_ret
 exact ⟨rfl,HP.out,HF.out⟩
abbrev SB3(b0 b1 b2 q:Nat)(f m:Int)(W:World):Prop:=W.cell? ⟨b0,0,none⟩=some (.pointer (some ⟨q,0,none⟩))∧W.cell? ⟨b1,0,none⟩=some (.int .i64 f)∧W.cell? ⟨b2,0,none⟩=some (.int .i64 m)
theorem ct_call(q:Nat)(P:Dsk.Parts)(d:DS)(f m:Int)(w:World)(h:DiskP w q P d)(hop:d.ops<1000000000)(b0 b1 b2:Nat)
  (hs:StepAt w q (DN q P) (.func (.func 216) #[] #[.pointer (some ⟨b0,0,none⟩),.pointer (some ⟨b1,0,none⟩),.pointer (some ⟨b2,0,none⟩)]) (.ct f m)) :
  Calls Tryz.prog 216 #[.pointer (some ⟨b0,0,none⟩),.pointer (some ⟨b1,0,none⟩),.pointer (some ⟨b2,0,none⟩)] w fun e w'=>e=.returned (.int .i64 ((Stp.ct f m).go d).1)∧DiskTo w w' q P ((Stp.ct f m).go d).2:=by
 obtain ⟨c0,c1,c2,e,⟨k0,k1,k2⟩,_⟩:=hs
 simp only [Value.func.injEq,Array.mk.injEq,List.cons.injEq,Value.pointer.injEq,Option.some.injEq,Addr.mk.injEq,and_true,true_and]at e
 obtain ⟨rfl,rfl,rfl⟩:=e
 have hd:DiskP w.drew q P d:=h.later (Below.refl _ _).drew
 have c:=hid (Dsk.cut_call q P d f m w.drew hd hop)
 have cs:=hid (Dsk.sectors_call q P d f w.drew hd)
 have H:=hid hd
 have HF0:Hid (DFrame w w.drew q P.all):=hid (DFrame.below (Below.refl _ _).drew)
 obtain ⟨L,hL⟩:∃ L,lenD d f=L:=⟨_,rfl⟩
 have hgo:(Stp.ct f m).go d=if (L:Int)≤m then (0,d) else cutD d f m:=by rw [←hL];rfl
 rw [hL]at cs
 clear h hop hL hd
 have g0:SB3 b0 b1 b2 q f m w.drew:=⟨k0,k1,k2⟩
 by_cases hlm:(L:Int)≤m
 ·rw [if_pos hlm]at hgo
  rw [hgo]
  clear hgo
  go_enter Tryz.func216,Tryz.ntmps216
  go_upto_region 1 with fail
  go_region_held3 (SB3 b0 b1 b2 q f m) (with_reducible assumption) (first |(go_at_call 104;refine cs.out.mono ?_;rintro e w1 ⟨rfl,hw⟩;obtain rfl:=hw.symm))
  go_wp2
  go_ret
  exact ⟨rfl,⟨P,H.out,grew_refl _ _⟩,HF0.out⟩
 ·rw [if_neg hlm]at hgo
  rw [hgo]
  clear hgo
  go_enter Tryz.func216,Tryz.ntmps216
  go_upto_region 1 with fail
  go_region_held3 (SB3 b0 b1 b2 q f m) (with_reducible assumption) (first |(go_at_call 104;refine cs.out.mono ?_;rintro e w1 ⟨rfl,hw⟩;obtain rfl:=hw.symm))
  go_wp2_with (go_at_call 217;refine c.out.mono ?_;rintro e w1 ⟨rfl,hp,hf⟩;have HP:=hid hp;have HF:=hid hf;clear hp hf)
  go_ret
  exact ⟨rfl,HP.out,df_drawn HF.out⟩
end
section
open Go.RowKit Go.Maps
open Dsk (gt hid undrew keep_old keep_cell lt_cell Rd DS FS Sec DiskP DFrame Grew From writeD syncD cutD lenD readD newD known)
theorem put_ops(d:DS)(f:Int)(F:FS):(d.put f F).ops=d.ops:=by unfold Dsk.DS.put;split<;>rfl
theorem crash_ops(d:DS)(k:List Bool)(t:Int):(Dsk.crashD d k t).ops=d.ops:=rfl
theorem go_ops(s:Stp)(d:DS):(s.go d).2.ops≤d.ops+1:=by
 cases s with
 | wr f a ss=>
  simp only [Stp.go,writeD]
  repeat' split
  all_goals simp [put_ops,crash_ops,Dsk.opsD,Dsk.tickD]
 | sy f=>
  simp only [Stp.go,syncD]
  repeat' split
  all_goals simp [put_ops,crash_ops,Dsk.opsD,Dsk.tickD]
 | ct f m=>
  simp only [Stp.go,cutD]
  repeat' split
  all_goals simp [put_ops,crash_ops,Dsk.opsD,Dsk.tickD]
theorem firstD_drop{l:List Stp}{i:Nat}{s:Stp}(h:l[i]? = some s)(d:DS):firstD (l.drop i) d=if (s.go d).1=0 then firstD (l.drop (i+1)) (s.go d).2 else s.go d:=by
 have hl:i<l.length:=(List.getElem?_eq_some_iff.1 h).1
 rw [List.drop_eq_getElem_cons hl]
 have e:l[i]=s:=(List.getElem?_eq_some_iff.1 h).2
 rw [e]
 rfl
theorem first_call(q:Nat)(P:Dsk.Parts)(d:DS)(lo:Option Addr)(cap:Nat)(l:List Stp)(w:World)(h:DiskP w q P d)(hop:d.ops+l.length≤1000000000)(hs:StepsAt w q (DN q P) lo l) :
  Calls Tryz.prog 165 #[.slice lo l.length cap] w fun e w'=>e=.returned (.int .i64 (firstD l d).1)∧DiskTo w w' q P (firstD l d).2:=by
 obtain ⟨R,hR⟩:∃ R,firstD l d=R:=⟨_,rfl⟩
 rw [hR]
 have HR:=hid hR;have H:=hid h;have HS:=hid hs;have HOP:=hid hop
 obtain ⟨L,hL⟩:∃ L,l.length=L:=⟨_,rfl⟩
 rw [hL]at HOP ⊢
 have HL:=hid hL
 have hLb:L≤1000000000:=by have:=HOP.out;omega
 clear h hs hop hR hL
 go_enter Tryz.func165,Tryz.ntmps165
 go_wp2
 go_loopw [8] (fun cc W=>∃ (i:Nat) (P':Dsk.Parts) (d':DS),i≤L∧cc=.int .i64 (i:Int)∧Hid (DiskP W q P' d'∧Grew P w P'∧DFrame w W q P.all∧firstD (l.drop i) d'=R∧d'.ops≤d.ops+i)) (fun cc _=>L - (Lib.intOf cc).toNat)
 case atStart=>exact ⟨0,P,d,by omega,rfl,hid ⟨H.out,grew_refl _ _,DFrame.refl _ _ _,by simpa using HR.out,by omega⟩⟩
 case round=>
  obtain ⟨i,P',d',hi,rfl,F⟩:=hrel
  by_cases hiL:i<L
  ·obtain ⟨hd,hg,hf,hr,ho⟩:=F.out
   have hs:=HS.out.disk hf hg
   obtain ⟨b,off,rfl,hb,hv⟩:=hs (by have:=HL.out;omega)
   obtain ⟨s,hsi⟩:∃ s,l[i]? = some s:=⟨l[i]'(by have:=HL.out;omega),List.getElem?_eq_getElem _⟩
   obtain ⟨v,hc,hst⟩:=hv i s hsi
   rw [firstD_drop hsi]at hr
   have hop':d'.ops<1000000000:=by have:=HOP.out;omega
   have hgo:=go_ops s d'
   have hiI:(i:Int)<(L:Int):=by omega
   have hi0:(0:Int)≤(i:Int):=by omega
   have HR2:=hid hr;have HG:=hid hg;have HF:=hid hf;have HO:=hid ho;have HGO:=hid hgo
   obtain ⟨E,hE⟩:∃ E,s.go d'=E:=⟨_,rfl⟩
   obtain ⟨n,cs,rfl,C⟩:∃ n cs,v=.func (.func n) #[] cs∧((n=275∨n=277∨n=216)∧Calls Tryz.prog n cs wr fun e w'=>e=.returned (.int .i64 E.1)∧DiskTo wr w' q P' E.2):=by
    rw [←hE]
    cases s with
    | wr f a ss=>
     obtain ⟨b0,b1,b2,b3,ao,n,cap,e,_⟩:=id hst
     subst e
     exact ⟨275,_,rfl,Or.inl rfl,wr_call q P' d' f a ss wr hd hop' b0 b1 b2 b3 hst⟩
    | sy f=>
     obtain ⟨b0,b1,e,_⟩:=id hst
     subst e
     exact ⟨277,_,rfl,Or.inr (Or.inl rfl),sy_call q P' d' f wr hd hop' b0 b1 hst⟩
    | ct f m=>
     obtain ⟨b0,b1,b2,e,_⟩:=id hst
     subst e
     exact ⟨216,_,rfl,Or.inr (Or.inr rfl),ct_call q P' d' f m wr hd hop' b0 b1 b2 hst⟩
   rw [hE]at HR2 HGO
   clear hd hg hf hr ho hs hb hv hsi hst hop' hgo hE F
   obtain ⟨hn,C⟩:=C
   have CC:=hid C
   clear C
   obtain ⟨e1,d1⟩:=E
   by_cases he:e1=0
   ·subst he
    rcases hn with rfl |rfl |rfl
    ·go_wp2_with (go_at_call 275;refine CC.out.mono ?_;rintro e w2 ⟨rfl,hp⟩;have HP:=hid hp;clear hp)
     go_roundw
     case rel=>
      obtain ⟨⟨P2,h2,g2⟩,f2⟩:=HP.out
      exact ⟨i+1,P2,d1,by omega,by go_num,hid ⟨h2,grew_trans HG.out g2 HF.out.size,df_trans HF.out HG.out f2,by simpa using HR2.out,by have:=HGO.out;have:=HO.out;simp at *;omega⟩⟩
     case measure=>simp [Lib.intOf];omega
    ·go_wp2_with (go_at_call 277;refine CC.out.mono ?_;rintro e w2 ⟨rfl,hp⟩;have HP:=hid hp;clear hp)
     go_roundw
     case rel=>
      obtain ⟨⟨P2,h2,g2⟩,f2⟩:=HP.out
      exact ⟨i+1,P2,d1,by omega,by go_num,hid ⟨h2,grew_trans HG.out g2 HF.out.size,df_trans HF.out HG.out f2,by simpa using HR2.out,by have:=HGO.out;have:=HO.out;simp at *;omega⟩⟩
     case measure=>simp [Lib.intOf];omega
    ·go_wp2_with (go_at_call 216;refine CC.out.mono ?_;rintro e w2 ⟨rfl,hp⟩;have HP:=hid hp;clear hp)
     go_roundw
     case rel=>
      obtain ⟨⟨P2,h2,g2⟩,f2⟩:=HP.out
      exact ⟨i+1,P2,d1,by omega,by go_num,hid ⟨h2,grew_trans HG.out g2 HF.out.size,df_trans HF.out HG.out f2,by simpa using HR2.out,by have:=HGO.out;have:=HO.out;simp at *;omega⟩⟩
     case measure=>simp [Lib.intOf];omega
   ·have hR3:=HR2.out
    rw [if_neg he]at hR3
    subst hR3
    rcases hn with rfl |rfl |rfl
    ·go_wp2_with (go_at_call 275;refine CC.out.mono ?_;rintro e w2 ⟨rfl,hp⟩;have HP:=hid hp;clear hp)
     go_ret
     exact ⟨rfl,DiskTo.trans HF.out HG.out HP.out⟩
    ·go_wp2_with (go_at_call 277;refine CC.out.mono ?_;rintro e w2 ⟨rfl,hp⟩;have HP:=hid hp;clear hp)
     go_ret
     exact ⟨rfl,DiskTo.trans HF.out HG.out HP.out⟩
    ·go_wp2_with (go_at_call 216;refine CC.out.mono ?_;rintro e w2 ⟨rfl,hp⟩;have HP:=hid hp;clear hp)
     go_ret
     exact ⟨rfl,DiskTo.trans HF.out HG.out HP.out⟩
  ·obtain rfl:i=L:=by omega
   obtain ⟨hd,hg,hf,hr,ho⟩:=F.out
   rw [List.drop_eq_nil_of_le (by have:=HL.out;omega)]at hr
   have hr':((0:Int),d')=R:=hr
   subst hr'
   have HD:=hid hd;have HG:=hid hg;have HF:=hid hf
   clear hd hg hf hr ho F
   go_wp2
   go_ret
   exact ⟨rfl,⟨P',HD.out,HG.out⟩,HF.out⟩
end
section
open Go.RowKit Go.Maps
open Dsk (gt hid undrew keep_old keep_cell lt_cell Rd DS FS Sec DiskP DFrame Grew From writeD syncD cutD lenD readD newD known)
def chunks:Nat→List Nat→List Sec
 | 0,_=>[]
 | k+1,x=>x.take 128::chunks k (x.drop 128)
theorem chunks_length(k:Nat)(x:List Nat):(chunks k x).length=k:=by
 induction k generalizing x with
 | zero=>rfl
 | succ k ih=>simp [chunks,ih]
theorem chunks_flatten(k:Nat)(x:List Nat)(h:x.length=k*128):(chunks k x).flatten=x:=by
 induction k generalizing x with
 | zero=>simp at h;subst h;rfl
 | succ k ih=>
  rw [chunks,List.flatten_cons,ih _ (by rw [List.length_drop];omega),List.take_append_drop]
theorem cell_grown{w w':World}{o:Option Nat}(hg:w.grownBy w' o){b i:Nat}{v:Value}(hc:w.cell? ⟨b,i,none⟩=some v)(hb:o≠some b):w'.cell? ⟨b,i,none⟩=some v:=by
 rw [World.cell?_of_block (hg.block b (lt_cell hc) (fun e=>hb e.symm))];exact hc
end
namespace Cch
open Go.RowKit Go.Maps
def rowsOf(ks:List Nat)(E:Nat→Ent):List Row:=ks.map (fun b=>(E b).row)
def pagesOf(ks:List Nat)(E:Nat→Ent):List Int:=ks.map (fun b=>(E b).row.page)
theorem pages_rows(ks:List Nat)(E:Nat→Ent):(rowsOf ks E).map Row.page=pagesOf ks E:=by simp [rowsOf,pagesOf,Function.comp_def]
variable {ks:List Nat}
theorem rowsOf_congr{E E':Nat→Ent}(h:∀ b∈ks,(E' b).row=(E b).row):rowsOf ks E'=rowsOf ks E:=List.map_congr_left h
theorem pagesOf_congr{E E':Nat→Ent}(h:∀ b∈ks,(E' b).row=(E b).row):pagesOf ks E'=pagesOf ks E:=List.map_congr_left (fun b hb=>by rw [h b hb])
theorem lk_iff{E:Nat→Ent}(hn:(pagesOf ks E).Nodup){k:Int}{b:Nat}:lk ks E k=some b↔b∈ks∧(E b).row.page=k:=by
 constructor
 ·intro h
  exact ⟨List.mem_of_find?_eq_some h,by have:=List.find?_some h;simpa using this⟩
 ·rintro ⟨hb,hp⟩
  induction ks with
  | nil=>cases hb
  | cons x ks ih=>
   have hn2:=List.nodup_cons.1 hn
   unfold lk
   rw [List.find?_cons]
   rcases List.mem_cons.1 hb with rfl |hb
   ·simp [hp]
   ·have hxk:(E x).row.page≠k:=fun hx=>hn2.1 (by dsimp only;rw [hx,←hp];exact List.mem_map.2 ⟨b,hb,rfl⟩)
    have:((E x).row.page == k)=false:=by simpa using hxk
    rw [this]
    exact ih hn2.2 hb
theorem lk_ext{ks':List Nat}{E E':Nat→Ent}(hn:(pagesOf ks E).Nodup)(hn':(pagesOf ks' E').Nodup)(hm:∀ b,b∈ks↔b∈ks')(hr:∀ b∈ks,(E' b).row=(E b).row)(k:Int):lk ks E k=lk ks' E' k:=by
 refine Option.ext fun b=>?_
 rw [lk_iff hn,lk_iff hn']
 constructor
 ·rintro ⟨h1,h2⟩;exact ⟨(hm b).1 h1,by rw [hr b h1];exact h2⟩
 ·rintro ⟨h1,h2⟩;have h3:=(hm b).2 h1;exact ⟨h3,by rw [←hr b h3];exact h2⟩
variable {s:CS} {C:Parts} {c:Nat} {w:World}
theorem CP.pn(h:CP w c C s):(pagesOf C.ks C.E).Nodup:=by
 have:=h.pg;rwa [h.ls,show (C.ks.map fun b=>(C.E b).row)=rowsOf C.ks C.E from rfl,pages_rows]at this
theorem CP.mk'(hd:w.heap[c]? = some (.cells (hdC C.m C.h s.room s.hit s.miss).toArray 242 (0,0)))(mp:MapAt w C.m (lk C.ks C.E) C.ks.length)(rg:RingAt w C.h C.ks C.E)(ls:s.l=rowsOf C.ks C.E)
  (pn:(pagesOf C.ks C.E).Nodup) (wf:∀ r∈s.l,(Lit.int .i64 r.page).wf=true∧1≤r.page) (rm:1≤s.room∧s.room≤4096):CP w c C s:=
 ⟨hd,mp,rg,ls,by rw [ls,pages_rows];exact pn,wf,rm⟩
structure Came (w:World) (c e:Nat) (C C':Parts) (x:Row) (w':World):Prop where
 m:C'.m=C.m
 h:C'.h=C.h
 ks:C'.ks=C.ks++[e]
 row:(C'.E e).row=x
 rows:∀ b,b≠e→(C'.E b).row=(C.E b).row
 fr:Fr (fun k=>C.S c k∨k=e) w w'
theorem add_cp(c e:Nat)(C:Parts)(s:CS)(x:Ent)(w:World)(h:CP w c C s)(hx:EntAt w e x)(he:¬C.S c e)(hk:lk C.ks C.E x.row.page=none)(hwf:(Lit.int .i64 x.row.page).wf=true)(h1:1≤x.row.page)(hn:C.ks.length<1000000) :
  Calls Tryz.prog 288 #[.pointer (some ⟨c,0,none⟩),.pointer (some ⟨e,0,none⟩)] w fun r w'=>r=.returned (.tuple #[])∧∃ C',CP w' c C' { s with l:=s.l++[x.row] }∧Came w c e C C' x.row w':=by
 obtain ⟨w1,hput,hm1,ht⟩:=(mapped_drew h.mp).put hwf hn e
 rw [hk]at hm1
 have hec:e≠c:=fun h0=>he (Or.inl h0)
 have hem:e≠C.m:=fun h0=>he (Or.inr (Or.inl h0))
 have her:e∉C.h::C.ks:=fun h0=>he (Or.inr (Or.inr h0))
 have hb:∀ k,k≠C.m→k<w.heap.size→w1.heap[k]? = w.heap[k]?:=fun k hk hl=>turned_cell ht hk hl
 have hr1:RingAt w1 C.h C.ks C.E:=h.rg.stay (fun b hbm=>hb b (fun h0=>h.nm (h0▸hbm)) (h.rg.en b hbm).lt)
 have hx1:EntAt w1 e x:=hx.stay (hb e hem hx.lt)
 have hc1:w1.cell? ⟨c,2,none⟩=some (.pointer (some ⟨C.h,0,none⟩)):=(World.cell?_of_block (hb c h.mc.symm h.clt)).trans h.c2
 refine add_raw c C.m e x.row.page w w1 _ h.c1 hx.page hput ((link_ring c C.h e C.ks C.E w1 hr1 her x hx1 hc1).mono ?_)
 rintro r w' ⟨rfl,E',g1,g2,g3,g4⟩
 have hrows:∀ b∈C.ks,(E' b).row=(C.E b).row:=fun b hb=>g3 b (fun h0=>her (by rw [←h0];simp [hb]))
 have hpn:(pagesOf (C.ks++[e]) E').Nodup:=by
  have e1:pagesOf (C.ks++[e]) E'=pagesOf C.ks C.E++[x.row.page]:=by
   have:=pagesOf_congr hrows
   simp only [pagesOf]at this ⊢
   simp [this,g2]
  rw [e1]
  refine List.nodup_append.2 ⟨h.pn,by simp,fun a ha b hb=>?_⟩
  simp at hb;subst hb
  rintro rfl
  obtain ⟨y,hy,hyp⟩:=List.mem_map.1 ha
  exact lk_none hk y hy hyp
 have hfr:Fr (fun k=>C.S c k∨k=e) w w':=by
  refine (((Fr.refl _ w).drew).turned ht (Or.inl (Or.inr (Or.inl rfl)))).trans g4 ?_
  intro j _ hj
  simp only [List.mem_cons,List.mem_append,List.not_mem_nil,or_false]at hj
  rcases hj with h |h |h
  ·exact Or.inl (Or.inr (Or.inr (by simp [h])))
  ·exact Or.inl (Or.inr (Or.inr (by simp [h])))
  ·exact Or.inr h
 have hsz1:w.heap.size≤w1.heap.size:=ht.grown.size
 have hcn:c∉C.h::(C.ks++[e]):=by
  intro hm
  simp only [List.mem_cons,List.mem_append,List.not_mem_nil,or_false]at hm
  rcases hm with h0 |h0 |h0
  ·exact h.nc (by simp [h0])
  ·exact h.nc (by simp [h0])
  ·exact hec h0.symm
 have hmn:C.m∉C.h::(C.ks++[e]):=by
  intro hm
  simp only [List.mem_cons,List.mem_append,List.not_mem_nil,or_false]at hm
  rcases hm with h0 |h0 |h0
  ·exact h.nm (by simp [h0])
  ·exact h.nm (by simp [h0])
  ·exact hem h0.symm
 refine ⟨rfl,⟨C.m,C.h,C.ks++[e],E'⟩,CP.mk' ?_ ?_ g1 ?_ hpn ?_ h.rm,⟨rfl,rfl,rfl,g2,g3,hfr⟩⟩
 ·exact (g4.blk c (Nat.lt_of_lt_of_le h.clt hsz1) hcn).trans ((hb c h.mc.symm h.clt).trans h.hd)
 ·refine MapAt.imp (hm1.stay (g4.blk C.m (Nat.lt_of_lt_of_le h.mp.lt hsz1) hmn)) (by simp) (fun k _=>?_)
  refine Option.ext fun b=>?_
  rw [lk_iff hpn]
  by_cases hkk:k=x.row.page
  ·subst hkk
   rw [if_pos rfl]
   simp only [Option.some.injEq,List.mem_append,List.mem_singleton]
   constructor
   ·rintro rfl;exact ⟨Or.inr rfl,by rw [g2]⟩
   ·rintro ⟨h1 |h1,h2⟩
    ·exfalso;rw [hrows b h1]at h2;exact lk_none hk b h1 h2
    ·exact h1.symm
  ·rw [if_neg hkk,lk_iff h.pn]
   simp only [List.mem_append,List.mem_singleton]
   constructor
   ·rintro ⟨h1,h2⟩;exact ⟨Or.inl h1,by rw [hrows b h1];exact h2⟩
   ·rintro ⟨h1 |h1,h2⟩
    ·exact ⟨h1,by rw [←hrows b h1];exact h2⟩
    ·exfalso;subst h1;rw [g2]at h2;exact hkk h2.symm
 ·have:=rowsOf_congr hrows
  simp only [rowsOf]at this ⊢
  simp [this,g2,h.ls]
 ·intro r hr
  rcases List.mem_append.1 hr with hr |hr
  ·exact h.wf r hr
  ·simp at hr;subst hr;exact ⟨hwf,h1⟩
structure Went (w:World) (c e:Nat) (xs ys:List Nat) (C C':Parts) (w':World):Prop where
 m:C'.m=C.m
 h:C'.h=C.h
 ks:C'.ks=xs++ys
 rows:∀ b,(C'.E b).row=(C.E b).row
 aft:∀ b∈ys,(C'.E b).aft=(C.E b).aft
 en:EntAt w' e (C.E e)
 fr:Fr (C.S c) w w'
theorem remove_cp(c e:Nat)(xs ys:List Nat)(C:Parts)(s:CS)(w:World)(h:CP w c C s)(hks:C.ks=xs++e::ys) :
  Calls Tryz.prog 325 #[.pointer (some ⟨c,0,none⟩),.pointer (some ⟨e,0,none⟩)] w fun r w'=>r=.returned (.tuple #[])∧∃ C',CP w' c C' { s with l:=rowsOf (xs++ys) C.E }∧Went w c e xs ys C C' w':=by
 have hem:e∈C.h::C.ks:=by rw [hks];simp
 have hee:=h.rg.en e hem
 have hwe:=h.wf (C.E e).row (by rw [h.ls];exact List.mem_map.2 ⟨e,by rw [hks];simp,rfl⟩)
 obtain ⟨w1,hdel,hm1,ht⟩:=(mapped_drew h.mp).del hwe.1 4
 have hdel':∀ ty,(Builtin.delete_ #[238,3] ty #[.map (some C.m),.int .i64 (C.E e).row.page]).run Tryz.prog w.drew=.ok (.tuple #[]) w1:=fun ty=>hdel
 have hlk:lk C.ks C.E (C.E e).row.page=some e:=(lk_iff h.pn).2 ⟨by rw [hks];simp,rfl⟩
 rw [hlk]at hm1
 have hb:∀ k,k≠C.m→k<w.heap.size→w1.heap[k]? = w.heap[k]?:=fun k hk hl=>turned_cell ht hk hl
 have hr1:RingAt w1 C.h C.ks C.E:=h.rg.stay (fun b hbm=>hb b (fun h0=>h.nm (h0▸hbm)) (h.rg.en b hbm).lt)
 rw [hks]at hr1
 refine remove_raw c C.m e (C.E e).row.page w w1 _ h.c1 hee.page hdel' ((unlink_ring C.h e xs ys C.E w1 hr1).mono ?_)
 rintro r w' ⟨rfl,E',g1,g2,g3,g4,g5⟩
 have hsz1:w.heap.size≤w1.heap.size:=ht.grown.size
 have hsub:∀ b,b∈C.h::(xs++ys)→b∈C.h::C.ks:=by
  intro b hb
  rw [hks]
  simp only [List.mem_cons,List.mem_append]at hb ⊢
  rcases hb with h |h |h<;>simp [h]
 have hpn:(pagesOf (xs++ys) E').Nodup:=by
  rw [pagesOf_congr (fun b _=>g3 b)]
  have:=h.pn
  rw [hks]at this
  simp only [pagesOf,List.map_append,List.map_cons]at this ⊢
  have n1:=List.nodup_append.1 this
  exact List.nodup_append.2 ⟨n1.1,(List.nodup_cons.1 n1.2.1).2,fun a ha b hb=>n1.2.2 a ha b (by simp [hb])⟩
 have hfr:Fr (C.S c) w w':=(((Fr.refl _ w).drew).turned ht (Or.inr (Or.inl rfl))).trans g5 (fun j _ hj=>Or.inr (Or.inr (hsub j hj)))
 refine ⟨rfl,⟨C.m,C.h,xs++ys,E'⟩,CP.mk' ?_ ?_ g1 ?_ hpn ?_ h.rm,⟨rfl,rfl,rfl,g3,g4,g2,hfr⟩⟩
 ·exact (g5.blk c (Nat.lt_of_lt_of_le h.clt hsz1) (fun hm=>h.nc (hsub c hm))).trans ((hb c h.mc.symm h.clt).trans h.hd)
 ·refine MapAt.imp (hm1.stay (g5.blk C.m (Nat.lt_of_lt_of_le h.mp.lt hsz1) (fun hm=>h.nm (hsub _ hm)))) (by rw [hks];simp) (fun k _=>?_)
  refine Option.ext fun b=>?_
  rw [lk_iff hpn]
  have hne:e∉xs++ys:=by
   have:=(List.nodup_cons.1 h.rg.nd).2
   rw [hks]at this
   have n1:=List.nodup_append.1 this
   intro hm
   rcases List.mem_append.1 hm with h0 |h0
   ·exact n1.2.2 e h0 e (by simp) rfl
   ·exact (List.nodup_cons.1 n1.2.1).1 h0
  by_cases hkk:k=(C.E e).row.page
  ·subst hkk
   rw [if_pos rfl]
   constructor
   ·intro h0;cases h0
   ·rintro ⟨h1,h2⟩
    exfalso
    rw [g3 b]at h2
    have:lk C.ks C.E (C.E e).row.page=some b:=(lk_iff h.pn).2 ⟨by
     have:=hsub b (List.mem_cons_of_mem _ h1)
     rcases List.mem_cons.1 this with h3 |h3
     ·exfalso
      have n2:=(List.nodup_cons.1 g1.nd).1
      exact n2 (h3▸h1)
     ·exact h3,h2⟩
    rw [hlk]at this
    cases this
    exact hne h1
  ·rw [if_neg hkk,lk_iff h.pn,hks]
   constructor
   ·rintro ⟨h1,h2⟩
    refine ⟨?_,by rw [g3 b];exact h2⟩
    simp only [List.mem_append,List.mem_cons]at h1 ⊢
    rcases h1 with h0 |h0 |h0
    ·exact Or.inl h0
    ·exfalso;subst h0;exact hkk h2.symm
    ·exact Or.inr h0
   ·rintro ⟨h1,h2⟩
    refine ⟨?_,by rw [←g3 b];exact h2⟩
    simp only [List.mem_append,List.mem_cons]at h1 ⊢
    rcases h1 with h0 |h0<;>simp [h0]
 ·exact (rowsOf_congr (fun b _=>g3 b)).symm
 ·intro r hr
  refine h.wf r ?_
  rw [h.ls,hks]
  obtain ⟨b,hb,rfl⟩:=List.mem_map.1 hr
  refine List.mem_map.2 ⟨b,?_,rfl⟩
  simp only [List.mem_append,List.mem_cons]at hb ⊢
  rcases hb with h0 |h0<;>simp [h0]
theorem use_cp(c e:Nat)(xs ys:List Nat)(C:Parts)(s:CS)(w:World)(h:CP w c C s)(hks:C.ks=xs++e::ys) :
  Calls Tryz.prog 287 #[.pointer (some ⟨c,0,none⟩),.pointer (some ⟨e,0,none⟩)] w fun r w'=>r=.returned (.tuple #[])∧∃ C',CP w' c C' { s with l:=rowsOf (xs++ys++[e]) C.E }∧C'.m=C.m∧C'.h=C.h∧C'.ks=xs++ys++[e]∧(∀ b,(C'.E b).row=(C.E b).row)∧Fr (C.S c) w w':=by
 have hr1:=h.rg
 have hcn:=h.nc
 rw [hks]at hr1 hcn
 refine (use_ring c C.h e xs ys C.E w hr1 (by rw [h.hd];rfl) hcn h.c2).mono ?_
 rintro r w' ⟨rfl,E',g1,g3,g5⟩
 have hmem:∀ b,b∈C.ks↔b∈xs++ys++[e]:=fun b=>by
  rw [hks];simp only [List.mem_append,List.mem_cons,List.not_mem_nil,or_false]
  constructor
  ·rintro (h |h |h)<;>simp [h]
  ·rintro ((h |h) |h)<;>simp [h]
 have hpn:(pagesOf (xs++ys++[e]) E').Nodup:=by
  rw [pagesOf_congr (fun b _=>g3 b)]
  have h1:=h.pn
  rw [hks]at h1
  refine (List.Perm.nodup_iff ?_).1 h1
  refine List.Perm.map _ ?_
  rw [List.append_assoc]
  exact List.Perm.append_left _ (List.perm_append_singleton e ys).symm
 rw [show (xs++e::ys)=C.ks from hks.symm]at g5
 have hfr:Fr (C.S c) w w':=g5.imp (fun j _ hj=>Or.inr (Or.inr hj))
 refine ⟨rfl,⟨C.m,C.h,xs++ys++[e],E'⟩,CP.mk' ?_ ?_ g1 ?_ hpn ?_ h.rm,rfl,rfl,rfl,g3,hfr⟩
 ·exact (g5.blk c h.clt h.nc).trans h.hd
 ·exact MapAt.imp (h.mp.stay (g5.blk C.m h.mp.lt h.nm)) (by rw [hks];simp) (fun k _=>lk_ext h.pn hpn hmem (fun b _=>g3 b) k)
 ·exact (rowsOf_congr (fun b _=>g3 b)).symm
 ·intro r hr
  refine h.wf r ?_
  rw [h.ls]
  obtain ⟨b,hb,rfl⟩:=List.mem_map.1 hr
  exact List.mem_map.2 ⟨b,(hmem b).2 hb,rfl⟩
end Cch
namespace Cch
open Go.RowKit Go.Maps
def zeroR(k:Int):Row:=⟨k,List.replicate 512 0,0,false⟩
def zeroE(k:Int):Ent:=⟨zeroR k,none,none⟩
theorem wpList_build1_run{P:Program}{ops:Array Oper}{rest:List Oper}{o:Oper}{a:Act}{w:World}{Q:Exit→Act→World→Prop}(hgd:o.guard=none)(ty:TypeId)(x:Operand)(ho:o.op=.build ty #[(0,x)])(u v:Value)(hx:a.eval x=u)
  (hrun:(Instr.build ty #[(0,u)]).run P w=.ok v w) (h:wpList P ops Q rest (a.put o.dst v) w):wpList P ops Q (o::rest) a w:=by
 refine wpList_plain hgd fun K hK=>?_
 unfold Oper.wp
 simp [execOp,ho,hx,hrun,Result.andThen]
 exact hK _ _ h
theorem build69(W:World):(Instr.build 304 #[]).run Tryz.prog W=.ok (.agg (cellsE (zeroE 0)).toArray) W:=by kernel_rfl
theorem build69p(k:Int)(W:World):(Instr.build 304 #[(0,.int .i64 k)]).run Tryz.prog W=.ok (.agg (cellsE (zeroE k)).toArray) W:=by kernel_rfl
theorem box69(Z:Array Value)(W:World):(Instr.box 304 (.agg Z)).run Tryz.prog W=.ok (.pointer (some ⟨W.heap.size,0,none⟩)) (W.alloc (.cells Z 304)):=rfl
theorem ent_new(w:World)(k:Int):EntAt (w.alloc (.cells (cellsE (zeroE k)).toArray 304)) w.heap.size (zeroE k):=⟨heap_alloc_new w _,List.length_replicate⟩
theorem ring_any(w:World):Calls Tryz.prog 158 #[] w fun e w'=>e=.returned (.pointer (some ⟨w.heap.size,0,none⟩))∧w'=((w.alloc (.cells (cellsE (zeroE 0)).toArray 304)).setCell ⟨w.heap.size,515,none⟩ (.pointer (some ⟨w.heap.size,0,none⟩))).setCell ⟨w.heap.size,516,none⟩ (.pointer (some ⟨w.heap.size,0,none⟩)):=by
 obtain ⟨Z,hZ⟩:∃ Z,Z=(cellsE (zeroE 0)).toArray:=⟨_,rfl⟩
 have hb:=build69
 have he:=ent_new w 0
 rw [←hZ]at hb ⊢
 obtain ⟨W,hW⟩:∃ W,W=w.alloc (.cells Z 304):=⟨_,rfl⟩
 rw [←hZ,←hW]at he
 have c1:=he.bef;have c2:=he.aft;have f1:=he.frozen 515;have f2:=he.frozen 516
 have hx:(Instr.box 304 (.agg Z)).run Tryz.prog w=.ok (.pointer (some ⟨w.heap.size,0,none⟩)) W:=hW▸box69 Z w
 have HW:=hid hW
 clear he hZ
 rw [←hW]
 clear hW
 go_enter Tryz.func158,Tryz.ntmps158
 go_wp2_with (first |((with_reducible refine here_op 2 ?_);refine wpList_build_run rfl 304 rfl _ (hb _) ?_) |((with_reducible refine here_op 3 ?_);refine wpList_box_run rfl 304 (.tmp 2) rfl _ _ rfl _ hx ?_))
 go_ret
 exact ⟨rfl,rfl⟩
theorem ring_world(w:World):∃ E,RingAt (((w.alloc (.cells (cellsE (zeroE 0)).toArray 304)).setCell ⟨w.heap.size,515,none⟩ (.pointer (some ⟨w.heap.size,0,none⟩))).setCell ⟨w.heap.size,516,none⟩ (.pointer (some ⟨w.heap.size,0,none⟩))) w.heap.size [] E:=by
 have h1:=((ent_new w 0).setBef w.heap.size).setAft w.heap.size
 refine ⟨fun _=>((zeroE 0).wBef w.heap.size).wAft w.heap.size,fun b hb=>?_,⟨rfl,rfl,trivial⟩,by simp⟩
 simp at hb
 subst hb
 exact h1
theorem new_raw(r:Nat)(w:World)(h1:1≤r)(h2:r≤4096)(w1:World)(h:Nat)(k:Calls Tryz.prog 158 #[] (w.alloc (.map #[] 0)) fun e w'=>e=.returned (.pointer (some ⟨h,0,none⟩))∧w'=w1) :
  Calls Tryz.prog 102 #[.int .i64 (r:Int)] w fun e w'=>e=.returned (.pointer (some ⟨w1.heap.size,0,none⟩))∧w'=w1.alloc (.cells (hdC w.heap.size h r 0 0).toArray 242):=by
 have hm:=@run_makeMap Tryz.prog
 have h3:¬(r:Int)<1:=by omega
 have h4:¬(4096:Int)<(r:Int):=by omega
 have k1:=hid k
 clear k
 go_enter Tryz.func102,Tryz.ntmps102
 go_wp2_with (go_at_call 158;refine k1.out.mono ?_;rintro e w2 ⟨rfl,h0⟩;obtain rfl:=h0.symm)
 go_ret
 exact ⟨rfl,rfl⟩
theorem new_yes(r:Nat)(w:World)(h1:1≤r)(h2:r≤4096) :
  Calls Tryz.prog 102 #[.int .i64 (r:Int)] w fun e w'=>∃ c,e=.returned (.pointer (some ⟨c,0,none⟩))∧∃ C,CP w' c C ⟨r,[],0,0⟩∧C.ks = []∧(∀ k,C.S c k→w.heap.size≤k)∧Below w.heap.size w w':=by
 have k:=ring_any (w.alloc (.map #[] 0))
 obtain ⟨W,hW⟩:∃ W,W=w.alloc (.map #[] 0):=⟨_,rfl⟩
 have hWs:W.heap.size=w.heap.size+1:=by rw [hW];simp
 have hWm:MapAt W w.heap.size (fun _=>none) 0:=hW▸MapAt.new w
 have hWb:Below w.heap.size w W:=hW▸(Below.refl _ w).alloc (Nat.le_refl _) _
 obtain ⟨E,hE⟩:=ring_world W
 rw [←hW]at k
 obtain ⟨w1,hw1⟩:∃ w1,w1=((W.alloc (.cells (cellsE (zeroE 0)).toArray 304)).setCell ⟨W.heap.size,515,none⟩ (.pointer (some ⟨W.heap.size,0,none⟩))).setCell ⟨W.heap.size,516,none⟩ (.pointer (some ⟨W.heap.size,0,none⟩)):=⟨_,rfl⟩
 rw [←hw1]at hE k
 have hb1:Below W.heap.size W w1:=by
  rw [hw1]
  exact (((Below.refl _ W).alloc (Nat.le_refl _) _).setCell (p:=⟨W.heap.size,515,none⟩) (Nat.le_refl _) _).setCell (p:=⟨W.heap.size,516,none⟩) (Nat.le_refl _) _
 have hs1:w1.heap.size=W.heap.size+1:=by rw [hw1];simp
 clear hw1
 rw [hW]at k
 refine (new_raw r w h1 h2 w1 _ k).mono ?_
 rintro e w' ⟨rfl,rfl⟩
 rw [←hW]
 have hb2:Below w1.heap.size w1 (w1.alloc (.cells (hdC w.heap.size W.heap.size r 0 0).toArray 242)):=(Below.refl _ w1).alloc (Nat.le_refl _) _
 refine ⟨w1.heap.size,rfl,⟨w.heap.size,W.heap.size,[],E⟩,CP.mk' (heap_alloc_new w1 _) ?_ (hE.stay (fun b hb=>hb2.block b (hE.en b hb).lt)) rfl List.nodup_nil (fun r hr=>by cases hr) ⟨h1,h2⟩,rfl,?_,gt (gt hWb hb1) hb2⟩
 ·exact (hWm.stay (hb1.block _ hWm.lt)).stay (hb2.block _ (by rw [hs1];have:=hWm.lt;omega))
 ·rintro k (rfl |rfl |hk)
  ·omega
  ·exact Nat.le_refl _
  ·simp at hk;subst hk;show _≤W.heap.size;omega
end Cch
namespace Cch
open Go.RowKit Go.Maps
structure TwoKept (B:Nat) (W W':World):Prop where
 d:W'.heap[B]? = W.heap[B]?
 l:W'.heap[B+1]? = W.heap[B+1]?
def RPost(B:Nat)(I:World→Prop)(X:Code→World→Prop)(W:World):Exit→Act→World→Prop
 | .normal,_,W'=>TwoKept B W W'∧I W'
 | .ret,_,W'=>TwoKept B W W'∧X .ret W'
 | .exit id,_,W'=>TwoKept B W W'∧X (.exit id) W'
 | .goto t,_,W'=>TwoKept B W W'∧X (.goto t) W'
 | _,_,_=>False
def Mark(B:Nat)(W:World):Prop:=W.heap[B]? = some (.deferred (some []))
def Rec(B:Nat)(W:World):Prop:=∃ r,W.heap[B+1]? = some (.loop r)
theorem put_other{W:World}{l j:Nat}{o:Obj}(h:j≠l):(W.putObj l o).heap[j]? = W.heap[j]?:=World.putObj_heap_other h
section
variable {n:Nat} {P:Program} {g:Operand} {ps:Array Tmp} {assign body:Code} {Q:Exit→Act→World→Prop} {a:Act} {w:World}
theorem range_nat{gf:Nat}{lb:Array Value}(hg:a.eval g=.func (.func gf) #[] lb)(eg:∀ args w,(callFunc gf args).run P w=.ok (.enter gf args) w)
  (N:Nat) (xs:Nat→Value) (hps:ps.size=1) (I:Nat→World→Prop) (X:Code→World→Prop)
  (hI:∀ k W l o o',w.heap.size≤l→l≤w.heap.size+1→W.heap[l]? = some o→o.isCells=false→I k W→I k (W.putObj l o'))
  (hX:∀ c W l o o',w.heap.size≤l→l≤w.heap.size+1→W.heap[l]? = some o→o.isCells=false→X c W→X c (W.putObj l o'))
  (h0:∀ W,Below w.heap.size w W→w.heap.size+2≤W.heap.size→I 0 W)
  (hseq:∀ (l:Nat) (J:Nat→World→Prop) (Jx:World→Prop) (W:World),(∀ k W,J k W→I k W) →
   (∀ k W,k<N→J k W→YieldAt Fence.wide (n - 1 - 1) P l #[xs k] W fun e W'=>(e=.returned (.bool true)∧J (k+1) W')∨(e=.returned (.bool false)∧Jx W'))→J 0 W →
   CallsIn Fence.wide (n - 1) P gf (#[.func (.yield l) #[] #[]]++lb) W fun e W'=>(∃ v,e=.returned v)∧(J N W'∨Jx W'))
  (a₁:Nat→Act)
  (hassign:∀ (l k:Nat) (W:World) (K:Act→World→Prop),K (a₁ k) W →
   assign.wpIn (Fence.wide.inRound l) (n - 1 - 1) P (Exit.then K (fun _ _ _=>False)) { tmps:=(ps.zip #[xs k]).foldl (fun t (p,v)=>t.setIfInBounds p v) a.tmps,defers:=[] } W)
  (hbody:∀ (l k:Nat) (W:World),k<N→I k W→Mark w.heap.size W→Rec w.heap.size W→body.wpIn (Fence.wide.inRound l) (n - 1 - 1) P (RPost w.heap.size (I (k+1)) X W) (a₁ k) W)
  (hdone:∀ W,I N W→Mark w.heap.size W→Q .normal { a with defers:={ target:=.collected w.heap.size,args:=#[] }::a.defers } W)
  (hstop:∀ c W,X c W→Mark w.heap.size W→c.wpIn Fence.wide n P Q { a with defers:={ target:=.collected w.heap.size,args:=#[] }::a.defers } W) :
  (Code.rangeFunc g ps assign body).wpIn Fence.wide n P Q a w:=by
 refine wpIn_rangeFunc fun fn hfn=>?_
 rw [show Fence.wide.round=none from rfl]
 obtain ⟨rc,hrc⟩:∃ rc:LoopState→Option Code→Loop,∀ st pe,rc st pe = { state:=st,pending:=pe,fn:=fn,tmps:=a.tmps,params:=ps,assign:=assign,body:=body,defers:=w.heap.size }:=⟨_,fun _ _=>rfl⟩
 have hst:∀ st pe,(rc st pe).state=st:=fun st pe=>by rw [hrc]
 have hpe:∀ st pe,(rc st pe).pending=pe:=fun st pe=>by rw [hrc]
 have hpa:∀ st pe,(rc st pe).params=ps:=fun st pe=>by rw [hrc]
 have hbusy:∀ st pe st',({ rc st pe with state:=st' }:Loop)=rc st' pe:=fun st pe st'=>by rw [hrc,hrc]
 have hboth:∀ st pe st' pe',({ rc st pe with state:=st',pending:=pe' }:Loop)=rc st' pe':=fun st pe st' pe'=>by rw [hrc,hrc]
 have hyield:∀ (W:World) (k:Nat),W.heap[w.heap.size+1]? = some (.loop (rc .ready none))→(Instr.yield (w.heap.size+1) #[xs k]).run P W=.ok (.round (w.heap.size+1) fn ((ps.zip #[xs k]).foldl (fun t (p,v)=>t.setIfInBounds p v) a.tmps) assign body) W:=fun W k h=>by
  have:=run_yield (P:=P) (args:=#[xs k]) h (by rw [hpa];simp [hps])
  rw [hrc]at this;exact this
 obtain ⟨W1,hW1⟩:∃ W1,W1=(w.alloc (.deferred (some []))).alloc (.loop (rc .ready none)):=⟨_,rfl⟩
 have hrec1:W1.heap[w.heap.size+1]? = some (.loop (rc .ready none)):=by
  have:=World.alloc_heap_new (w.alloc (.deferred (some []))) (.loop (rc .ready none))
  rw [World.size_alloc]at this;rw [hW1];exact this
 have hmark1:Mark w.heap.size W1:=by
  show W1.heap[w.heap.size]? = _
  rw [hW1];exact (Below.heap_alloc _ _ _ (by simp)).trans (World.alloc_heap_new w _)
 have hI1:I 0 W1:=h0 W1 (by rw [hW1];exact ((Below.refl _ w).alloc (Nat.le_refl _) _).alloc (by simp) _) (by rw [hW1];simp)
 have hcall:=hseq (w.heap.size+1) (fun k W=>I k W∧W.heap[w.heap.size+1]? = some (.loop (rc .ready none))∧Mark w.heap.size W)
  (fun W=>∃ c,X c W∧W.heap[w.heap.size+1]? = some (.loop (rc .done (some c)))∧Mark w.heap.size W) W1 (fun k W h=>h.1) ?_ ⟨hI1,hrec1,hmark1⟩
 ·refine ⟨w.heap.size+1,[{ target:=.collected w.heap.size,args:=#[] }],W1,{ target:=.fn (.func gf) lb,args:=#[.func (.yield (w.heap.size+1)) #[] #[]] },W1,gf,
   #[.func (.yield (w.heap.size+1)) #[] #[]]++lb,W1,by rw [hW1,hrc];exact run_enterLoop_outer _ _ _ _ _,?_,?_,?_,?_,?_⟩
  ·simp only [resolve,hg];simp [go_sem]
  ·exact fun _ _=>trivial
  ·simp [invoke,go_sem,eg]
  ·intro h;cases h
  ·refine hcall.mono ?_
   rintro e W2 ⟨⟨v,rfl⟩,⟨hi,hl,hm⟩ | ⟨c,hx,hl,hm⟩⟩
   ·refine ⟨none,_,by have:=run_endLoop (P:=P) hl (by rw [hst];simp);rw [hpe]at this;exact this,hdone _ (hI _ _ _ _ _ (by omega) (Nat.le_refl _) hl rfl hi) ((put_other (by omega)).trans hm)⟩
   ·exact ⟨some c,_,by have:=run_endLoop (P:=P) hl (by rw [hst];simp);rw [hpe]at this;exact this,hstop _ _ (hX _ _ _ _ _ (by omega) (Nat.le_refl _) hl rfl hx) ((put_other (by omega)).trans hm)⟩
 ·rintro k W hk ⟨hi,hl,hm⟩
  have hlt:w.heap.size+1<W.heap.size:=(Array.getElem?_eq_some_iff.1 hl).1
  refine ⟨fn,_,assign,body,hyield W k hl,roundIn_of_wpIn hfn (hassign _ k W _ ⟨_,run_beginRound hl (hst _ _),?_⟩)⟩
  rw [hbusy]
  have hl2:=World.putObj_heap_same (w:=W) (h:=hlt) (o:=.loop (rc .busy none))
  obtain ⟨V,hV⟩:∃ V,V=W.putObj (w.heap.size+1) (.loop (rc .busy none)):=⟨_,rfl⟩
  rw [←hV]at hl2 ⊢
  have hiV:I k V:=hV▸hI _ _ _ _ _ (by omega) (Nat.le_refl _) hl rfl hi
  have hmV:Mark w.heap.size V:=by show V.heap[w.heap.size]? = _;rw [hV];exact (put_other (by omega)).trans hm
  refine wpIn_mono (hbody _ k V hk hiV hmV ⟨_,hl2⟩) ?_
  have key:∀ (jump:Option Code) (V':World),TwoKept w.heap.size V V'→V'.heap[w.heap.size+1]? = some (.loop (rc .busy none))∧Mark w.heap.size V':=fun jump V' hk2=>⟨hk2.l.trans hl2,hk2.d.trans hmV⟩
  have hsame:∀ {V':World} {o o':Obj},V'.heap[w.heap.size+1]? = some o→(V'.putObj (w.heap.size+1) o').heap[w.heap.size+1]? = some o':=fun h=>World.putObj_heap_same (Array.getElem?_eq_some_iff.1 h).1
  intro e a3 V' hp
  cases e with
  | normal=>
   obtain ⟨h1,h2⟩:=key none V' hp.1
   exact ⟨_,_,by have:=run_endRound (P:=P) none h1;rw [hboth]at this;exact this,Or.inl ⟨rfl,hI _ _ _ _ _ (by omega) (Nat.le_refl _) h1 rfl hp.2,hsame h1,(put_other (by omega)).trans h2⟩⟩
  | ret=>
   obtain ⟨h1,h2⟩:=key none V' hp.1
   exact ⟨_,_,by have:=run_endRound (P:=P) (some .ret) h1;rw [hboth]at this;exact this,Or.inr ⟨rfl,_,hX _ _ _ _ _ (by omega) (Nat.le_refl _) h1 rfl hp.2,hsame h1,(put_other (by omega)).trans h2⟩⟩
  | exit id=>
   obtain ⟨h1,h2⟩:=key none V' hp.1
   exact ⟨_,_,by have:=run_endRound (P:=P) (some (.exit id)) h1;rw [hboth]at this;exact this,Or.inr ⟨rfl,_,hX _ _ _ _ _ (by omega) (Nat.le_refl _) h1 rfl hp.2,hsame h1,(put_other (by omega)).trans h2⟩⟩
  | goto t=>
   obtain ⟨h1,h2⟩:=key none V' hp.1
   exact ⟨_,_,by have:=run_endRound (P:=P) (some (.goto t)) h1;rw [hboth]at this;exact this,Or.inr ⟨rfl,_,hX _ _ _ _ _ (by omega) (Nat.le_refl _) h1 rfl hp.2,hsame h1,(put_other (by omega)).trans h2⟩⟩
  | panic ch=>exact hp.elim
  | outgrown=>exact hp.elim
end
end Cch
namespace Cch
open Go.RowKit Go.Maps
def nx(ks:List Nat)(h k:Nat):Nat:=ks.getD k h
theorem nx_end(ks:List Nat)(h:Nat):nx ks h ks.length=h:=by simp [nx]
variable {h:Nat} {ks:List Nat}
theorem nx_in{k:Nat}(hk:k<ks.length):nx ks h k∈ks:=by simp [nx,List.getElem?_eq_getElem hk]
open Classical in
noncomputable def leftOf (ks:List Nat) (h:Nat) (v:Value):Nat:=
 if e:∃ k,k≤ks.length∧v=.pointer (some ⟨nx ks h k,0,none⟩) then ks.length - Classical.choose e else 0
theorem nx_inj(nd:(h::ks).Nodup){i j:Nat}(hi:i≤ks.length)(hj:j≤ks.length)(e:nx ks h i=nx ks h j):i=j:=by
 have n2:=List.nodup_cons.1 nd
 rcases Nat.lt_or_ge i ks.length with h1 |h1
 ·rcases Nat.lt_or_ge j ks.length with h2 |h2
  ·simp only [nx,List.getD,List.getElem?_eq_getElem h1,List.getElem?_eq_getElem h2,Option.getD_some]at e
   exact (List.getElem_inj n2.2).1 e
  ·obtain rfl:j=ks.length:=by omega
   rw [nx_end]at e
   exact absurd (e▸nx_in h1) n2.1
 ·obtain rfl:i=ks.length:=by omega
  rcases Nat.lt_or_ge j ks.length with h2 |h2
  ·rw [nx_end]at e
   exact absurd (e.symm▸nx_in h2) n2.1
  ·omega
theorem leftOf_eq(nd:(h::ks).Nodup){k:Nat}(hk:k≤ks.length):leftOf ks h (.pointer (some ⟨nx ks h k,0,none⟩))=ks.length - k:=by
 have hex:∃ j,j≤ks.length∧Value.pointer (some ⟨nx ks h k,0,none⟩)=.pointer (some ⟨nx ks h j,0,none⟩):=⟨k,hk,rfl⟩
 unfold leftOf
 rw [dif_pos hex]
 obtain ⟨j,hj⟩:∃ j,j=Classical.choose hex:=⟨_,rfl⟩
 have hs:=Classical.choose_spec hex
 rw [←hj]at hs ⊢
 have e1:nx ks h k=nx ks h j:=by
  have:=hs.2
  simp only [Value.pointer.injEq,Option.some.injEq,Addr.mk.injEq,and_true]at this
  exact this
 rw [nx_inj nd hk hs.1 e1]
theorem info69:(Tryz.prog.info? 304).map (fun i=>i.size)=some 517:=by kernel_rfl
theorem Tryz.u50:Tryz.prog.underlying 239=some (.pointer 304):=by kernel_rfl
theorem ptr_ne{W:World}{a b:Nat}{x y:Ent}(ha:EntAt W a x)(hb:EntAt W b y)(hne:a≠b) :
  (binOp .neq 239 (.pointer (some ⟨a,0,none⟩)) (.pointer (some ⟨b,0,none⟩))).run Tryz.prog W=.ok (.bool true) W:=by
 have h1:=run_sameAddr_other (P:=Tryz.prog) W (a:=⟨a,0,none⟩) (b:=⟨b,0,none⟩) (by intro e;cases e;exact hne rfl) ha.blk hb.blk
 obtain ⟨i,hi,hs⟩:∃ i,Tryz.prog.info? 304=some i∧i.size=517:=by
  have:=info69
  cases h:Tryz.prog.info? 304 with
  | none=>rw [h]at this;cases this
  | some i=>rw [h]at this;exact ⟨i,rfl,by simpa using this⟩
 have h2:∀ d:Nat,(Op.equalIn (d+1) 239 (.pointer (some ⟨a,0,none⟩)) (.pointer (some ⟨b,0,none⟩))).run Tryz.prog W=.ok false W:=fun d=>by
  simp [Op.equalIn,run_underlying Tryz.u50,sizeOf,typeInfo,hi,hs,h1]
 simp only [binOp]
 simp [Op.equal,Op.maxDepth,h2 9999]
theorem ptr_eq(W:World)(a:Nat) :
  (binOp .neq 239 (.pointer (some ⟨a,0,none⟩)) (.pointer (some ⟨a,0,none⟩))).run Tryz.prog W=.ok (.bool false) W:=by
 obtain ⟨i,hi,_⟩:∃ i,Tryz.prog.info? 304=some i∧i.size=517:=by
  have:=info69
  cases h:Tryz.prog.info? 304 with
  | none=>rw [h]at this;cases this
  | some i=>rw [h]at this;exact ⟨i,rfl,by simpa using this⟩
 have h2:∀ d:Nat,(Op.equalIn (d+1) 239 (.pointer (some ⟨a,0,none⟩)) (.pointer (some ⟨a,0,none⟩))).run Tryz.prog W=.ok true W:=fun d=>by
  simp [Op.equalIn,run_underlying Tryz.u50,sizeOf,typeInfo,hi,run_sameAddr_same]
 simp only [binOp]
 simp [Op.equal,Op.maxDepth,h2 9999]
structure OnRow (Bn c h:Nat) (ks:List Nat) (k:Nat) (W:World):Prop where
 box:W.cell? ⟨Bn,0,none⟩=some (.pointer (some ⟨c,0,none⟩))
 hd:W.cell? ⟨c,2,none⟩=some (.pointer (some ⟨h,0,none⟩))
 he:∃ e,EntAt W h e
 ne:k<ks.length→∃ e,EntAt W (nx ks h k) e
 first:k=0→W.cell? ⟨h,516,none⟩=some (.pointer (some ⟨nx ks h 0,0,none⟩))
 next:k<ks.length→W.cell? ⟨nx ks h k,516,none⟩=some (.pointer (some ⟨nx ks h (k+1),0,none⟩))
attribute [local go_sem] Oper.semAt_some
theorem row1_in(m Bn c h l:Nat)(ks:List Nat)(nd:(h::ks).Nodup)(J:Nat→World→Prop)(Jx:World→Prop)(hJ:∀ k W,J k W→OnRow Bn c h ks k W)
  (hY:∀ k W,k<ks.length→J k W→YieldAt Fence.wide (m - 1) Tryz.prog l #[.pointer (some ⟨nx ks h k,0,none⟩)] W fun e W'=>(e=.returned (.bool true)∧J (k+1) W')∨(e=.returned (.bool false)∧Jx W'))
  (W:World) (h0:J 0 W) :
  CallsIn Fence.wide m Tryz.prog 333 #[.func (.yield l) #[] #[],.pointer (some ⟨Bn,0,none⟩)] W fun e W'=>(∃ v,e=.returned v)∧(J ks.length W'∨Jx W'):=by
 have q0:=hJ 0 W h0
 have b0:=q0.box;have d0:=q0.hd;have a0:=q0.first rfl
 have H0:=hid h0;have HJ:=hid hJ;have HY:=hid hY
 clear q0 h0 hJ hY
 refine callsIn_of_wp Tryz.func333 rfl trivial ?_ rfl
 simp only [Tryz.ntmps333,List.size_toArray,List.length_cons,List.length_nil,Nat.reduceAdd,Nat.reduceSub,Array.replicate_succ,Array.replicate_zero,List.push_toArray,List.append_toArray,List.nil_append,List.cons_append]
 gi_wp2
 gi_loopw [3] (fun p wr=>∃ k,k≤ks.length∧p=.pointer (some ⟨nx ks h k,0,none⟩)∧J k wr) (fun p _=>leftOf ks h p)
 case atStart=>
  exact ⟨0,Nat.zero_le _,rfl,H0.out⟩
 case round=>
  obtain ⟨k,hk,rfl,hj⟩:=hrel
  have q:=HJ.out k wr hj
  have b1:=q.box;have d1:=q.hd
  rcases Nat.lt_or_ge k ks.length with hlt |hge
  ·have a1:=q.next hlt
   have hne:¬nx ks h k=h:=fun e0=>(List.nodup_cons.1 nd).1 (e0▸nx_in hlt)
   obtain ⟨fn,tmps,assign,body,hy,hR⟩:=HY.out k wr hlt hj
   have HJ':=hid hj
   replace hR:=hid hR
   obtain ⟨e1,he1⟩:=q.ne hlt
   obtain ⟨e2,he2⟩:=q.he
   have hpn:=ptr_ne he1 he2 hne
   clear q hj he1 he2
   gi_wp2
   refine ⟨fun h=>(by cases h),hR.out.mono ?_⟩
   rintro e W3 (⟨rfl,hJ3⟩ | ⟨rfl,hJx3⟩)
   ·replace hJ3:=hid hJ3
    gi_wp2
    go_roundw
    case rel=>exact ⟨k+1,by omega,rfl,hJ3.out⟩
    case measure=>rw [leftOf_eq nd hk,leftOf_eq nd (show k+1≤ks.length by omega)];omega
   ·replace hJx3:=hid hJx3
    gi_wp2
    refine bodyPost_ret (results_none rfl _ _ _) rfl ?_
    exact ⟨⟨_,rfl⟩,.inr hJx3.out⟩
  ·obtain rfl:k=ks.length:=by omega
   have hpn:=ptr_eq wr h
   have HJ':=hid hj
   clear q hj
   rw [nx_end]
   gi_wp2
   go_end0
   exact ⟨⟨_,rfl⟩,.inl HJ'.out⟩
end Cch
namespace Cch
open Go.RowKit Go.Maps
theorem row_any(c:Nat)(w:World):Calls Tryz.prog 324 #[.pointer (some ⟨c,0,none⟩)] w fun e w'=>e=.returned (.func (.func 333) #[] #[.pointer (some ⟨w.heap.size,0,none⟩)])∧w'=w.alloc (.cells #[.pointer (some ⟨c,0,none⟩)] 125):=by
 go_enter Tryz.func324,Tryz.ntmps324
 go_wp2
 go_ret
 exact ⟨rfl,rfl⟩
variable {ks:List Nat} {h:Nat} {w:World}
theorem RingAt.first{E:Nat→Ent}(H:RingAt w h ks E):(E h).aft=some (nx ks h 0):=by
 have:=H.ch
 cases ks with
 | nil=>exact this.1
 | cons x ks=>exact this.1
theorem chain_next{E:Nat→Ent}:∀ {ks:List Nat} {a:Nat},Chain E (a::ks++[h])→∀ k,k<ks.length→(E (nx ks h k)).aft=some (nx ks h (k+1))
 | [],_,_,k,hk=>by simp at hk
 | [x],a,hc,k,hk=>by
  obtain rfl:k=0:=by simpa using hk
  exact hc.2.2.1
 | x::y::ks,a,hc,k,hk=>by
  cases k with
  | zero=>exact hc.2.2.1
  | succ k=>exact chain_next (ks:=y::ks) (a:=x) hc.2.2 k (by simpa using hk)
theorem RingAt.next{E:Nat→Ent}(H:RingAt w h ks E){k:Nat}(hk:k<ks.length):(E (nx ks h k)).aft=some (nx ks h (k+1)):=chain_next H.ch k hk
attribute [local go_sem] Oper.semAt_some
end Cch
end Go.Proofs.YtfcikkechphmaaaGreatDoor
