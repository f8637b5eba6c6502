/- How a disk lies in memory; no statement of the seat is proved here. -/
import Derived.Test.YtfcikkechphmaaaGreatDoorW22
import Derived.LoopN
set_option maxHeartbeats 16000000
set_option maxRecDepth 20000
namespace Go.Proofs.YtfcikkechphmaaaGreatDoor
namespace Dsk
open Go.RowKit Go.Maps
structure DS where
 room:Nat
 off:Bool
 ops:Nat
 f0:FS
 f1:FS
 left:Nat
 keep:List Bool
 torn:Int
structure Parts where
 S0:Nat→Prop
 S1:Nat→Prop
 SK:Nat→Prop
 a0:Option Addr
 a1:Option Addr
 ko:Option Addr
 k0:Nat
 k1:Nat
 kc:Nat
 m0:Nat
 m1:Nat
structure DS.Ok (d:DS):Prop where
 r1:0<d.room
 r2:d.room≤32768
 sum:d.f0.now.length+d.f1.now.length≤d.room
 ok0:d.f0.Ok
 ok1:d.f1.Ok
 kl:d.keep.length≤100
 tn : -9223372036854775808≤d.torn∧d.torn≤9223372036854775807
 lf:d.left≤9223372036854775807
 op:d.ops≤1000000000
structure DiskP (w:World) (p:Nat) (P:Parts) (d:DS):Prop where
 c0:w.cell? ⟨p,0,none⟩=some (.int .i64 (d.room:Int))
 c1:w.cell? ⟨p,1,none⟩=some (.bool d.off)
 c2:w.cell? ⟨p,2,none⟩=some (.int .i64 (d.ops:Int))
 c9:w.cell? ⟨p,9,none⟩=some (.int .i64 (d.left:Int))
 c10:w.cell? ⟨p,10,none⟩=some (.slice P.ko d.keep.length P.kc)
 c11:w.cell? ⟨p,11,none⟩=some (.int .i64 d.torn)
 fz:∀ i,w.frozen? ⟨p,i,none⟩=false
 f0:FileAt w p 3 P.S0 P.a0 P.k0 P.m0 d.f0
 f1:FileAt w p 6 P.S1 P.a1 P.k1 P.m1 d.f1
 rk:RdB w P.ko d.keep
 ik:0<d.keep.length→∀ a,P.ko=some a→P.SK a.block
 d01:∀ k,P.S0 k→¬P.S1 k
 dk:∀ k,P.SK k→¬P.S0 k∧¬P.S1 k∧k≠p
 b0:∀ k,P.S0 k→k<w.heap.size
 b1:∀ k,P.S1 k→k<w.heap.size
 bk:∀ k,P.SK k→k<w.heap.size
 ok:d.Ok
def Parts.all(P:Parts):Nat→Prop:=fun k=>P.S0 k∨P.S1 k∨P.SK k
structure DFrame (w w':World) (p:Nat) (S:Nat→Prop):Prop where
 os:w'.os=w.os
 tape:w'.tape=w.tape
 output:w'.output=w.output
 size:w.heap.size≤w'.heap.size
 block:∀ k,k<w.heap.size→k≠p→¬S k→w'.heap[k]? = w.heap[k]?
theorem DFrame.refl(w:World)(p:Nat)(S:Nat→Prop):DFrame w w p S:=⟨rfl,rfl,rfl,Nat.le_refl _,fun _ _ _ _=>rfl⟩
variable {S:Nat→Prop} {p:Nat} {w:World}
theorem DFrame.trans{w1 w2:World}(h:DFrame w w1 p S)(k:DFrame w1 w2 p (From S w)):DFrame w w2 p S:=
 ⟨k.os.trans h.os,k.tape.trans h.tape,k.output.trans h.output,Nat.le_trans h.size k.size,
  fun i hi hp hS=>(k.block i (Nat.lt_of_lt_of_le hi h.size) hp (fun hf=>by rcases hf with h1 |h1;exact hS h1;omega)).trans (h.block i hi hp hS)⟩
variable {w':World}
theorem DFrame.imp{S':Nat→Prop}(h:DFrame w w' p S)(hi:∀ k,k<w.heap.size→S k→S' k):DFrame w w' p S':=
 ⟨h.os,h.tape,h.output,h.size,fun k hk hp hn=>h.block k hk hp (fun hs=>hn (hi k hk hs))⟩
variable {o:Nat}
theorem FFrame.df(h:FFrame w w' p o S):DFrame w w' p S:=⟨h.os,h.tape,h.output,h.size,h.block⟩
theorem DFrame.below(h:Below w.heap.size w w'):DFrame w w' p S:=⟨h.os,h.tape,h.output,h.size,fun k hk _ _=>h.block k hk⟩
def Between(S:Nat→Prop)(w w':World):Nat→Prop:=fun k=>S k∨(w.heap.size≤k∧k<w'.heap.size)
theorem FileAt.bound{ao:Option Addr}{cap m:Nat}{F:FS}(h:FileAt w' p o (From S w) ao cap m F):FileAt w' p o (Between S w w') ao cap m F:=
 ⟨h.c0,h.c1,h.c2,h.f0,h.f1,h.f2,h.row,h.map,fun hb=>h.np (by rcases hb with h1 |h1;exact Or.inl h1;exact Or.inr h1.1),
  fun a ha=>by rcases h.ina a ha with h1 |h1;exact Or.inl h1;exact Or.inr ⟨h1,row_lt h.row a ha⟩,by rcases h.inm with h1 |h1;exact Or.inl h1;exact Or.inr ⟨h1,h.map.lt⟩⟩
variable {d:DS} {P:Parts}
theorem DiskP.turn{d':DS}(h:DiskP w p P d)(hs:w.heap.size≤w'.heap.size)(hb:∀ k,k<w.heap.size→k≠p→w'.heap[k]? = w.heap[k]?)(hc:∀ i,3≤i→i≤8→w'.cell? ⟨p,i,none⟩=w.cell? ⟨p,i,none⟩)
  (hf:∀ i,w'.frozen? ⟨p,i,none⟩=w.frozen? ⟨p,i,none⟩) (c0:w'.cell? ⟨p,0,none⟩=some (.int .i64 (d'.room:Int))) (c1:w'.cell? ⟨p,1,none⟩=some (.bool d'.off)) (c2:w'.cell? ⟨p,2,none⟩=some (.int .i64 (d'.ops:Int)))
  (c9:w'.cell? ⟨p,9,none⟩=some (.int .i64 (d'.left:Int))) {SK:Nat→Prop} {ko:Option Addr} {kc:Nat} (c10:w'.cell? ⟨p,10,none⟩=some (.slice ko d'.keep.length kc)) (c11:w'.cell? ⟨p,11,none⟩=some (.int .i64 d'.torn))
  (e0:d'.f0=d.f0) (e1:d'.f1=d.f1) (rk:RdB w' ko d'.keep) (ik:0<d'.keep.length→∀ a,ko=some a→SK a.block) (dk:∀ k,SK k→¬P.S0 k∧¬P.S1 k∧k≠p) (bk:∀ k,SK k→k<w'.heap.size) (ok:d'.Ok) :
  DiskP w' p { P with SK:=SK,ko:=ko,kc:=kc } d':=
 ⟨c0,c1,c2,c9,c10,c11,fun i=>(hf i).trans (h.fz i),
  by rw [e0];exact h.f0.stay (fun k hk hS=>hb k hk (fun e=>h.f0.np (e▸hS))) (fun i h1 h2=>hc i h1 (by omega)) hf,
  by rw [e1];exact h.f1.stay (fun k hk hS=>hb k hk (fun e=>h.f1.np (e▸hS))) (fun i h1 h2=>hc i (by omega) h2) hf,
  rk,ik,h.d01,dk,fun k hk=>Nat.lt_of_lt_of_le (h.b0 k hk) hs,fun k hk=>Nat.lt_of_lt_of_le (h.b1 k hk) hs,bk,ok⟩
theorem DiskP.rk_stay(h:DiskP w p P d)(hb:∀ k,k<w.heap.size→P.SK k→w'.heap[k]? = w.heap[k]?):RdB w' P.ko d.keep:=by
 intro hp
 obtain ⟨b,off,hko,hc⟩:=h.rk hp
 have hS:=h.ik hp _ hko
 exact ⟨b,off,hko,fun t ht=>(World.cell?_of_block (a:=⟨b,off+t,none⟩) (hb b (h.bk _ hS) hS)).trans (hc t ht)⟩
theorem DiskP.stay(h:DiskP w p P d)(hs:w.heap.size≤w'.heap.size)(hb:∀ k,k<w.heap.size→(P.all k∨k=p)→w'.heap[k]? = w.heap[k]?):DiskP w' p P d:=by
 have hp:=hb p h.f0.plt (Or.inr rfl)
 have hc:∀ i,w'.cell? ⟨p,i,none⟩=w.cell? ⟨p,i,none⟩:=fun _=>World.cell?_of_block hp
 have hf:∀ i,w'.frozen? ⟨p,i,none⟩=w.frozen? ⟨p,i,none⟩:=fun _=>World.frozen?_of_block hp
 exact ⟨(hc 0).trans h.c0,(hc 1).trans h.c1,(hc 2).trans h.c2,(hc 9).trans h.c9,(hc 10).trans h.c10,(hc 11).trans h.c11,fun i=>(hf i).trans (h.fz i),
  h.f0.stay (fun k hk hS=>hb k hk (Or.inl (Or.inl hS))) (fun i _ _=>hc i) hf,h.f1.stay (fun k hk hS=>hb k hk (Or.inl (Or.inr (Or.inl hS)))) (fun i _ _=>hc i) hf,
  h.rk_stay (fun k hk hS=>hb k hk (Or.inl (Or.inr (Or.inr hS)))),h.ik,h.d01,h.dk,fun k hk=>Nat.lt_of_lt_of_le (h.b0 k hk) hs,fun k hk=>Nat.lt_of_lt_of_le (h.b1 k hk) hs,fun k hk=>Nat.lt_of_lt_of_le (h.bk k hk) hs,h.ok⟩
theorem DiskP.later(h:DiskP w p P d)(hb:Below w.heap.size w w'):DiskP w' p P d:=h.stay hb.size (fun k hk _=>hb.block k hk)
theorem DiskP.file0g(h:DiskP w p P d){ao:Option Addr}{cap m:Nat}{F:FS}{S2:Nat→Prop}(hF:FileAt w' p 3 (From P.S0 w) ao cap m F)(hfr:FFrame w w' p 3 S2)(hd:∀ k,S2 k→¬P.S1 k∧¬P.SK k)(ok:{ d with f0:=F }.Ok) :
  DiskP w' p { P with S0:=Between P.S0 w w',a0:=ao,k0:=cap,m0:=m } { d with f0:=F }:=by
 have hc:∀ i,(i<3∨5<i)→w'.cell? ⟨p,i,none⟩=w.cell? ⟨p,i,none⟩:=fun i hi=>hfr.cell i (by omega) (by omega) (by omega)
 refine ⟨(hc 0 (by omega)).trans h.c0,(hc 1 (by omega)).trans h.c1,(hc 2 (by omega)).trans h.c2,(hc 9 (by omega)).trans h.c9,(hc 10 (by omega)).trans h.c10,(hc 11 (by omega)).trans h.c11,fun i=>(hfr.fz i).trans (h.fz i),hF.bound,
  h.f1.stay (fun k hk hS=>hfr.block k hk (fun e=>h.f1.np (e▸hS)) (fun h0=>(hd k h0).1 hS)) (fun i h1 _=>hc i (by omega)) hfr.fz,
  h.rk_stay (fun k hk hS=>hfr.block k hk (h.dk k hS).2.2 (fun h0=>(hd k h0).2 hS)),h.ik,?_,?_,?_,fun k hk=>Nat.lt_of_lt_of_le (h.b1 k hk) hfr.size,fun k hk=>Nat.lt_of_lt_of_le (h.bk k hk) hfr.size,ok⟩
 ·rintro k (h0 |h0) h1
  ·exact h.d01 k h0 h1
  ·have:=h.b1 k h1;omega
 ·intro k hk
  refine ⟨?_,(h.dk k hk).2.1,(h.dk k hk).2.2⟩
  rintro (h0 |h0)
  ·exact (h.dk k hk).1 h0
  ·have:=h.bk k hk;omega
 ·rintro k (h0 |h0)
  ·exact Nat.lt_of_lt_of_le (h.b0 k h0) hfr.size
  ·exact h0.2
theorem DiskP.file1g(h:DiskP w p P d){ao:Option Addr}{cap m:Nat}{F:FS}{S2:Nat→Prop}(hF:FileAt w' p 6 (From P.S1 w) ao cap m F)(hfr:FFrame w w' p 6 S2)(hd:∀ k,S2 k→¬P.S0 k∧¬P.SK k)(ok:{ d with f1:=F }.Ok) :
  DiskP w' p { P with S1:=Between P.S1 w w',a1:=ao,k1:=cap,m1:=m } { d with f1:=F }:=by
 have hc:∀ i,(i<6∨8<i)→w'.cell? ⟨p,i,none⟩=w.cell? ⟨p,i,none⟩:=fun i hi=>hfr.cell i (by omega) (by omega) (by omega)
 refine ⟨(hc 0 (by omega)).trans h.c0,(hc 1 (by omega)).trans h.c1,(hc 2 (by omega)).trans h.c2,(hc 9 (by omega)).trans h.c9,(hc 10 (by omega)).trans h.c10,(hc 11 (by omega)).trans h.c11,fun i=>(hfr.fz i).trans (h.fz i),
  h.f0.stay (fun k hk hS=>hfr.block k hk (fun e=>h.f0.np (e▸hS)) (fun h0=>(hd k h0).1 hS)) (fun i h1 _=>hc i (by omega)) hfr.fz,hF.bound,
  h.rk_stay (fun k hk hS=>hfr.block k hk (h.dk k hS).2.2 (fun h0=>(hd k h0).2 hS)),h.ik,?_,?_,fun k hk=>Nat.lt_of_lt_of_le (h.b0 k hk) hfr.size,?_,fun k hk=>Nat.lt_of_lt_of_le (h.bk k hk) hfr.size,ok⟩
 ·rintro k h1 (h0 |h0)
  ·exact h.d01 k h1 h0
  ·have:=h.b0 k h1;omega
 ·intro k hk
  refine ⟨(h.dk k hk).1,?_,(h.dk k hk).2.2⟩
  rintro (h0 |h0)
  ·exact (h.dk k hk).2.1 h0
  ·have:=h.bk k hk;omega
 ·rintro k (h0 |h0)
  ·exact Nat.lt_of_lt_of_le (h.b1 k h0) hfr.size
  ·exact h0.2
theorem DiskP.file0(h:DiskP w p P d){ao:Option Addr}{cap m:Nat}{F:FS}(hF:FileAt w' p 3 (From P.S0 w) ao cap m F)(hfr:FFrame w w' p 3 P.S0)(ok:{ d with f0:=F }.Ok) :
  DiskP w' p { P with S0:=Between P.S0 w w',a0:=ao,k0:=cap,m0:=m } { d with f0:=F }:=h.file0g hF hfr (fun k h0=>⟨h.d01 k h0,fun hk=>(h.dk k hk).1 h0⟩) ok
theorem DiskP.file1(h:DiskP w p P d){ao:Option Addr}{cap m:Nat}{F:FS}(hF:FileAt w' p 6 (From P.S1 w) ao cap m F)(hfr:FFrame w w' p 6 P.S1)(ok:{ d with f1:=F }.Ok) :
  DiskP w' p { P with S1:=Between P.S1 w w',a1:=ao,k1:=cap,m1:=m } { d with f1:=F }:=h.file1g hF hfr (fun k h0=>⟨fun h1=>h.d01 k h1 h0,fun hk=>(h.dk k hk).2.1 h0⟩) ok
end Dsk
namespace Dsk
open Go.RowKit Go.Maps
theorem made_yes(p r:Nat)(w:World)(hc:w.cell? ⟨p,0,none⟩=some (.int .i64 (r:Int)))(hr:0<r):Calls Tryz.prog 157 #[.pointer (some ⟨p,0,none⟩)] w fun e w'=>e=.returned (.bool true)∧w'=w:=by
 have hr':(0:Int)<(r:Int):=by omega
 go_enter Tryz.func157,Tryz.ntmps157
 go_wp2
 go_ret
 exact ⟨rfl,rfl⟩
def known(f:Int):Bool:=f == 0||f == 1
theorem known_any(f:Int)(w:World):Calls Tryz.prog 166 #[.int .i64 f] w fun e w'=>e=.returned (.bool (known f))∧w'=w:=by
 by_cases h0:f=0
 ·subst h0
  go_enter Tryz.func166,Tryz.ntmps166
  go_wp2
  go_ret
  exact ⟨rfl,rfl⟩
 ·have h0':(f == 0)=false:=by simp [h0]
  by_cases h1:f=1
  ·subst h1
   go_enter Tryz.func166,Tryz.ntmps166
   go_wp2
   go_ret
   exact ⟨rfl,rfl⟩
  ·have h1':(f == 1)=false:=by simp [h1]
   have hk:known f=false:=by simp [known,h0,h1]
   rw [hk]
   go_enter Tryz.func166,Tryz.ntmps166
   go_wp2
   go_ret
   exact ⟨rfl,rfl⟩
theorem fault_off(p:Nat)(P:Parts)(d:DS)(f:Int)(w:World)(h:DiskP w p P d)(ho:d.off=true):Calls Tryz.prog 215 #[.pointer (some ⟨p,0,none⟩),.int .i64 f] w fun e w'=>e=.returned (.int .i64 4)∧w'=w:=by
 have c:=hid (made_yes p d.room w h.c0 h.ok.r1)
 have c1:=h.c1
 rw [ho]at c1
 clear h
 go_enter Tryz.func215,Tryz.ntmps215
 go_wp2_with (go_at_call 157;refine c.out.mono ?_;rintro e w' ⟨rfl,hw⟩;subst hw)
 go_ret
 exact ⟨rfl,rfl⟩
theorem fault_on(p:Nat)(P:Parts)(d:DS)(f:Int)(w:World)(h:DiskP w p P d)(ho:d.off=false):Calls Tryz.prog 215 #[.pointer (some ⟨p,0,none⟩),.int .i64 f] w fun e w'=>e=.returned (.int .i64 (if known f then 0 else 11))∧w'=w:=by
 have c:=hid (made_yes p d.room w h.c0 h.ok.r1)
 have c1:=h.c1
 rw [ho]at c1
 clear h
 cases hk:known f
 ·have ck:=known_any f w
  rw [hk]at ck
  have CK:=hid ck
  clear ck
  go_enter Tryz.func215,Tryz.ntmps215
  go_wp2_with (first |(go_at_call 157;refine c.out.mono ?_;rintro e w' ⟨rfl,hw⟩;subst hw;clear c) |(go_at_call 166;refine CK.out.mono ?_;rintro e w' ⟨rfl,hw⟩;subst hw))
  go_ret
  exact ⟨rfl,rfl⟩
 ·have ck:=known_any f w
  rw [hk]at ck
  have CK:=hid ck
  clear ck
  go_enter Tryz.func215,Tryz.ntmps215
  go_wp2_with (first |(go_at_call 157;refine c.out.mono ?_;rintro e w' ⟨rfl,hw⟩;subst hw;clear c) |(go_at_call 166;refine CK.out.mono ?_;rintro e w' ⟨rfl,hw⟩;subst hw))
  go_ret
  exact ⟨rfl,rfl⟩
theorem on_any(p:Nat)(P:Parts)(d:DS)(w:World)(h:DiskP w p P d):Calls Tryz.prog 329 #[.pointer (some ⟨p,0,none⟩)] w fun e w'=>e=.returned (.bool (!d.off))∧w'=w:=by
 have c:=hid (made_yes p d.room w h.c0 h.ok.r1)
 have c1:=h.c1
 clear h
 go_enter Tryz.func329,Tryz.ntmps329
 go_wp2_with (go_at_call 157;refine c.out.mono ?_;rintro e w' ⟨rfl,hw⟩;subst hw)
 go_ret
 exact ⟨rfl,rfl⟩
theorem room_any(p:Nat)(P:Parts)(d:DS)(w:World)(h:DiskP w p P d):Calls Tryz.prog 101 #[.pointer (some ⟨p,0,none⟩)] w fun e w'=>e=.returned (.int .i64 (d.room:Int))∧w'=w:=by
 have c:=hid (made_yes p d.room w h.c0 h.ok.r1)
 have c1:=h.c0
 clear h
 go_enter Tryz.func101,Tryz.ntmps101
 go_wp2_with (go_at_call 157;refine c.out.mono ?_;rintro e w' ⟨rfl,hw⟩;subst hw)
 go_ret
 exact ⟨rfl,rfl⟩
end Dsk
namespace Dsk
open Go.RowKit Go.Maps
def disarmD(d:DS):DS:={ d with left:=0,keep:=[],torn:=0 }
theorem disarm_raw(p:Nat)(P:Parts)(d:DS)(w:World)(h:DiskP w p P d) :
  Calls Tryz.prog 330 #[.pointer (some ⟨p,0,none⟩)] w fun e w'=>e=.returned (.tuple #[])∧w'=((w.setCell ⟨p,9,none⟩ (.int .i64 0)).setCell ⟨p,10,none⟩ (.slice none 0 0)).setCell ⟨p,11,none⟩ (.int .i64 0):=by
 have c9:=h.c9;have c10:=h.c10;have c11:=h.c11;have f9:=h.fz 9;have f10:=h.fz 10;have f11:=h.fz 11
 clear h
 go_enter Tryz.func330,Tryz.ntmps330
 go_wp2
 go_end0
 exact ⟨rfl,rfl⟩
theorem disarm_any(p:Nat)(P:Parts)(d:DS)(w:World)(h:DiskP w p P d) :
  Calls Tryz.prog 330 #[.pointer (some ⟨p,0,none⟩)] w fun e w'=>e=.returned (.tuple #[])∧DiskP w' p { P with SK:=fun _=>False,ko:=none,kc:=0 } (disarmD d)∧DFrame w w' p (fun _=>False)∧w'.heap.size=w.heap.size:=by
 refine (disarm_raw p P d w h).mono ?_
 rintro e w' ⟨rfl,rfl⟩
 have hb:∀ k,k≠p→(((w.setCell ⟨p,9,none⟩ (.int .i64 0)).setCell ⟨p,10,none⟩ (.slice none 0 0)).setCell ⟨p,11,none⟩ (.int .i64 0)).heap[k]? = w.heap[k]?:=fun k hk=>by
  rw [set_heap _ _ _ _ _ hk,set_heap _ _ _ _ _ hk,set_heap _ _ _ _ _ hk]
 have hz:(((w.setCell ⟨p,9,none⟩ (.int .i64 0)).setCell ⟨p,10,none⟩ (.slice none 0 0)).setCell ⟨p,11,none⟩ (.int .i64 0)).heap.size=w.heap.size:=by simp
 have hc:∀ i,i<9→(((w.setCell ⟨p,9,none⟩ (.int .i64 0)).setCell ⟨p,10,none⟩ (.slice none 0 0)).setCell ⟨p,11,none⟩ (.int .i64 0)).cell? ⟨p,i,none⟩=w.cell? ⟨p,i,none⟩:=fun i hi=>by
  rw [set_off _ _ _ (by omega),set_off _ _ _ (by omega),set_off _ _ _ (by omega)]
 refine ⟨rfl,?_,⟨rfl,rfl,rfl,Nat.le_of_eq hz.symm,fun k _ hk _=>hb k hk⟩,hz⟩
 refine h.turn (d':=disarmD d) (SK:=fun _=>False) (ko:=none) (kc:=0) (Nat.le_of_eq hz.symm) (fun k _ hk=>hb k hk) (fun i _ hi=>hc i (by omega)) (fun i=>by rw [World.frozen?_setCell,World.frozen?_setCell,World.frozen?_setCell]) ((hc 0 (by omega)).trans h.c0) ((hc 1 (by omega)).trans h.c1) ((hc 2 (by omega)).trans h.c2) ?_ ?_ ?_ rfl rfl (fun hp=>by simp [disarmD]at hp) (fun hp=>by simp [disarmD]at hp) (fun _ hk=>False.elim hk) (fun _ hk=>False.elim hk) ?_
 ·rw [set_off _ _ _ (by omega),set_off _ _ _ (by omega)];exact set_same h.c9
 ·rw [set_off _ _ _ (by omega)];exact set_same ((set_off _ _ _ (by omega)).trans h.c10)
 ·exact set_same ((set_off _ _ _ (by omega)).trans ((set_off _ _ _ (by omega)).trans h.c11))
 ·exact ⟨h.ok.r1,h.ok.r2,h.ok.sum,h.ok.ok0,h.ok.ok1,by simp [disarmD],by simp [disarmD],by simp [disarmD],h.ok.op⟩
theorem DiskP.power{w:World}{p:Nat}{P:Parts}{d:DS}(h:DiskP w p P d)(b:Bool):DiskP (w.setCell ⟨p,1,none⟩ (.bool b)) p P { d with off:=b }∧DFrame w (w.setCell ⟨p,1,none⟩ (.bool b)) p (fun _=>False):=by
 have hb:∀ k,k≠p→(w.setCell ⟨p,1,none⟩ (.bool b)).heap[k]? = w.heap[k]?:=fun k hk=>set_heap _ _ _ _ _ hk
 have hc:∀ i,i≠1→(w.setCell ⟨p,1,none⟩ (.bool b)).cell? ⟨p,i,none⟩=w.cell? ⟨p,i,none⟩:=fun i hi=>set_off _ _ _ (Ne.symm hi)
 have hz:(w.setCell ⟨p,1,none⟩ (.bool b)).heap.size=w.heap.size:=by simp
 exact ⟨h.turn (d':={ d with off:=b }) (Nat.le_of_eq hz.symm) (fun k _ hk=>hb k hk) (fun i _ _=>hc i (by omega)) (fun i=>World.frozen?_setCell _ _ _ _) ((hc 0 (by omega)).trans h.c0) (set_same h.c1) ((hc 2 (by omega)).trans h.c2) ((hc 9 (by omega)).trans h.c9) ((hc 10 (by omega)).trans h.c10) ((hc 11 (by omega)).trans h.c11) rfl rfl
  (h.rk_stay (fun k _ hS=>hb k (h.dk k hS).2.2)) h.ik h.dk (fun k hk=>by rw [hz];exact h.bk k hk) ⟨h.ok.r1,h.ok.r2,h.ok.sum,h.ok.ok0,h.ok.ok1,h.ok.kl,h.ok.tn,h.ok.lf,h.ok.op⟩,
  ⟨rfl,rfl,rfl,Nat.le_of_eq hz.symm,fun k _ hk _=>hb k hk⟩⟩
def Grew(P:Parts)(w:World)(P':Parts):Prop:=∀ k,P'.all k→From P.all w k
theorem spare_any(p:Nat)(P:Parts)(d:DS)(w:World)(h:DiskP w p P d) :
  Calls Tryz.prog 316 #[.pointer (some ⟨p,0,none⟩)] w fun e w'=>e=.returned (.int .i64 ((d.room:Int) - (d.f0.now.length:Int) - (d.f1.now.length:Int)))∧∃ n,w'=w.drewN n:=by
 have c0:=h.c0;have c3:=h.f0.c0;have c6:=h.f1.c0
 have r2:=h.ok.r2;have hs:=h.ok.sum
 clear h
 generalize d.f0.now.length=A at *
 generalize d.f1.now.length=B at *
 generalize d.room=R at *
 go_enter Tryz.func316,Tryz.ntmps316
 go_wp2_with fail
 go_quiet (fail)
 go_wp2
 go_ret
 exact ⟨rfl,_,rfl⟩
end Dsk
namespace Dsk
open Go.RowKit Go.Maps
def crashD(d:DS)(keep:List Bool)(torn:Int):DS:=
 { disarmD d with off:=true,f0:=crashF d.f0 ⟨keep,0,clip torn⟩,f1:=crashF d.f1 (crashS d.f0 ⟨keep,0,clip torn⟩) }
theorem clip_le(t:Int):clip t≤128:=by
 unfold clip
 split
 ·omega
 ·split<;>omega
theorem StayAt.move{w:World}{cb ib tb:Nat}{T T':Nat→Prop}{s:Stay}(h:StayAt w cb ib tb T s)(hT:∀ k,k<w.heap.size→T k→T' k):StayAt w cb ib tb T' s:=by
 obtain ⟨ko,kc,c0,hrd,hTa⟩:=h.c0
 refine ⟨⟨ko,kc,c0,hrd,fun hp a ha=>⟨?_,(hTa hp a ha).2⟩⟩,h.ci,h.ct,h.fi,h.ft,h.it,h.ic,h.tc,hT cb (lt_cell c0) h.tcb,hT ib (lt_cell h.ci) h.tib,hT tb (lt_cell h.ct) h.ttb⟩
 obtain ⟨b,off,e,hc⟩:=hrd hp
 rw [ha]at e
 cases e
 exact hT b (lt_cell (hc 0 hp)) (hTa hp _ ha).1
theorem crash_ok{d:DS}(h:d.Ok)(keep:List Bool)(torn:Int):(crashD d keep torn).Ok:=by
 have hc:=clip_le torn
 have h0:=crashF_len h.ok0 (s:=⟨keep,0,clip torn⟩) hc
 have hs:=crashS_facts h.ok0 (s:=⟨keep,0,clip torn⟩) hc
 have h1:=crashF_len h.ok1 (s:=crashS d.f0 ⟨keep,0,clip torn⟩) hs.1
 have:=h.sum
 exact ⟨h.r1,h.r2,by simp only [crashD,disarmD];omega,crashF_ok h.ok0 hc,crashF_ok h.ok1 hs.1,by simp [crashD,disarmD],by simp [crashD,disarmD],by simp [crashD,disarmD],h.op⟩
theorem crash_on(p:Nat)(P:Parts)(d:DS)(ko:Option Addr)(kc:Nat)(keep:List Bool)(t:Int)(w:World)(h:DiskP w p P d)(ho:d.off=false)
  (hrd:RdB w ko keep) (hl:keep.length≤100) (ht : -9223372036854775808≤t∧t≤9223372036854775807) (hap:0<keep.length→∀ a,ko=some a→¬P.S0 a.block∧¬P.S1 a.block∧a.block≠p) :
  Calls Tryz.prog 310 #[.pointer (some ⟨p,0,none⟩),.agg #[.slice ko keep.length kc,.int .i64 t]] w fun e w'=>e=.returned (.bool true)∧(∃ P',DiskP w' p P' (crashD d keep t)∧Grew P w P')∧DFrame w w' p P.all:=by
 have hpl:=h.f0.plt
 obtain ⟨l,hll⟩:∃ l,l=keep.length:=⟨_,rfl⟩
 have HL:=hid hll
 rw [←hll]
 clear hll
 -- the box
 obtain ⟨w1,hw1⟩:∃ w1,w1=w.alloc (.cells #[.slice ko l kc,.int .i64 t] 190):=⟨_,rfl⟩
 have hb1:Below w.heap.size w w1:=by rw [hw1];exact (Below.refl _ _).alloc (Nat.le_refl _) _
 have h1:=h.later hb1
 have con:=on_any p P d _ h1
 rw [ho]at con
 have CON:=hid con
 -- the power goes
 obtain ⟨h2,fr2⟩:=h1.power true
 obtain ⟨w2,hw2⟩:∃ w2,w2=w1.setCell ⟨p,1,none⟩ (.bool true):=⟨_,rfl⟩
 rw [←hw2]at h2 fr2
 have cd:=hid (disarm_any p P _ w2 h2)
 have c1:=h1.c1;have f1:=h1.fz 1
 have hk1:w1.cell? ⟨w.heap.size,0,none⟩=some (.slice ko l kc):=by rw [hw1,World.cell?_alloc_at _ _ _ _ rfl];rfl
 have hk2:w1.cell? ⟨w.heap.size,1,none⟩=some (.int .i64 t):=by rw [hw1,World.cell?_alloc_at _ _ _ _ rfl];rfl
 have H:=hid h;have HRD:=hid hrd;have HAP:=hid hap;have HB1:=hid hb1;have FR2:=hid fr2;have HK1:=hid hk1;have HK2:=hid hk2
 have HW1:=hid hw1;have HW2:=hid hw2
 have hne:¬p=w.heap.size:=by omega
 clear h h1 h2 fr2 hrd hap hb1 con hk1 hk2 hw1 hw2
 go_enter Tryz.func310,Tryz.ntmps310
 go_wp2_with (first
  | (go_at_call 329;rw [←HW1.out];refine CON.out.mono ?_;rintro e w' ⟨rfl,hw⟩;subst hw;clear CON)
  | (go_at_call 330;rw [←HW2.out];refine cd.out.mono ?_;rintro e w3 ⟨rfl,hd3,hfr3,hz3⟩;have hk3:w3.cell? ⟨w.heap.size,0,none⟩=some (.slice ko l kc):=(World.cell?_of_block ((hfr3.block w.heap.size (by rw [HW2.out,HW1.out];simp) (Ne.symm hne) (fun h=>h)).trans (by rw [HW2.out];exact set_heap _ _ _ _ _ (Ne.symm hne)))).trans HK1.out;have hk4:w3.cell? ⟨w.heap.size,1,none⟩=some (.int .i64 t):=(World.cell?_of_block ((hfr3.block w.heap.size (by rw [HW2.out,HW1.out];simp) (Ne.symm hne) (fun h=>h)).trans (by rw [HW2.out];exact set_heap _ _ _ _ _ (Ne.symm hne)))).trans HK2.out;replace hd3:=hid hd3;replace hfr3:=hid hfr3)
  | (go_at_call 331;have hb3:∀ k,k<w.heap.size→k≠p→w3.heap[k]? = w.heap[k]?:=(fun k hk hkp=>((hfr3.out.block k (by rw [HW2.out,HW1.out];simp;omega) hkp (fun h=>h)).trans (by rw [HW2.out];exact set_heap _ _ _ _ _ hkp)).trans (HB1.out.block k hk));have hrd3:RdB w3 ko keep:=(by intro hp;obtain ⟨b,off,e,hc⟩:=HRD.out hp;exact ⟨b,off,e,fun t ht=>(World.cell?_of_block (a:=⟨b,off+t,none⟩) (hb3 b (lt_cell (hc 0 hp)) (HAP.out hp _ e).2.2)).trans (hc t ht)⟩);have c51:=stays_any ko kc keep t w3 hrd3 ht (fun k=>0<keep.length∧∃ a,ko=some a∧k=a.block) (fun hp a ha=>⟨hp,a,ha,rfl⟩);rw [←HL.out]at c51;refine c51.mono ?_;rintro e w4 ⟨cb,ib,tb,rfl,hst4,hb4,hib,htb,hcb⟩;replace hst4:=hid (hst4.move (T':=Between (fun k=>0<keep.length∧∃ a,ko=some a∧k=a.block) w3 w4) (fun k hk hT=>by rcases hT with h | h;exact Or.inl ⟨by rw [←HL.out];exact h.1,h.2⟩;exact Or.inr ⟨h,hk⟩));replace hb4:=hid hb4;replace hb3:=hid hb3;replace hrd3:=hid hrd3;clear c51))
 have hd4:=hd3.out.later hb4.out
 have hzw:w.heap.size≤w3.heap.size:=by rw [hz3,HW2.out,HW1.out];simp
 have hT4:∀ k,Between (fun k=>0<keep.length∧∃ a,ko=some a∧k=a.block) w3 w4 k→k<w4.heap.size∧¬P.S0 k∧¬P.S1 k∧k≠p:=by
  rintro k (⟨hp,a,ha,rfl⟩ | ⟨h1,h2⟩)
  ·obtain ⟨b,off,e,hc⟩:=HRD.out hp
   have:=HAP.out hp a ha
   rw [ha]at e
   cases e
   have hbl:b<w.heap.size:=lt_cell (hc 0 hp)
   exact ⟨Nat.lt_of_lt_of_le hbl (Nat.le_trans hzw hb4.out.size),this.1,this.2.1,this.2.2⟩
  ·exact ⟨h2,fun h=>by have:=H.out.b0 k h;omega,fun h=>by have:=H.out.b1 k h;omega,by omega⟩
 have hib4:=hT4 ib hst4.out.tib;have htb4:=hT4 tb hst4.out.ttb
 have hk:=clip_le t
 have hsum:=H.out.ok.sum;have hroom:=H.out.ok.r2
 have cr0:=crash_any p 3 P.S0 _ _ _ d.f0 cb ib tb _ ⟨keep,0,clip t⟩ w4 hd4.f0 H.out.ok.ok0 (by omega) hd4.b0 hst4.out (fun k hk=>⟨(hT4 k hk).1,(hT4 k hk).2.1,(hT4 k hk).2.2.2⟩) (by simp only;omega) hl hk
 have CR0:=hid cr0;have HD4:=hid hd4;have HT4:=hid hT4;have HIB:=hid hib4;have HTB:=hid htb4;have HZW:=hid hzw;have HK:=hid hk
 clear cr0 hd4 hT4 hib4 htb4 hzw hk cd c1 f1 hk3 hk4
 refine wp_loop_rounds 3 ?_
 rw [rounds_succ]
 go_wp2_with (go_at_call 332;refine CR0.out.mono ?_;rintro e w5 ⟨rfl,ao5,cap5,m5,hF5,hst5,hfr5⟩;clear CR0;replace hF5:=hid hF5;replace hst5:=hid hst5;replace hfr5:=hid hfr5)
 have hs5:=crashS_facts H.out.ok.ok0 (s:=⟨keep,0,clip t⟩) HK.out
 have hl5:=crashF_len H.out.ok.ok0 (s:=⟨keep,0,clip t⟩) HK.out
 have hd5:=HD4.out.file0g hF5.out hfr5.out (fun k hk=>by
  rcases hk with h |h |h
  ·exact ⟨HD4.out.d01 k h,fun hk=>hk⟩
  ·exact ⟨fun hk=>HIB.out.2.2.1 (h▸hk),fun hk=>hk⟩
  ·exact ⟨fun hk=>HTB.out.2.2.1 (h▸hk),fun hk=>hk⟩) ⟨H.out.ok.r1,H.out.ok.r2,by simp only [disarmD];omega,crashF_ok H.out.ok.ok0 HK.out,H.out.ok.ok1,by simp [disarmD],by simp [disarmD],by simp [disarmD],H.out.ok.op⟩
 have hT5:∀ k,Between (fun k=>0<keep.length∧∃ a,ko=some a∧k=a.block) w3 w4 k→k<w5.heap.size∧¬P.S1 k∧k≠p:=fun k hk=>⟨Nat.lt_of_lt_of_le (HT4.out k hk).1 hfr5.out.size,(HT4.out k hk).2.2.1,(HT4.out k hk).2.2.2⟩
 have hix:(idx d.f0.dirt).length≤d.f0.now.length:=by have:=idx_le d.f0.dirt;rw [H.out.ok.ok0.ld]at this;exact this
 have cr1:=crash_any p 6 P.S1 _ _ _ d.f1 cb ib tb _ (crashS d.f0 ⟨keep,0,clip t⟩) w5 hd5.f1 H.out.ok.ok1 (by omega) hd5.b1 hst5.out hT5 (by rw [hs5.2.2];simp only;omega) (by rw [hs5.2.1];exact hl) hs5.1
 have CR1:=hid cr1;have HD5:=hid hd5;have HS5:=hid hs5;have HL5:=hid hl5
 clear cr1 hd5 hT5 hs5 hl5 hix
 rw [rounds_succ]
 go_wp2_with (go_at_call 332;refine CR1.out.mono ?_;rintro e w6 ⟨rfl,ao6,cap6,m6,hF6,hst6,hfr6⟩;clear CR1;replace hF6:=hid hF6;replace hfr6:=hid hfr6)
 rw [rounds_succ]
 go_wp2
 go_ret
 have hok:=crash_ok H.out.ok keep t
 have hd6:=HD5.out.file1g hF6.out hfr6.out (fun k hk=>by
  have hpl5:p<w5.heap.size:=HD5.out.f0.plt
  rcases hk with h |h |h
  ·exact ⟨fun h0=>HD5.out.d01 k h0 h,fun hk=>hk⟩
  ·refine ⟨fun h0=>?_,fun hk=>hk⟩
   rcases h0 with h0 |h0
   ·exact HIB.out.2.1 (h▸h0)
   ·have:=HIB.out.1;omega
  ·refine ⟨fun h0=>?_,fun hk=>hk⟩
   rcases h0 with h0 |h0
   ·exact HTB.out.2.1 (h▸h0)
   ·have:=HTB.out.1;omega) hok
 refine ⟨rfl,⟨_,hd6,?_⟩,?_⟩
 ·have z4:=hb4.out.size;have z5:=hfr5.out.size;have zw:=HZW.out
  intro k hk
  rcases hk with (h |h) |(h |h) |h
  ·exact Or.inl (Or.inl h)
  ·exact Or.inr (by omega)
  ·exact Or.inl (Or.inr (Or.inl h))
  ·exact Or.inr (by omega)
  ·exact h.elim
 ·have z4:=hb4.out.size;have z5:=hfr5.out.size;have zw:=HZW.out
  have e1:DFrame w w' p P.all:=DFrame.below HB1.out
  have e2:=e1.trans ((FR2.out.trans (hfr3.out.imp (fun _ _ h=>h.elim))).imp (fun _ _ h=>h.elim))
  have e3:=e2.trans (DFrame.below hb4.out)
  have e4:=e3.trans (hfr5.out.df.imp (fun k _ hk=>by
   rcases hk with h |h |h
   ·exact Or.inl (Or.inl h)
   ·exact Or.inr (by omega)
   ·exact Or.inr (by omega)))
  exact e4.trans (hfr6.out.df.imp (fun k _ hk=>by
   rcases hk with h |h |h
   ·exact Or.inl (Or.inr (Or.inl h))
   ·exact Or.inr (by omega)
   ·exact Or.inr (by omega)))
end Dsk
namespace Dsk
open Go.RowKit Go.Maps
def opsD(d:DS):DS:={ d with ops:=d.ops+1 }
def tickD(d:DS):DS:={ d with ops:=d.ops+1,left:=d.left - 1 }
variable {d:DS} {P:Parts} {p:Nat} {w:World}
theorem DiskP.count(h:DiskP w p P d)(n:Nat)(hn:n≤1000000000):DiskP (w.setCell ⟨p,2,none⟩ (.int .i64 (n:Int))) p P { d with ops:=n }∧DFrame w (w.setCell ⟨p,2,none⟩ (.int .i64 (n:Int))) p (fun _=>False):=by
 have hb:∀ k,k≠p→(w.setCell ⟨p,2,none⟩ (.int .i64 (n:Int))).heap[k]? = w.heap[k]?:=fun k hk=>set_heap _ _ _ _ _ hk
 have hc:∀ i,i≠2→(w.setCell ⟨p,2,none⟩ (.int .i64 (n:Int))).cell? ⟨p,i,none⟩=w.cell? ⟨p,i,none⟩:=fun i hi=>set_off _ _ _ (Ne.symm hi)
 have hz:(w.setCell ⟨p,2,none⟩ (.int .i64 (n:Int))).heap.size=w.heap.size:=by simp
 exact ⟨h.turn (d':={ d with ops:=n }) (Nat.le_of_eq hz.symm) (fun k _ hk=>hb k hk) (fun i _ _=>hc i (by omega)) (fun i=>World.frozen?_setCell _ _ _ _) ((hc 0 (by omega)).trans h.c0) ((hc 1 (by omega)).trans h.c1) (set_same h.c2) ((hc 9 (by omega)).trans h.c9) ((hc 10 (by omega)).trans h.c10) ((hc 11 (by omega)).trans h.c11) rfl rfl
  (h.rk_stay (fun k _ hS=>hb k (h.dk k hS).2.2)) h.ik h.dk (fun k hk=>by rw [hz];exact h.bk k hk) ⟨h.ok.r1,h.ok.r2,h.ok.sum,h.ok.ok0,h.ok.ok1,h.ok.kl,h.ok.tn,h.ok.lf,hn⟩,
  ⟨rfl,rfl,rfl,Nat.le_of_eq hz.symm,fun k _ hk _=>hb k hk⟩⟩
theorem DiskP.toGo(h:DiskP w p P d)(n:Nat)(hn:n≤9223372036854775807):DiskP (w.setCell ⟨p,9,none⟩ (.int .i64 (n:Int))) p P { d with left:=n }∧DFrame w (w.setCell ⟨p,9,none⟩ (.int .i64 (n:Int))) p (fun _=>False):=by
 have hb:∀ k,k≠p→(w.setCell ⟨p,9,none⟩ (.int .i64 (n:Int))).heap[k]? = w.heap[k]?:=fun k hk=>set_heap _ _ _ _ _ hk
 have hc:∀ i,i≠9→(w.setCell ⟨p,9,none⟩ (.int .i64 (n:Int))).cell? ⟨p,i,none⟩=w.cell? ⟨p,i,none⟩:=fun i hi=>set_off _ _ _ (Ne.symm hi)
 have hz:(w.setCell ⟨p,9,none⟩ (.int .i64 (n:Int))).heap.size=w.heap.size:=by simp
 exact ⟨h.turn (d':={ d with left:=n }) (Nat.le_of_eq hz.symm) (fun k _ hk=>hb k hk) (fun i _ _=>hc i (by omega)) (fun i=>World.frozen?_setCell _ _ _ _) ((hc 0 (by omega)).trans h.c0) ((hc 1 (by omega)).trans h.c1) ((hc 2 (by omega)).trans h.c2) (set_same h.c9) ((hc 10 (by omega)).trans h.c10) ((hc 11 (by omega)).trans h.c11) rfl rfl
  (h.rk_stay (fun k _ hS=>hb k (h.dk k hS).2.2)) h.ik h.dk (fun k hk=>by rw [hz];exact h.bk k hk) ⟨h.ok.r1,h.ok.r2,h.ok.sum,h.ok.ok0,h.ok.ok1,h.ok.kl,h.ok.tn,hn,h.ok.op⟩,
  ⟨rfl,rfl,rfl,Nat.le_of_eq hz.symm,fun k _ hk _=>hb k hk⟩⟩
theorem operate_crash(p:Nat)(P:Parts)(d:DS)(fv:Value)(w:World)(h:DiskP w p P d)(ho:d.off=false)(hl:d.left=1)(hop:d.ops<1000000000) :
  Calls Tryz.prog 267 #[.pointer (some ⟨p,0,none⟩),fv] w fun e w'=>e=.returned (.int .i64 4)∧(∃ P',DiskP w' p P' (crashD (opsD d) d.keep d.torn)∧Grew P w P')∧DFrame w w' p P.all:=by
 obtain ⟨h1,fr1⟩:=h.count (d.ops+1) (by omega)
 have e1:((d.ops+1:Nat):Int)=(d.ops:Int)+1:=by omega
 rw [e1]at h1 fr1
 have cc:=crash_on p P _ P.ko P.kc d.keep d.torn _ h1 ho h1.rk h1.ok.kl h1.ok.tn (fun hp a ha=>h.dk _ (h.ik hp a ha))
 have CC:=hid cc;have FR:=hid fr1
 have c2:=h.c2;have f2:=h.fz 2;have c9:=h.c9;have c10:=h.c10;have c11:=h.c11
 rw [hl]at c9
 clear cc h1 fr1
 have hop':(d.ops:Int)<1000000000:=by omega
 clear h
 generalize P.ko=ko at *
 generalize P.kc=kc at *
 go_enter Tryz.func267,Tryz.ntmps267
 go_wp2_with (go_at_call 310;refine CC.out.mono ?_;rintro e w2 ⟨rfl,hd,hfr⟩;replace hd:=hid hd;replace hfr:=hid hfr)
 go_ret
 obtain ⟨P',hd',hg⟩:=hd.out
 exact ⟨rfl,⟨P',hd',fun k hk=>by rcases hg k hk with h |h;exact Or.inl h;exact Or.inr (by simpa using h)⟩,(FR.out.imp (fun _ _ h=>h.elim)).trans (hfr.out.imp (fun _ _ h=>Or.inl h))⟩
theorem operate_do(p:Nat)(P:Parts)(d:DS)(q:Nat)(bb:Array Value)(w:World)(h:DiskP w p P d)(hl:d.left≠1)(hop:d.ops<1000000000)(eq:∀ args w,(callFunc q args).run Tryz.prog w=.ok (.enter q args) w)(R:Int→World→Prop)
  (hdo:∀ w1,DiskP w1 p P (tickD d)→DFrame w w1 p (fun _=>False)→Calls Tryz.prog q bb w1 fun e w'=>∃ x,e=.returned (.int .i64 x)∧R x w') :
  Calls Tryz.prog 267 #[.pointer (some ⟨p,0,none⟩),.func (.func q) #[] bb] w fun e w'=>∃ x,e=.returned (.int .i64 x)∧R x w':=by
 obtain ⟨h1,fr1⟩:=h.count (d.ops+1) (by omega)
 have e1:((d.ops+1:Nat):Int)=(d.ops:Int)+1:=by omega
 rw [e1]at h1 fr1
 have c2:=h.c2;have f2:=h.fz 2;have c9:=h.c9;have f9:=h.fz 9
 have hlf:=h.ok.lf
 have hl1:((d.left:Int) == 1)=false:=by simp;omega
 by_cases h0:d.left=0
 ·have hd0:tickD d = { d with ops:=d.ops+1 }:=by simp [tickD,h0]
  rw [hd0]at hdo
  have C:=hid (hdo _ h1 fr1)
  rw [h0]at c9
  clear hdo h1 fr1 h hl1
  generalize d.ops=n at *
  go_enter Tryz.func267,Tryz.ntmps267
  go_wp2_with (go_at_fn q;refine C.out.mono ?_;rintro e w2 ⟨x,rfl,hR⟩;replace hR:=hid hR)
  go_ret
  exact ⟨x,rfl,hR.out⟩
 ·obtain ⟨h2,fr2⟩:=h1.toGo (d.left - 1) (by omega)
  have e2:((d.left - 1:Nat):Int)=(d.left:Int) - 1:=by omega
  rw [e2]at h2 fr2
  have C:=hid (hdo _ h2 (fr1.trans (fr2.imp (fun _ _ h=>h.elim))))
  have h0':(0:Int)<(d.left:Int):=by omega
  have hlf':(d.left:Int)≤9223372036854775807:=by omega
  clear hdo h1 fr1 h2 fr2 h
  generalize d.ops=n at *
  generalize d.left=m at *
  go_enter Tryz.func267,Tryz.ntmps267
  go_wp2_with (go_at_fn q;refine C.out.mono ?_;rintro e w2 ⟨x,rfl,hR⟩;replace hR:=hid hR)
  go_ret
  exact ⟨x,rfl,hR.out⟩
end Dsk
namespace Dsk
open Go.RowKit Go.Maps
theorem wrN_ok:∀ (ss:List Sec) {F:FS} (_:F.Ok) {i:Nat} (_:i≤F.now.length) (_:∀ x∈ss,x.length=128),(wrN F i ss).Ok∧(wrN F i ss).now.length=max F.now.length (i+ss.length)
 | [],F,ok,i,hi,_=>⟨ok,by simp [wrN];omega⟩
 | s::r,F,ok,i,hi,hs=>by
  have hl:=wr1_len F i s hi
  have hl2:(wr1 F i s).now.length=max F.now.length (i+1):=by
   unfold wr1
   split
   ·simp;omega
   ·simp;omega
  have:=wrN_ok r (wr1_ok ok hi (hs s List.mem_cons_self)) (i:=i+1) hl.2 (fun x hx=>hs x (List.mem_cons_of_mem _ hx))
  refine ⟨this.1,?_⟩
  rw [wrN,this.2,hl2,List.length_cons]
  omega
variable {p:Nat} {w:World}
theorem DiskP.drawn{P:Parts}{d:DS}(h:DiskP w p P d)(n:Nat):DiskP (w.drewN n) p P d:=h.stay (Nat.le_refl _) (fun _ _ _=>rfl)
theorem FFrame.undrewN{w':World}{n o:Nat}{S:Nat→Prop}(h:FFrame (w.drewN n) w' p o S):FFrame w w' p o S:=⟨h.os,h.tape,h.output,h.size,h.block,h.cell,h.fz⟩
def fullD(d:DS)(len n:Nat):Bool:=decide ((d.room:Int) - (d.f0.now.length:Int) - (d.f1.now.length:Int)<(n:Int) - (len:Int))
theorem write1_0(p:Nat)(P:Parts)(d:DS)(xa xb xf xd:Nat)(at_:Nat)(bo:Option Addr)(bn bc:Nat)(ss:List Sec)(w:World)(h:DiskP w p P d)
  (ca:w.cell? ⟨xa,0,none⟩=some (.int .i64 (at_:Int))) (cb:w.cell? ⟨xb,0,none⟩=some (.slice bo bn bc)) (cf:w.cell? ⟨xf,0,none⟩=some (.pointer (some ⟨p,3,none⟩))) (cd:w.cell? ⟨xd,0,none⟩=some (.pointer (some ⟨p,0,none⟩)))
  (hat:at_≤d.f0.now.length) (hss:∀ x∈ss,x.length=128) (hsl:ss.length≤1000) (hn:bn=ss.length*128) (hb:∀ w',FFrame w w' p 3 P.S0→Rd w' bo bn bc ss.flatten) :
  Calls Tryz.prog 315 #[.pointer (some ⟨xa,0,none⟩),.pointer (some ⟨xb,0,none⟩),.pointer (some ⟨xf,0,none⟩),.pointer (some ⟨xd,0,none⟩)] w fun e w'=>∃ x,e=.returned (.int .i64 x) ∧
   (x=(if fullD d d.f0.now.length (at_+ss.length) then 3 else 0)∧(∃ P',DiskP w' p P' (if fullD d d.f0.now.length (at_+ss.length) then d else { d with f0:=wrN d.f0 at_ ss })∧Grew P w P')∧DFrame w w' p P.all):=by
 have hr2:=h.ok.r2;have hsum:=h.ok.sum
 have hlen:=wrN_ok ss h.ok.ok0 hat hss
 have SP:=hid (fun n=>spare_any p P d (w.drewN n) (h.drawn n))
 have cw:=hid (fun n=>write_any p 3 P.S0 _ _ _ d.f0 at_ bo bn bc ss (w.drewN n) (h.drawn n).f0 h.ok.ok0 hat hss (by omega) (by omega) hn (fun w' hf=>hb w' hf.undrewN))
 have c3:=h.f0.c0
 have H:=hid h
 have HLEN:=hid hlen
 have e1:(bn:Int)=(ss.length:Int)*128:=by omega
 have e2:(bn:Int).tdiv 128=(ss.length:Int):=by rw [e1];exact Int.mul_tdiv_cancel _ (by decide)
 have HBN:Hid ((bn:Int)≤128000):=hid (by omega)
 cases hfl:fullD d d.f0.now.length (at_+ss.length)
 ·have hfl2:¬((d.room:Int) - (d.f0.now.length:Int) - (d.f1.now.length:Int)<(at_:Int)+(ss.length:Int) - (d.f0.now.length:Int)):=by simpa [fullD] using hfl
  have HFL:=hid hfl2
  have hok:{ d with f0:=wrN d.f0 at_ ss }.Ok:=by
   refine ⟨h.ok.r1,h.ok.r2,?_,hlen.1,h.ok.ok1,h.ok.kl,h.ok.tn,h.ok.lf,h.ok.op⟩
   simp only
   rw [hlen.2];omega
  have HOK:=hid hok
  clear h hlen hok hb hss hfl hn e1
  have hbn:(bn:Int)≤128000:=HBN.out
  generalize hRR:(d.room:Int) - (d.f0.now.length:Int) - (d.f1.now.length:Int)=R at *
  generalize hLL:d.f0.now.length=L at *
  have HLL:=hid hLL;have HRR:=hid hRR
  have hR1 : -100000≤R∧R≤100000:=by omega
  clear hLL hRR
  generalize ss.length=ns at *
  go_enter Tryz.func315,Tryz.ntmps315
  go_wp2_with fail
  go_quiet (first |(go_at_call 316;refine Calls.quiet_of (SP.out _)))
  go_wp2_with (go_at_call 317;refine (cw.out _).mono ?_;rintro e w2 ⟨rfl,ao,cap,m,hF,hfr⟩;replace hF:=hid hF;replace hfr:=hid hfr)
  go_ret
  exact ⟨0,rfl,rfl,⟨_,H.out.file0 hF.out hfr.out.undrewN HOK.out,fun k hk=>by rcases hk with (h |h) |h |h;exact Or.inl (Or.inl h);exact Or.inr h.1;exact Or.inl (Or.inr (Or.inl h));exact Or.inl (Or.inr (Or.inr h))⟩,hfr.out.undrewN.df.imp (fun _ _ h=>Or.inl h)⟩
 ·have hfl2:(d.room:Int) - (d.f0.now.length:Int) - (d.f1.now.length:Int)<(at_:Int)+(ss.length:Int) - (d.f0.now.length:Int):=by simpa [fullD] using hfl
  clear h hlen hb hss hfl hn e1 cw HLEN
  have hbn:(bn:Int)≤128000:=HBN.out
  generalize hRR:(d.room:Int) - (d.f0.now.length:Int) - (d.f1.now.length:Int)=R at *
  generalize hLL:d.f0.now.length=L at *
  have HLL:=hid hLL;have HRR:=hid hRR
  have hR1 : -100000≤R∧R≤100000:=by omega
  clear hLL hRR
  generalize ss.length=ns at *
  go_enter Tryz.func315,Tryz.ntmps315
  go_wp2_with fail
  go_quiet (first |(go_at_call 316;refine Calls.quiet_of (SP.out _)))
  go_wp2
  go_ret
  exact ⟨3,rfl,rfl,⟨P,H.out.drawn nq,fun k hk=>Or.inl hk⟩,⟨rfl,rfl,rfl,Nat.le_refl _,fun _ _ _ _=>rfl⟩⟩
theorem write1_1(p:Nat)(P:Parts)(d:DS)(xa xb xf xd:Nat)(at_:Nat)(bo:Option Addr)(bn bc:Nat)(ss:List Sec)(w:World)(h:DiskP w p P d)
  (ca:w.cell? ⟨xa,0,none⟩=some (.int .i64 (at_:Int))) (cb:w.cell? ⟨xb,0,none⟩=some (.slice bo bn bc)) (cf:w.cell? ⟨xf,0,none⟩=some (.pointer (some ⟨p,6,none⟩))) (cd:w.cell? ⟨xd,0,none⟩=some (.pointer (some ⟨p,0,none⟩)))
  (hat:at_≤d.f1.now.length) (hss:∀ x∈ss,x.length=128) (hsl:ss.length≤1000) (hn:bn=ss.length*128) (hb:∀ w',FFrame w w' p 6 P.S1→Rd w' bo bn bc ss.flatten) :
  Calls Tryz.prog 315 #[.pointer (some ⟨xa,0,none⟩),.pointer (some ⟨xb,0,none⟩),.pointer (some ⟨xf,0,none⟩),.pointer (some ⟨xd,0,none⟩)] w fun e w'=>∃ x,e=.returned (.int .i64 x) ∧
   (x=(if fullD d d.f1.now.length (at_+ss.length) then 3 else 0)∧(∃ P',DiskP w' p P' (if fullD d d.f1.now.length (at_+ss.length) then d else { d with f1:=wrN d.f1 at_ ss })∧Grew P w P')∧DFrame w w' p P.all):=by
 have hr2:=h.ok.r2;have hsum:=h.ok.sum
 have hlen:=wrN_ok ss h.ok.ok1 hat hss
 have SP:=hid (fun n=>spare_any p P d (w.drewN n) (h.drawn n))
 have cw:=hid (fun n=>write_any p 6 P.S1 _ _ _ d.f1 at_ bo bn bc ss (w.drewN n) (h.drawn n).f1 h.ok.ok1 hat hss (by omega) (by omega) hn (fun w' hf=>hb w' hf.undrewN))
 have c3:=h.f1.c0
 have H:=hid h
 have HLEN:=hid hlen
 have e1:(bn:Int)=(ss.length:Int)*128:=by omega
 have e2:(bn:Int).tdiv 128=(ss.length:Int):=by rw [e1];exact Int.mul_tdiv_cancel _ (by decide)
 have HBN:Hid ((bn:Int)≤128000):=hid (by omega)
 cases hfl:fullD d d.f1.now.length (at_+ss.length)
 ·have hfl2:¬((d.room:Int) - (d.f0.now.length:Int) - (d.f1.now.length:Int)<(at_:Int)+(ss.length:Int) - (d.f1.now.length:Int)):=by simpa [fullD] using hfl
  have HFL:=hid hfl2
  have hok:{ d with f1:=wrN d.f1 at_ ss }.Ok:=by
   refine ⟨h.ok.r1,h.ok.r2,?_,h.ok.ok0,hlen.1,h.ok.kl,h.ok.tn,h.ok.lf,h.ok.op⟩
   simp only
   rw [hlen.2];omega
  have HOK:=hid hok
  clear h hlen hok hb hss hfl hn e1
  have hbn:(bn:Int)≤128000:=HBN.out
  generalize hRR:(d.room:Int) - (d.f0.now.length:Int) - (d.f1.now.length:Int)=R at *
  generalize hLL:d.f1.now.length=L at *
  have HLL:=hid hLL;have HRR:=hid hRR
  have hR1 : -100000≤R∧R≤100000:=by omega
  clear hLL hRR
  generalize ss.length=ns at *
  go_enter Tryz.func315,Tryz.ntmps315
  go_wp2_with fail
  go_quiet (first |(go_at_call 316;refine Calls.quiet_of (SP.out _)))
  go_wp2_with (go_at_call 317;refine (cw.out _).mono ?_;rintro e w2 ⟨rfl,ao,cap,m,hF,hfr⟩;replace hF:=hid hF;replace hfr:=hid hfr)
  go_ret
  exact ⟨0,rfl,rfl,⟨_,H.out.file1 hF.out hfr.out.undrewN HOK.out,fun k hk=>by rcases hk with h |(h |h) |h;exact Or.inl (Or.inl h);exact Or.inl (Or.inr (Or.inl h));exact Or.inr h.1;exact Or.inl (Or.inr (Or.inr h))⟩,hfr.out.undrewN.df.imp (fun _ _ h=>Or.inr (Or.inl h))⟩
 ·have hfl2:(d.room:Int) - (d.f0.now.length:Int) - (d.f1.now.length:Int)<(at_:Int)+(ss.length:Int) - (d.f1.now.length:Int):=by simpa [fullD] using hfl
  clear h hlen hb hss hfl hn e1 cw HLEN
  have hbn:(bn:Int)≤128000:=HBN.out
  generalize hRR:(d.room:Int) - (d.f0.now.length:Int) - (d.f1.now.length:Int)=R at *
  generalize hLL:d.f1.now.length=L at *
  have HLL:=hid hLL;have HRR:=hid hRR
  have hR1 : -100000≤R∧R≤100000:=by omega
  clear hLL hRR
  generalize ss.length=ns at *
  go_enter Tryz.func315,Tryz.ntmps315
  go_wp2_with fail
  go_quiet (first |(go_at_call 316;refine Calls.quiet_of (SP.out _)))
  go_wp2
  go_ret
  exact ⟨3,rfl,rfl,⟨P,H.out.drawn nq,fun k hk=>Or.inl hk⟩,⟨rfl,rfl,rfl,Nat.le_refl _,fun _ _ _ _=>rfl⟩⟩
end Dsk
end Go.Proofs.YtfcikkechphmaaaGreatDoor
