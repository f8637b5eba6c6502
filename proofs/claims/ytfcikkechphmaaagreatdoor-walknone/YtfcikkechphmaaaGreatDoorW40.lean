/- A heap's pager: blocks that must not turn, pages that are got; no statement of the seat is proved here. -/
import Derived.Test.YtfcikkechphmaaaGreatDoorW17
import Derived.Test.YtfcikkechphmaaaGreatDoorW39
import Derived.WalkMore
import Derived.Deep.LoopGhost
set_option maxHeartbeats 16000000
set_option maxRecDepth 20000
namespace Go.Proofs.YtfcikkechphmaaaGreatDoor
section
open Go.RowKit Go.Maps
open Dsk (gt hid undrew keep_old keep_cell lt_cell Rd)
open Cch (Fr)
open Jrn (Pv2 Row5 numAt RB)
section
variable {arm:Prop} {room croom K:Nat} {p q:Nat} {R:Nat→Prop} {t:RS} {w:World}
def Plus(R:Nat→Prop)(g:Nat):Nat→Prop:=fun b=>R b∨b=g
variable {R':Nat→Prop} {w':World}
theorem PrgAt.more(h:PrgAt arm room croom K w p q R t)(hb:Below w.heap.size w w')(hR:∀ b,R' b→R b∨(w.heap.size≤b∧b<w'.heap.size)):PrgAt arm room croom K w' p q R' t:=by
 obtain ⟨x,P,C,d,s,n,enc,ms,h⟩:=h
 refine ⟨x,P,C,d,s,n,enc,ms,h.live.later hb,h.q,h.busy,h.com,h.mb,h.mr,fun b hb' hr=>?_,h.sure,h.env,h.ops,h.hm,h.rm,h.nk,h.nm,fun b hb'=>?_⟩
 ·rcases hR b hr with h1 |h1
  ·exact h.off b hb' h1
  ·have:=h.live.lt b hb';omega
 ·rcases hR b hb' with h1 |h1
  ·exact Nat.lt_of_lt_of_le (h.rl b h1) hb.size
  ·exact h1.2
theorem PrgAt.less(h:PrgAt arm room croom K w p q R t)(hR:∀ b,R' b→R b):PrgAt arm room croom K w p q R' t:=h.more (Below.refl _ _) (fun b hb=>Or.inl (hR b hb))
theorem PrgAt.keep(h:PrgAt arm room croom K w p q R t)(hb:Below w.heap.size w w'):PrgAt arm room croom K w' p q R t:=h.more hb (fun _ h=>Or.inl h)
theorem PrgAt.new{g:Nat}(h:PrgAt arm room croom K w p q R t)(hb:Below w.heap.size w w')(h1:w.heap.size≤g)(h2:g<w'.heap.size):PrgAt arm room croom K w' p q (Plus R g) t:=h.more hb (fun b hb=>by rcases hb with hb |rfl;exact Or.inl hb;exact Or.inr ⟨h1,h2⟩)
theorem PrgAt.mine(h:PrgAt arm room croom K w p q R t)(hf:Fr R w w'):PrgAt arm room croom K w' p q R t:=by
 obtain ⟨x,P,C,d,s,n,enc,ms,h⟩:=h
 exact ⟨x,P,C,d,s,n,enc,ms,h.live.off hf h.off,h.q,h.busy,h.com,h.mb,h.mr,h.off,h.sure,h.env,h.ops,h.hm,h.rm,h.nk,h.nm,fun b hb=>Nat.lt_of_lt_of_le (h.rl b hb) hf.size⟩
theorem PrgAt.up{K':Nat}(h:PrgAt arm room croom K w p q R t)(hk:K≤K'):PrgAt arm room croom K' w p q R t:=by
 obtain ⟨x,P,C,d,s,n,enc,ms,h⟩:=h
 exact ⟨x,P,C,d,s,n,enc,ms,h.live,h.q,h.busy,h.com,h.mb,h.mr,h.off,h.sure,h.env,Nat.le_trans h.ops hk,Nat.le_trans h.hm hk,h.rm,Nat.le_trans h.nk hk,fun k hk'=>Nat.le_trans (h.nm k hk') hk,h.rl⟩
theorem PrgAt.lt(h:PrgAt arm room croom K w p q R t){b:Nat}(hb:R b):b<w.heap.size:=by
 obtain ⟨x,P,C,d,s,n,enc,ms,h⟩:=h
 exact h.rl b hb
theorem prg_pages(h:PrgAt arm room croom K w p q R t):Calls Tryz.prog 20 #[.pointer (some ⟨p,0,none⟩)] w fun e w'=>e=.returned (.int .i64 (t.pages.length:Int))∧Below w.heap.size w w':=by
 obtain ⟨x,P,C,d,s,n,enc,ms,h⟩:=h
 have:=pages_live p x w h.live.tx.core.hd
 rw [h.live.tx.np]at this
 exact this
theorem prg_busy(h:PrgAt arm room croom K w p q R t):Calls Tryz.prog 167 #[.pointer (some ⟨p,0,none⟩)] w fun e w'=>e=.returned (.bool t.busy)∧Below w.heap.size w w':=by
 obtain ⟨x,P,C,d,s,n,enc,ms,h⟩:=h
 have:=busy_live p x w h.live.tx.core.hd
 rw [h.busy]at this
 exact this
theorem prg_get(i:Nat)(h:PrgAt arm room croom K w p q R t)(hi:i<t.pages.length)(hK:K≤800000):Calls Tryz.prog 115 #[.pointer (some ⟨p,0,none⟩),.int .i64 ((i+1:Nat):Int)] w fun e w'=>∃ g cap,e=.returned (.tuple #[.slice (some ⟨g,0,none⟩) 512 cap,.int .i64 0])∧Row5 w' w.heap.size g cap (t.pages.getD i [])∧w.heap.size≤g∧PrgAt arm room croom (K+1) w' p q (Plus R g) t∧Rok R w w':=by
 obtain ⟨x,P,C,d,s,n,enc,ms,h⟩:=h
 refine (get_own p i x P C d s t.sure n t.pages t.ch enc w h.live.tx hi (by rw [h.sure.f0];rfl) h.env.on (by have:=h.hm;omega)).mono ?_
 rintro e w' ⟨a,cap,rfl,⟨hr,ho⟩,ha,⟨C',s',hT,hO,hM,hs,hrm⟩,hf⟩
 obtain ⟨a',cur,e1,e2,_,e3,_⟩:=row5 ho
 obtain rfl:=Option.some.inj e1
 have ea:a=⟨a.block,0,none⟩:=by
  rcases ho.2 with ⟨h',_⟩ | ⟨g',cap',cur,h',_⟩
  ·cases h'
  ·simp only [Value.slice.injEq,Option.some.injEq]at h'
   rw [h'.1]
 obtain ⟨⟨P2,C2,s2,enc2,hl,hsup,hs2,hr2⟩,hfr⟩:=h.live.moved hT hM hf hs hrm
 have hmv:=h.live.moved hT hM hf hs hrm
 obtain ⟨h1,h2⟩:=h.to (t':=t) hmv rfl rfl rfl rfl h.busy h.com h.mb h.mr h.sure h.env (by omega) (by omega) (by have:=h.nk;omega) (fun k hk=>by have:=h.nm k hk;omega)
 rw [ea]at ho ⊢
 refine ⟨a.block,cap,rfl,ho,ha,?_,h2⟩
 have hm:K≤K+1:=by omega
 have hLv:Live w' p x P C' d s' t.sure n t.pages t.ch enc ms:=by
  obtain ⟨ho',_⟩:(∀ b,Out w (NC p x P C) b→Out w' (NC p x P C') b)∧True:=⟨fun b hb=>hM.out hf.size hb,trivial⟩
  exact ⟨hT,h.live.mks.move ⟨rfl,rfl,rfl,rfl⟩ (fun k hk=>(h.live.mks.each k hk).2) ho' (fun b hb=>⟨fun o v hc=>fr_cell hf hc hb.2,fun _=>hf.blk b hb.1 hb.2⟩) (mv_ne h.live.mks.row h.live.tx.chg.map),h.live.sep,fun b o l cc hb=>ho' b (h.live.eb b o l cc hb),fun k hk b o l cc hb=>ho' b (h.live.ek k hk b o l cc hb)⟩
 refine ⟨x,P,C',d,s',n,enc,ms,hLv,h.q,h.busy,h.com,h.mb,h.mr,fun b hb hR=>?_,h.sure,h.env,Nat.le_trans h.ops hm,by have:=h.hm;omega,hrm.trans h.rm,by have:=h.nk;omega,fun k hk=>by have:=h.nm k hk;omega,fun b hb=>?_⟩
 ·rcases hb with hb |hb
  ·rcases hR with hR |rfl
   ·rcases hM b hb with h5 |h5
    ·exact h.off b (Or.inl h5) hR
    ·have:=h.rl b hR;omega
   ·exact hO.2 hb
  ·rcases hR with hR |rfl
   ·exact h.off b (Or.inr hb) hR
   ·have:a.block<w.heap.size:=h.live.lt a.block (Or.inr hb)
    omega
 ·rcases hb with hb |rfl
  ·exact Nat.lt_of_lt_of_le (h.rl b hb) hf.size
  ·exact hO.1
end
end
section
open Go.RowKit Go.Maps
open Dsk (gt hid undrew keep_old keep_cell lt_cell Rd)
open Cch (Fr)
open Jrn (Pv2 Row5 numAt RB fr_two)
section
variable {arm:Prop} {room croom K:Nat} {p q:Nat} {R:Nat→Prop} {t:RS} {w:World}
def HeapAt(w:World)(hb p:Nat):Prop:=w.heap[hb]? = some (.cells #[.pointer (some ⟨p,0,none⟩)] 119 (0,0))
variable {hb p:Nat} {w:World}
theorem HeapAt.cell(h:HeapAt w hb p):w.cell? ⟨hb,0,none⟩=some (.pointer (some ⟨p,0,none⟩)):=by
 unfold HeapAt at h;simp [World.cell?,h]
theorem HeapAt.lt(h:HeapAt w hb p):hb<w.heap.size:=(Array.getElem?_eq_some_iff.1 h).1
variable {w':World}
theorem HeapAt.keep(h:HeapAt w hb p)(b:Below w.heap.size w w'):HeapAt w' hb p:=(b.block hb h.lt).trans h
theorem HeapAt.fr{E:Nat→Prop}(h:HeapAt w hb p)(f:Fr E w w')(hE:¬E hb):HeapAt w' hb p:=(f.blk hb h.lt hE).trans h
theorem HeapAt.rok{R:Nat→Prop}(h:HeapAt w hb p)(f:Rok R w w')(hR:R hb):HeapAt w' hb p:=(f.at_ hR h.lt).trans h
theorem Rok.of_below(h:Below w.heap.size w w'):Rok R w w':=Fr.of_below h
variable {w1:World} {R':Nat→Prop}
theorem Rok.after{w0:World}(h0:Below w.heap.size w w0)(h1:Rok R' w0 w1)(hR:∀ b,R b→R' b):Rok R w w1:=(Fr.of_below h0).trans h1 (fun j _ hj=>⟨fun h=>hj.1 (hR j h),hj.2⟩)
variable {w2:World}
theorem Rok.then(h:Rok R w w1)(k:Rok R' w1 w2)(hR:∀ b,R b→R' b):Rok R w w2:=h.trans k (fun j _ hj=>⟨fun h=>hj.1 (hR j h),hj.2⟩)
theorem Rok.mine{S:Nat→Prop}(h:Rok R w w1)(k:Fr S w1 w2)(hS:∀ b,S b→w.heap.size≤b):Rok R w w2:=h.trans k (fun j hj h=>by have:=hS j h;omega)
theorem Rok.below(h:Rok R w w1)(k:Below w1.heap.size w1 w2):Rok R w w2:=h.trans (Fr.of_below (S:=fun _=>False) k) (fun _ _ h=>h.elim)
theorem has_any8(hb:Nat)(n:Int)(h:PrgAt arm room croom K w p q R t)(hh:HeapAt w hb p) :
  Calls Tryz.prog 130 #[.pointer (some ⟨hb,0,none⟩),.int .i64 n] w fun e w'=>e=.returned (.bool (decide (1<n)&&decide (n≤(t.pages.length:Int))))∧Below w.heap.size w w':=by
 have c:=hh.cell
 have CP:=hid (prg_pages h)
 clear h hh
 generalize (t.pages.length:Int)=L at *
 by_cases h1:1<n
 ·rw [show (decide (1<n)&&decide (n≤L))=decide (n≤L) by simp [h1]]
  go_enter Tryz.func130,Tryz.ntmps130
  go_wp2_with (go_at_call 20;refine CP.out.mono ?_;rintro e w1 ⟨rfl,hb1⟩;have B1:=hid hb1;clear hb1)
  go_ret
  exact ⟨rfl,B1.out⟩
 ·rw [show (decide (1<n)&&decide (n≤L))=false by simp [h1]]
  go_enter Tryz.func130,Tryz.ntmps130
  go_wp2
  go_ret
  exact ⟨rfl,Below.refl _ _⟩
theorem within_yes(h:PrgAt arm room croom K w p q R t)(hb:t.busy=true) :
  Calls Tryz.prog 107 #[.pointer (some ⟨p,0,none⟩)] w fun e w'=>e=.returned (.int .i64 0)∧Below w.heap.size w w':=by
 have CB:=hid (prg_busy h)
 rw [hb]at CB
 clear h
 go_enter Tryz.func107,Tryz.ntmps107
 go_wp2_with (go_at_call 167;refine CB.out.mono ?_;rintro e w1 ⟨rfl,hb1⟩;have B1:=hid hb1;clear hb1)
 go_ret
 exact ⟨rfl,B1.out⟩
theorem agg81(W:World):(isAgg 131).run Tryz.prog W=.ok true W:=by kernel_rfl
theorem size81(W:World):(Go.sizeOf 131).run Tryz.prog W=.ok 2 W:=by kernel_rfl
theorem agg83(W:World):(isAgg 133).run Tryz.prog W=.ok true W:=by kernel_rfl
theorem size83(W:World):(Go.sizeOf 133).run Tryz.prog W=.ok 2 W:=by kernel_rfl
theorem agg118(W:World):(isAgg 205).run Tryz.prog W=.ok true W:=by kernel_rfl
theorem size118(W:World):(Go.sizeOf 205).run Tryz.prog W=.ok 2 W:=by kernel_rfl
theorem hget_yes(hb i:Nat)(h:PrgAt arm room croom K w p q R t)(hh:HeapAt w hb p)(hi:i<t.pages.length)(hK:K≤800000) :
  Calls Tryz.prog 123 #[.pointer (some ⟨hb,0,none⟩),.int .i64 ((i+1:Nat):Int)] w fun e w'=>∃ g cap,e=.returned (.tuple #[Pv2 ((i+1:Nat):Int) g 0 cap,.int .i64 0])∧Row5 w' w.heap.size g cap (t.pages.getD i [])∧w.heap.size≤g∧PrgAt arm room croom (K+1) w' p q (Plus R g) t∧Rok R w w':=by
 have B0:=hid (show Below w.heap.size w (w.alloc (.cells #[.int .i64 0,.slice none 0 0] 131)) from Below.alloc (Below.refl _ _) (Nat.le_refl _) _)
 have C1:=hid (prg_get i (h.new B0.out (Nat.le_refl _) (by simp)) hi hK)
 have HX:=hid (RB.new 131 w 0 none 0 0)
 have c0:=(hh.keep B0.out).cell
 generalize ((i+1:Nat):Int)=z at *
 clear h hh
 unfold Pv2
 go_enter Tryz.func123,Tryz.ntmps123
 go_wp2_with (go_at_call 115;refine C1.out.mono ?_;rintro e w1 ⟨g,cap,rfl,hr,hg,hP,hok⟩;have R1:=hid hr;have HG:=hid hg;have P1:=hid hP;have K1:=hid hok;have X1:=hid (show RB 131 w1 w.heap.size 0 none 0 0 from (hok.at_ (Or.inr rfl) (by simp)).trans HX.out);obtain ⟨x0,x1,x2,x3⟩:=X1.out.cells;clear hr hg hP hok)
 refine bodyPost_ret (Jrn.ret_rec rfl agg81 size81 rfl (RB.set X1.out _ _ _ _)) rfl ?_
 have hz:w.heap.size+1≤g:=by have:=HG.out;simpa using this
 refine ⟨g,cap,rfl,(R1.out.fr (fr_two _ _ _ _) (by omega)).base (by simp),by omega,?_,?_⟩
 ·exact (P1.out.mine (fr_imp (fr_two w1 w.heap.size _ _) (fun b hb=>Or.inl (Or.inr hb)))).less (fun b hb=>by rcases hb with hb |hb;exact Or.inl (Or.inl hb);exact Or.inr hb)
 ·exact (Rok.after B0.out K1.out (fun b hb=>Or.inl hb)).mine (fr_two w1 w.heap.size _ _) (fun b hb=>by omega)
theorem root_yes(hb:Nat)(h:PrgAt arm room croom K w p q R t)(hh:HeapAt w hb p)(hi:0<t.pages.length)(hK:K≤800000) :
  Calls Tryz.prog 67 #[.pointer (some ⟨hb,0,none⟩)] w fun e w'=>∃ g cap,e=.returned (.tuple #[Pv2 1 g 0 cap,.int .i64 0])∧Row5 w' w.heap.size g cap (t.pages.getD 0 [])∧w.heap.size≤g∧PrgAt arm room croom (K+1) w' p q (Plus R g) t∧Rok R w w':=by
 have B0:=hid (show Below w.heap.size w (w.alloc (.cells #[.int .i64 0,.slice none 0 0] 133)) from Below.alloc (Below.refl _ _) (Nat.le_refl _) _)
 have C1:=hid (hget_yes hb 0 (h.new B0.out (Nat.le_refl _) (by simp)) (hh.keep B0.out) hi hK)
 have HX:=hid (RB.new 133 w 0 none 0 0)
 have HL:=hid hh.lt
 clear h hh
 unfold Pv2 at *
 go_enter Tryz.func67,Tryz.ntmps67
 go_wp2_with (go_at_call 123;refine C1.out.mono ?_;rintro e w1 ⟨g,cap,rfl,hr,hg,hP,hok⟩;have R1:=hid hr;have HG:=hid hg;have P1:=hid hP;have K1:=hid hok;have X1:=hid ((show RB 133 w1 w.heap.size 0 none 0 0 from (hok.at_ (Or.inr rfl) (by simp)).trans HX.out).keep (Below.alloc (Below.refl _ _) (Nat.le_refl _) (.cells #[.int .i64 1,.slice (some ⟨g,0,none⟩) 512 cap] 131)));obtain ⟨x0,x1,x2,x3⟩:=X1.out.cells;have S1:=hid hok.size;clear hr hg hP hok)
 refine bodyPost_ret (Jrn.ret_rec rfl agg83 size83 rfl (RB.set X1.out _ _ _ _)) rfl ?_
 have hz:w.heap.size+1≤g:=by have:=HG.out;simpa using this
 have BA:Below w1.heap.size w1 (w1.alloc (.cells #[.int .i64 1,.slice (some ⟨g,0,none⟩) 512 cap] 131)):=Below.alloc (Below.refl _ _) (Nat.le_refl _) _
 refine ⟨g,cap,rfl,((R1.out.keep BA).fr (fr_two _ _ _ _) (by omega)).base (by simp),by omega,?_,?_⟩
 ·exact ((P1.out.keep BA).mine (fr_imp (fr_two _ w.heap.size _ _) (fun b hb=>Or.inl (Or.inr hb)))).less (fun b hb=>by rcases hb with hb |hb;exact Or.inl (Or.inl hb);exact Or.inr hb)
 ·exact ((Rok.after B0.out K1.out (fun b hb=>Or.inl hb)).below BA).mine (fr_two _ w.heap.size _ _) (fun b hb=>by omega)
theorem changing_yes(hb:Nat)(h:PrgAt arm room croom K w p q R t)(hh:HeapAt w hb p)(hbz:t.busy=true)(hi:0<t.pages.length)(hK:K≤800000) :
  Calls Tryz.prog 111 #[.pointer (some ⟨hb,0,none⟩)] w fun e w'=>∃ g cap,e=.returned (.tuple #[Pv2 1 g 0 cap,.int .i64 0])∧Row5 w' w.heap.size g cap (t.pages.getD 0 [])∧w.heap.size≤g∧PrgAt arm room croom (K+1) w' p q (Plus R g) t∧Rok R w w':=by
 have B0:=hid (show Below w.heap.size w (w.alloc (.cells #[.int .i64 0,.slice none 0 0] 133)) from Below.alloc (Below.refl _ _) (Nat.le_refl _) _)
 have P0:=hid (h.new B0.out (Nat.le_refl _) (by simp))
 have CW:=hid (within_yes P0.out hbz)
 have C1:=hid (fun W (hW:Below (w.alloc (.cells #[.int .i64 0,.slice none 0 0] 133)).heap.size (w.alloc (.cells #[.int .i64 0,.slice none 0 0] 133)) W)=>root_yes hb (P0.out.keep hW) ((hh.keep B0.out).keep hW) hi hK)
 have HX:=hid (RB.new 133 w 0 none 0 0)
 have c0:=(hh.keep B0.out).cell
 clear h hh
 unfold Pv2 at *
 go_enter Tryz.func111,Tryz.ntmps111
 go_wp2_with (first
  | (go_at_call 107;refine CW.out.mono ?_;rintro e w0 ⟨rfl,hb0⟩;have B1:=hid hb0;clear hb0)
  | (go_at_call 67;refine (C1.out w0 B1.out).mono ?_;rintro e w1 ⟨g,cap,rfl,hr,hg,hP,hok⟩;have R1:=hid hr;have HG:=hid hg;have P1:=hid hP;have K1:=hid hok;have X1:=hid (show RB 133 w1 w.heap.size 0 none 0 0 from (hok.at_ (Or.inr rfl) (HX.out.keep B1.out).lt).trans (HX.out.keep B1.out));obtain ⟨x0,x1,x2,x3⟩:=X1.out.cells;clear hr hg hP hok))
 refine bodyPost_ret (Jrn.ret_rec rfl agg83 size83 rfl (RB.set X1.out _ _ _ _)) rfl ?_
 have hz:w.heap.size+1≤g:=by have:=HG.out;have h2:=B1.out.size;simp at h2;omega
 refine ⟨g,cap,rfl,(R1.out.fr (fr_two _ _ _ _) (by omega)).base (by have h2:=B1.out.size;simp at h2;omega),by omega,?_,?_⟩
 ·exact (P1.out.mine (fr_imp (fr_two _ w.heap.size _ _) (fun b hb=>Or.inl (Or.inr hb)))).less (fun b hb=>by rcases hb with hb |hb;exact Or.inl (Or.inl hb);exact Or.inr hb)
 ·exact (Rok.after (gt B0.out B1.out) K1.out (fun b hb=>Or.inl hb)).mine (fr_two _ w.heap.size _ _) (fun b hb=>by omega)
end
end
section
open Go.RowKit Go.Maps
open Dsk (gt hid undrew keep_old keep_cell lt_cell Rd)
open Cch (Fr wpAnyK wpAnyK_done wp_region_K)
open Jrn (Pv2 Row5 numAt RB fr_two)
structure PgI where
 n:Nat
 g:Nat
 cap:Nat
 b:List Nat
def Pgs(w:World)(ab:Nat)(l:List PgI):Prop:=∀ i x,l[i]? = some x→w.cell? ⟨ab,i*2,none⟩=some (.int .i64 (x.n:Int))∧w.cell? ⟨ab,i*2+1,none⟩=some (.slice (some ⟨x.g,0,none⟩) 512 x.cap)∧Rd w (some ⟨x.g,0,none⟩) 512 x.cap x.b
variable {R:Nat→Prop}
theorem Pgs.rok{w w':World}{ab:Nat}{l:List PgI}(h:Pgs w ab l)(f:Rok R w w')(h1:R ab)(h2:∀ x∈l,R x.g):Pgs w' ab l:=fun i x hx=>by
 obtain ⟨c0,c1,c2⟩:=h i x hx
 refine ⟨fr_cell f c0 (fun e=>e.1 h1),fr_cell f c1 (fun e=>e.1 h1),rd_fr f c2 (fun _ a ha=>?_)⟩
 obtain rfl:=Option.some.inj ha
 exact fun e=>e.1 (h2 x (List.mem_of_getElem? hx))
def RS.puts(t:RS):List PgI→RS
 | []=>t
 | x::l=>(t.put (x.n - 1) x.b).puts l
theorem RS.puts_app(t:RS)(l m:List PgI):t.puts (l++m)=(t.puts l).puts m:=by
 induction l generalizing t with
 | nil=>rfl
 | cons x l ih=>exact ih _
theorem RS.puts_now(t:RS)(l:List PgI):(t.puts l).now.length=t.now.length∧(t.puts l).busy=t.busy:=by
 induction l generalizing t with
 | nil=>exact ⟨rfl,rfl⟩
 | cons x l ih=>obtain ⟨h1,h2⟩:=ih (t.put (x.n - 1) x.b);exact ⟨h1.trans (by simp [RS.put]),h2⟩
def S3(hb p b:Nat)(x:PgI)(W:World):Prop:=W.cell? ⟨hb,0,none⟩=some (.pointer (some ⟨p,0,none⟩))∧W.cell? ⟨b,0,none⟩=some (.int .i64 (x.n:Int))∧W.cell? ⟨b,1,none⟩=some (.slice (some ⟨x.g,0,none⟩) 512 x.cap)
theorem S3.rok{hb p b:Nat}{x:PgI}{W W':World}(h:S3 hb p b x W)(f:Rok R W W')(h1:R hb)(h2:R b):S3 hb p b x W':=⟨fr_cell f h.1 (fun e=>e.1 h1),fr_cell f h.2.1 (fun e=>e.1 h2),fr_cell f h.2.2 (fun e=>e.1 h2)⟩
section
variable {arm:Prop} {room croom K:Nat} {p q:Nat} {R:Nat→Prop} {t:RS} {w:World}
theorem hput_any(hb ab cp:Nat)(l:List PgI)(h:PrgAt arm room croom K w p q R t)(hh:HeapAt w hb p)(hR:R hb)(hp:Pgs w ab l)(hab:R ab)(hg:∀ x∈l,R x.g)(hbz:t.busy=true)(hn:∀ x∈l,1≤x.n∧x.n≤t.now.length)(hx:∀ x∈l,∀ y∈x.b,y<256)(hK:K+l.length≤500000) :
  Calls Tryz.prog 109 #[.pointer (some ⟨hb,0,none⟩),.slice (some ⟨ab,0,none⟩) l.length cp] w fun e w'=>e=.returned (.int .i64 0)∧PrgAt arm room croom (K+l.length) w' p q R (t.puts l)∧Rok R w w':=by
 have H:=hid h;have HH:=hid hh;have HP:=hid hp;have HN:=hid hn;have HX:=hid hx;have HGG:=hid hg;have HRH:=hid hR;have HRA:=hid hab;have HBZ:=hid hbz
 obtain ⟨L,hL⟩:∃ L,L=l.length:=⟨_,rfl⟩
 rw [←hL]at hK ⊢
 have HL:=hid hL
 clear h hh hp hn hx hg hR hab hbz hL
 go_enter Tryz.func109,Tryz.ntmps109
 go_wp2
 go_loopw [10] (fun cc W=>∃ (i:Nat),i≤L∧cc=.int .i64 (i:Int)∧Hid (PrgAt arm room croom (K+i) W p q R (t.puts (l.take i)))∧Hid (Rok R w W)) (fun cc _=>L - (Lib.intOf cc).toNat)
 case atStart=>exact ⟨0,by omega,rfl,H,hid (Rok.of_below (Below.refl _ _))⟩
 case round=>
  obtain ⟨i,hi,rfl,P1,K1⟩:=hrel
  by_cases hiL:i<L
  ·have hiL':(i:Int)<(L:Int):=by omega
   obtain ⟨x,hx⟩:∃ x,l[i]? = some x:=⟨_,List.getElem?_eq_getElem (by rw [←HL.out];exact hiL)⟩
   have hxm:x∈l:=List.mem_of_getElem? hx
   obtain ⟨c0,c1,c2⟩:=HP.out.rok K1.out HRA.out HGG.out i x hx
   have hN:=HN.out x hxm
   have C2:=hid c2
   have hh2:=HH.out.rok K1.out HRH.out
   have B0:=hid (show Below wr.heap.size wr (wr.alloc (.cells #[.int .i64 (x.n:Int),.slice (some ⟨x.g,0,none⟩) 512 x.cap] 131)) from Below.alloc (Below.refl _ _) (Nat.le_refl _) _)
   have X0:=hid (RB.new 131 wr (x.n:Int) (some ⟨x.g,0,none⟩) 512 x.cap)
   have H0:=hid (hh2.keep B0.out)
   have P0:=hid (P1.out.new B0.out (Nat.le_refl _) (by simp))
   have CP:=hid (fun W (hW:Below (wr.alloc (.cells #[.int .i64 (x.n:Int),.slice (some ⟨x.g,0,none⟩) 512 x.cap] 131)).heap.size (wr.alloc (.cells #[.int .i64 (x.n:Int),.slice (some ⟨x.g,0,none⟩) 512 x.cap] 131)) W)=>prg_put_yes (x.n - 1) x.g 0 x.cap x.b (P0.out.keep hW) ((RS.puts_now t _).2.trans HBZ.out) (by rw [(RS.puts_now t _).1];omega) (by omega) ((C2.out.keep B0.out).keep hW) (HX.out x hxm))
   rw [show x.n - 1+1=x.n by omega]at CP
   have hal:¬ab=wr.heap.size:=by have h9:ab<wr.heap.size:=lt_cell c0;omega
   clear hN c2 hh2
   obtain ⟨W0,hW0⟩:∃ W0,W0=wr.alloc (.cells #[.int .i64 (x.n:Int),.slice (some ⟨x.g,0,none⟩) 512 x.cap] 131):=⟨_,rfl⟩
   have HW0:=hid hW0
   rw [←hW0]at B0 X0 H0 P0 CP
   have hs0:S3 hb p wr.heap.size x W0.drew:=⟨H0.out.cell,X0.out.cells.1,X0.out.cells.2.1⟩
   clear hW0
   go_upto_region 4 with fail
   rw [←HW0.out]
   refine wp_region_K (S:=S3 hb p wr.heap.size x) (fun _=>false) (by kernel_rfl) hs0 (fun hHeld=>?_)
   refine gkp 0 ?_
   refine gkp 1 ?_
   refine gkp 2 ?_
   refine gkt 3 ?_ (h:=by intro W hSw;obtain ⟨k0,k1,k2⟩:=hSw;go_simp;first |done |with_reducible rfl)
   refine gkp 4 ?_
   refine gkt 5 ?_ (h:=by intro W hSw;obtain ⟨k0,k1,k2⟩:=hSw;go_simp;first |done |with_reducible rfl)
   refine gkp 6 ?_
   refine gkt 7 ?_ (h:=by intro W hSw;obtain ⟨k0,k1,k2⟩:=hSw;go_simp;first |done |with_reducible rfl)
   refine gk1 8 (fun K hK=>?_)
   go_simp
   go_at_call 113;refine (CP.out W0.drew (Below.refl _ _).drew).mono ?_;rintro e w2 ⟨rfl,hP2,hok2⟩;have P2:=hid hP2;have K2:=hid hok2;have hR:S3 hb p wr.heap.size x w2:=hs0.rok hok2 (Or.inl HRH.out) (Or.inr rfl);clear hP2 hok2
   refine hK.out _ _ hR (fun hHeld=>?_)
   clear hK K
   (try simp only [Act.put,sA,sZ,sS])
   refine gkp 9 ?_
   refine wpAnyK_done (by kernel_rfl) ?_ _
   clear hHeld hR hs0
   go_wp2
   go_roundw
   case measure=>simp [Lib.intOf];omega
   case rel=>
    refine ⟨i+1,by omega,by go_num,hid ?_,hid ?_⟩
    ·have e1:l.take (i+1)=l.take i++[x]:=by rw [List.take_add_one,hx];rfl
     rw [e1,RS.puts_app]
     exact P2.out.less (fun b hb=>Or.inl hb)
    ·exact K1.out.then (Rok.after (R:=R) B0.out.drew K2.out (fun b hb=>Or.inl hb)) (fun _ h=>h)
  ·obtain rfl:i=L:=by omega
   have hiL':¬(i:Int)<(i:Int):=by omega
   go_wp2
   go_ret
   refine ⟨rfl,?_,K1.out⟩
   have:=P1.out
   rw [HL.out,List.take_length]at this
   rw [HL.out];exact this
end
end
section
open Go.RowKit Go.Maps
open Dsk (gt hid undrew keep_old keep_cell lt_cell Rd)
open Cch (Fr wpAnyK wpAnyK_done wp_region_K)
open Jrn (Pv2 Row5 numAt RB fr_two trunkN rootN)
section
variable {arm:Prop} {room croom K:Nat} {p q:Nat} {R:Nat→Prop} {t:RS} {w:World}
theorem trunk_yes(hb i nx:Nat)(ls:List Nat)(h:PrgAt arm room croom K w p q R t)(hh:HeapAt w hb p)(h1:1≤i)(hi:i<t.pages.length)(hx:t.pages.getD i []=trunkN nx ls)(hl:ls.length≤126)(hK:K≤800000) :
  Calls Tryz.prog 126 #[.pointer (some ⟨hb,0,none⟩),.int .i64 ((i+1:Nat):Int)] w fun e w'=>∃ g cap,e=.returned (.tuple #[Pv2 ((i+1:Nat):Int) g 0 cap,.int .i64 0])∧Row5 w' w.heap.size g cap (trunkN nx ls)∧w.heap.size≤g∧PrgAt arm room croom (K+1) w' p q (Plus R g) t∧Rok R w w':=by
 have B0:=hid (show Below w.heap.size w (w.alloc (.cells #[.int .i64 0,.slice none 0 0] 205)) from Below.alloc (Below.refl _ _) (Nat.le_refl _) _)
 have P0:=hid (h.new B0.out (Nat.le_refl _) (by simp))
 have H0:=hid (hh.keep B0.out)
 have CH:=hid (has_any8 hb ((i+1:Nat):Int) P0.out H0.out)
 rw [show (decide (1<((i+1:Nat):Int))&&decide (((i+1:Nat):Int)≤(t.pages.length:Int)))=true by simp;omega]at CH
 have CG:=hid (fun W (hW:Below (w.alloc (.cells #[.int .i64 0,.slice none 0 0] 205)).heap.size (w.alloc (.cells #[.int .i64 0,.slice none 0 0] 205)) W)=>hget_yes hb i (P0.out.keep hW) (H0.out.keep hW) hi hK)
 rw [hx]at CG
 have HX:=hid (RB.new 205 w 0 none 0 0)
 have HL:=hid hl
 have hsz:=Jrn.trunk_size nx ls (by omega)
 have CS:=hid (fun W z g cap B (hr:Row5 W B g cap (trunkN nx ls))=>Jrn.size_any z g 0 cap (trunkN nx ls) W hr.rd (Jrn.trunkN_bytes _ _))
 rw [hsz]at CS
 have hl2:¬(126:Int)<(ls.length:Int):=by omega
 clear h hh h1 hi hx hl hsz
 generalize ((i+1:Nat):Int)=z at *
 generalize ls.length=L at *
 unfold Pv2 at *
 go_enter Tryz.func126,Tryz.ntmps126
 go_wp2_with (first
  | (go_at_call 130;refine CH.out.mono ?_;rintro e w1 ⟨rfl,hb1⟩;have B1:=hid hb1;clear hb1)
  | (go_at_call 123;refine (CG.out w1 B1.out).mono ?_;rintro e w2 ⟨g,cap,rfl,hr,hg,hP,hok⟩;have R2:=hid hr;have HG:=hid hg;have P2:=hid hP;have K2:=hid hok;have Y0:=hid (RB.new 131 w2 z (some ⟨g,0,none⟩) 512 cap);have BA:=hid (show Below w2.heap.size w2 (w2.alloc (.cells #[.int .i64 z,.slice (some ⟨g,0,none⟩) 512 cap] 131)) from Below.alloc (Below.refl _ _) (Nat.le_refl _) _);clear hr hg hP hok)
  | (go_at_call 128;refine (CS.out _ z g cap _ (R2.out.keep (Below.alloc (Below.alloc (Below.refl _ _) (Nat.le_refl _) _) (by simp) _))).mono ?_;rintro e w3 ⟨rfl,hb3⟩;have B3:=hid (gt (Below.alloc BA.out (by simp) (.cells #[.int .i64 z,.slice (some ⟨g,0,none⟩) 512 cap] 205)) hb3);have Z3:=hid (RB.keep (show RB 205 _ (w2.heap.size+1) z (some ⟨g,0,none⟩) 512 cap from (by have:=RB.new 205 (w2.alloc (.cells #[.int .i64 z,.slice (some ⟨g,0,none⟩) 512 cap] 131)) z (some ⟨g,0,none⟩) 512 cap;simpa using this)) hb3);have X2:=hid (show RB 205 w2 w.heap.size 0 none 0 0 from (K2.out.at_ (Or.inr rfl) (HX.out.keep B1.out).lt).trans (HX.out.keep B1.out));have X3:=hid (X2.out.keep B3.out);obtain ⟨z0,z1,z2,z3⟩:=Z3.out.cells;obtain ⟨x0,x1,x2,x3⟩:=X3.out.cells;have hne:¬w2.heap.size+1=w.heap.size:=(by have h5:=X2.out.lt;omega);clear hb3))
 refine bodyPost_ret (Jrn.ret_rec rfl agg118 size118 rfl (RB.set X3.out _ _ _ _)) rfl ?_
 have hs1:w.heap.size+1≤w1.heap.size:=by have:=B1.out.size;simpa using this
 have hg:=HG.out
 refine ⟨g,cap,rfl,((R2.out.keep B3.out).fr (fr_two _ _ _ _) (by omega)).base (by omega),by omega,?_,?_⟩
 ·exact ((P2.out.keep B3.out).mine (fr_imp (fr_two _ w.heap.size _ _) (fun b hb=>Or.inl (Or.inr hb)))).less (fun b hb=>by rcases hb with hb |hb;exact Or.inl (Or.inl hb);exact Or.inr hb)
 ·exact ((Rok.after (gt B0.out B1.out) K2.out (fun b hb=>Or.inl hb)).below B3.out).mine (fr_two _ w.heap.size _ _) (fun b hb=>by omega)
end
end
section
open Go.RowKit Go.Maps
open Dsk (gt hid undrew keep_old keep_cell lt_cell Rd)
open Cch (Fr wpAnyK wpAnyK_done wp_region_K)
open Jrn (Pv2 Row5 numAt RB fr_two trunkN rootN)
def flat(tr:List (Nat×List Nat)):List Nat:=tr.flatMap fun x=>x.1::x.2
theorem flat_append(a b:List (Nat×List Nat)):flat (a++b)=flat a++flat b:=by simp [flat]
theorem flat_cons(x:Nat×List Nat)(b:List (Nat×List Nat)):flat (x::b)=x.1::(x.2++flat b):=by simp [flat]
def Chain8(now:List Pg):Nat→List (Nat×List Nat)→Prop
 | f,[]=>f=0
 | f,x::r=>f=x.1∧2≤x.1∧x.1≤now.length∧x.2.length≤126∧(∀ y∈x.2,2≤y∧y≤now.length)∧∃ nx,nx<4294967296∧now.getD (x.1 - 1) []=trunkN nx x.2∧Chain8 now nx r
def Own2(Q:Nat→Prop)(v:Value):Nat→Prop:=fun b=>Q b∨v.ownBlock=some b
theorem PrgAt.grow{arm:Prop}{room croom K:Nat}{p q:Nat}{Q:Nat→Prop}{t:RS}{w w':World}{v v':Value}(h:PrgAt arm room croom K w p q (Own2 Q v) t)(hf:Fr (fun b=>v.ownBlock=some b) w w')(hv:∀ b,v'.ownBlock=some b→v.ownBlock=some b∨(w.heap.size≤b∧b<w'.heap.size)):PrgAt arm room croom K w' p q (Own2 Q v') t:=by
 obtain ⟨x,P,C,d,s,n,enc,ms,h⟩:=h
 have hf2:Fr (Own2 Q v) w w':=fr_imp hf (fun b hb=>Or.inr hb)
 refine ⟨x,P,C,d,s,n,enc,ms,h.live.off hf2 h.off,h.q,h.busy,h.com,h.mb,h.mr,fun b hb hR=>?_,h.sure,h.env,h.ops,h.hm,h.rm,h.nk,h.nm,fun b hb=>?_⟩
 ·rcases hR with hR |hR
  ·exact h.off b hb (Or.inl hR)
  ·rcases hv b hR with h1 |h1
   ·exact h.off b hb (Or.inr h1)
   ·have:=h.live.lt b hb;omega
 ·rcases hb with hb |hb
  ·exact Nat.lt_of_lt_of_le (h.rl b (Or.inl hb)) hf.size
  ·rcases hv b hb with h1 |h1
   ·exact Nat.lt_of_lt_of_le (h.rl b (Or.inr h1)) hf.size
   ·exact h1.2
structure AO (arm:Prop) (room croom K:Nat) (p q:Nat) (Q:Nat→Prop) (t:RS) (B:Nat) (W0:World) (v:Value) (l:List Nat) (W:World):Prop where
 p:PrgAt arm room croom K W p q (Own2 Q v) t
 o:W.ownsRow B 3 1 v l.length (zI l)
 s:∀ b,v.ownBlock=some b→¬Q b
 k:Rok Q W0 W
section
variable {arm:Prop} {room croom K:Nat} {p q:Nat} {Q:Nat→Prop} {t:RS} {B:Nat} {W0 W W':World} {v:Value} {l:List Nat}
theorem AO.below(h:AO arm room croom K p q Q t B W0 v l W)(hb:Below W.heap.size W W'):AO arm room croom K p q Q t B W0 v l W':=
 ⟨h.p.keep hb,own_fr (E:=fun _=>False) h.o (Fr.of_below hb) (fun _ _ h=>h),h.s,h.k.below hb⟩
theorem AO.app{n:Nat}{ao:Option Addr}{m c:Nat}{w':World}(h:AO arm room croom K p q Q t B W0 v l W)(hB:B≤W.heap.size)(hm:m=l.length)(ho:w'.ownsRow 0 3 1 (.slice ao (m+1) c) (m+1) (zI l++[.int .i64 (n:Int)]))(hg:W.grownBy w' v.ownBlock)(ha:∀ a,ao=some a→(v.ownBlock=some a.block∨a.block=W.heap.size)) :
  AO arm room croom K p q Q t B W0 (.slice ao (m+1) c) (l++[n]) w':=by
 have hz:zI (l++[n])=zI l++[.int .i64 (n:Int)]:=by rw [zI_append];rfl
 have hl:(l++[n]).length=m+1:=by rw [hm];simp
 have hf:Fr (fun b=>v.ownBlock=some b) W w':=⟨hg.os,hg.tape,hg.output,hg.size,fun k hk hn=>hg.block k hk (fun e=>hn e.symm)⟩
 have hv:∀ b,(Value.slice ao (m+1) c).ownBlock=some b→v.ownBlock=some b∨(W.heap.size≤b∧b<w'.heap.size):=fun b hb=>by
  cases ao with
  | none=>cases hb
  | some a=>
   have hb2:=rr_blk ho hb
   cases hb
   rcases ha a rfl with h1 |h1
   ·exact Or.inl h1
   ·exact Or.inr ⟨by rw [h1];exact Nat.le_refl _,hb2.2⟩
 refine ⟨h.p.grow hf hv,?_,fun b hb hQ=>?_,h.k.trans hf (fun j _ hj=>⟨h.s j hj,fun e=>?_⟩)⟩
 ·rw [hl,hz]
  refine rr_up ho (fun k hk=>?_)
  rcases hv k hk with h1 |h1
  ·exact (rr_blk h.o h1).1
  ·omega
 ·rcases hv b hb with h1 |h1
  ·exact h.s b h1 hQ
  ·have:=h.p.lt (b:=b) (Or.inl hQ);omega
 ·subst e
  obtain ⟨x,P,C,d,s,n,enc,ms,hh⟩:=h.p
  exact hh.off 0 (Or.inr (Or.inr (Or.inl rfl))) (Or.inr hj)
variable {Q':Nat→Prop}
theorem AO.widen(h:AO arm room croom K p q Q t B W0 v l W)(hb:Below W.heap.size W W')(hQ:∀ b,Q' b→Q b∨(W.heap.size≤b∧b<W'.heap.size)):AO arm room croom K p q Q' t B W' v l W':=by
 refine ⟨h.p.more hb (fun b hb'=>?_),(h.below hb).o,fun b hb' hQ'=>?_,Rok.of_below (Below.refl _ _)⟩
 ·rcases hb' with h1 |h1
  ·rcases hQ b h1 with h2 |h2
   ·exact Or.inl (Or.inl h2)
   ·exact Or.inr h2
  ·exact Or.inl (Or.inr h1)
 ·rcases hQ b hQ' with h2 |h2
  ·exact h.s b hb' h2
  ·have:=(rr_blk h.o hb').2;omega
theorem AO.narrow{w:World}(h:AO arm room croom K p q Q' t B W0 v l W)(hQ:∀ b,Q b→Q' b)(k:Rok Q w W0):AO arm room croom K p q Q t B w v l W:=
 ⟨h.p.less (fun b hb=>by rcases hb with h1 |h1;exact Or.inl (hQ b h1);exact Or.inr h1),h.o,fun b hb hb'=>h.s b hb (hQ b hb'),k.then h.k hQ⟩
end
end
section
open Go.RowKit Go.Maps
open Dsk (gt hid undrew keep_old keep_cell lt_cell Rd)
open Cch (Fr wpAnyK wpAnyK_done wp_region_K)
open Jrn (Pv2 Row5 numAt RB fr_two trunkN rootN)
section
variable {arm:Prop} {room croom K:Nat} {p q:Nat} {R:Nat→Prop} {t:RS} {w:World}
def BX2(b:Nat)(n:Int)(g cap:Nat)(W:World):Prop:=W.cell? ⟨b,0,none⟩=some (.int .i64 n)∧W.cell? ⟨b,1,none⟩=some (.slice (some ⟨g,0,none⟩) 512 cap)
theorem list_any(hb g cap f c B0:Nat)(ws:List Nat)(tr:List (Nat×List Nat))(h:PrgAt arm room croom K w p q R t)(hh:HeapAt w hb p)(hR:R hb)(hr:Row5 w B0 g cap (rootN f c ws))(hf:f<4294967296)(hc4:c<4294967296)(hch:Chain8 t.pages f tr)(hc:(flat tr).length=c)(hn:tr.length<t.pages.length)(hbn:t.pages.length≤4000)(hcb:c≤4000)(hK:K+tr.length≤800000) :
  Calls Tryz.prog 68 #[.pointer (some ⟨hb,0,none⟩),Pv2 1 g 0 cap] w fun e w'=>∃ ao cp,e=.returned (.tuple #[.slice ao c cp,.int .i64 0])∧AO arm room croom (K+tr.length) p q R t w.heap.size w (.slice ao c cp) (flat tr) w':=by
 have HR:=hid hR;have HH:=hid hh
 have B1:=hid (show Below w.heap.size w (w.alloc (.cells #[.int .i64 1,.slice (some ⟨g,0,none⟩) 512 cap] 133)) from Below.alloc (Below.refl _ _) (Nat.le_refl _) _)
 have HX:=hid (RB.new 133 w 1 (some ⟨g,0,none⟩) 512 cap)
 have RW:=hid (hr.keep B1.out)
 have CF:=hid (fun W (hW:Below (w.alloc (.cells #[.int .i64 1,.slice (some ⟨g,0,none⟩) 512 cap] 133)).heap.size (w.alloc (.cells #[.int .i64 1,.slice (some ⟨g,0,none⟩) 512 cap] 133)) W)=>Jrn.first_any 1 g 0 cap (rootN f c ws) W (RW.out.keep hW).rd (Jrn.rootN_bytes _ _ _))
 have CC:=hid (fun W (hW:Below (w.alloc (.cells #[.int .i64 1,.slice (some ⟨g,0,none⟩) 512 cap] 133)).heap.size (w.alloc (.cells #[.int .i64 1,.slice (some ⟨g,0,none⟩) 512 cap] 133)) W)=>Jrn.count_any 1 g 0 cap (rootN f c ws) W (RW.out.keep hW).rd (Jrn.rootN_bytes _ _ _))
 rw [Jrn.root_first _ _ _ hf]at CF
 rw [Jrn.root_count _ _ _ hc4]at CC
 obtain ⟨T,hT⟩:∃ T,T=tr.length:=⟨_,rfl⟩
 rw [←hT]at hn hK ⊢
 have HTT:=hid hT
 clear hT
 have H:=hid h;have HC:=hid hch;have HL:=hid hc;have HN:=hid hn;have HBN:=hid hbn;have HKK:=hid hK
 obtain ⟨W1,hW1⟩:∃ W1,W1=w.alloc (.cells #[.int .i64 1,.slice (some ⟨g,0,none⟩) 512 cap] 133):=⟨_,rfl⟩
 rw [←hW1]at B1 HX RW CF CC
 have HW1:=hid hW1
 have hs0:BX2 w.heap.size 1 g cap W1.drew:=⟨HX.out.cells.1,HX.out.cells.2.1⟩
 clear h hh hR hr hf hch hc hn hbn hK hW1
 unfold Pv2 at *
 go_enter Tryz.func68,Tryz.ntmps68
 go_upto_region 2 with fail
 go_step3
 go_upto_region 2 with fail
 rw [←HW1.out]
 refine wp_region_K (S:=fun W=>BX2 w.heap.size 1 g cap W∧Below W1.heap.size W1 W) (fun _=>false) (by kernel_rfl) ⟨hs0,(Below.refl _ _).drew⟩ (fun hHeld=>?_)
 refine gkt 0 ?_ (h:=by intro W hSw;obtain ⟨⟨k0,k1⟩,_⟩:=hSw;go_simp;first |done |with_reducible rfl)
 refine gkt 2 ?_ (h:=by intro W hSw;obtain ⟨⟨k0,k1⟩,_⟩:=hSw;go_simp;first |done |with_reducible rfl)
 refine gk1 1 (fun K hK=>?_)
 go_simp
 go_at_call 124;refine (CF.out W1.drew (Below.refl _ _).drew).mono ?_;rintro e w2 ⟨rfl,hb2⟩;have B2:=hid (show Below W1.heap.size W1 w2 from undrew hb2);have hR:BX2 w.heap.size 1 g cap w2∧Below W1.heap.size W1 w2:=⟨⟨keep_old B2.out HX.out.cells.1,keep_old B2.out HX.out.cells.2.1⟩,B2.out⟩;clear hb2
 refine hK.out _ _ hR (fun hHeld=>?_)
 clear hK K
 (try simp only [Act.put,sA,sZ,sS])
 refine gk1 3 (fun K hK=>?_)
 go_simp
 go_at_call 125;refine (CC.out w2 B2.out).mono ?_;rintro e w3 ⟨rfl,hb3⟩;have B3:=hid (gt B2.out hb3);have hR:BX2 w.heap.size 1 g cap w3∧Below W1.heap.size W1 w3:=⟨⟨keep_old B3.out HX.out.cells.1,keep_old B3.out HX.out.cells.2.1⟩,B3.out⟩;clear hb3
 refine hK.out _ _ hR (fun hHeld=>?_)
 clear hK K
 (try simp only [Act.put,sA,sZ,sS])
 refine gkp 4 ?_
 refine gkp 5 ?_
 refine wpAnyK_done (by kernel_rfl) ?_ _
 clear hHeld hR hs0
 have B4:=hid (gt B1.out B3.out)
 have A0:=hid (show AO arm room croom K p q R t w.heap.size w (.slice none 0 0) [] w3 from ⟨(H.out.keep B4.out).more (Below.refl _ _) (fun b hb=>by rcases hb with hb |hb;exact Or.inl hb;cases hb),⟨rfl,.inl ⟨rfl,rfl⟩⟩,fun b hb=>(by cases hb),Rok.of_below B4.out⟩)
 have CPg:=hid (prg_pages (H.out.keep B4.out))
 have c0:=(HH.out.keep B4.out).cell
 obtain ⟨N,hN⟩:∃ N,N=t.pages.length:=⟨_,rfl⟩
 rw [←hN]at HN HBN CPg
 have HNE:=hid hN
 clear hN
 go_wp2
 go_step3
 go_wp2_with (go_at_call 20;refine CPg.out.mono ?_;rintro e w4 ⟨rfl,hb4⟩;have A4:=hid (A0.out.below hb4);clear hb4)
 clear c0
 clear CPg CC CF
 go_loopg [6,7,24] (T+1) (fun k v6 v7 v24 W=>∃ (i nx:Nat) (ao:Option Addr) (cp m:Nat),i+k=T+1∧i≤T∧v24=.int .i64 (i:Int)∧v7=.int .i64 (nx:Int)∧v6=.slice ao m cp∧Hid (m=(flat (tr.take i)).length)∧Hid (Chain8 t.pages nx (tr.drop i))∧Hid (AO arm room croom (K+i) p q R t w.heap.size w (.slice ao m cp) (flat (tr.take i)) W))
 case atStart=>exact ⟨0,f,none,0,0,by omega,by omega,rfl,rfl,rfl,hid rfl,HC,A4⟩
 case round=>
  obtain ⟨gk0,hgk0⟩:∃ g,g=gk:=⟨_,rfl⟩
  obtain ⟨i,nx,ao,cp,m,hik,hiT,rfl,rfl,rfl,HM,HCH,A5⟩:=hrel
  rw [←hgk0]at hik
  clear A0 A4
  cases hd:tr.drop i with
  | nil=>
   have hi:i=T:=by have:=congrArg List.length hd;rw [List.length_drop,List.length_nil,←HTT.out]at this;omega
   have hc5:=HCH.out
   rw [hd]at hc5
   have hnx:nx=0:=hc5
   subst hnx
   have hlt:(i:Int)<(N:Int):=by have:=HN.out;omega
   have hfl:flat (tr.take i)=flat tr:=by rw [hi,HTT.out,List.take_length]
   have HFL:=hid hfl
   have HI:=hid hi
   clear hc5 hd hfl
   go_wp2
   rw [Exit.noGoto_ret]
   go_ret2
   have hm:m=c:=by have:=HM.out;rw [HFL.out,HL.out]at this;exact this
   subst hm
   refine ⟨ao,cp,rfl,?_⟩
   have:=A5.out
   rw [HFL.out,HI.out]at this
   exact this
  | cons x r=>
   have hi:i<T:=by have:=congrArg List.length hd;rw [List.length_drop,List.length_cons,←HTT.out]at this;omega
   have hc5:=HCH.out
   rw [hd]at hc5
   obtain ⟨hx0,hx1,hx2,hx3,hx4,nx2,hx5,hx6,hx7⟩:=hc5
   have hlt:(i:Int)<(N:Int):=by have:=HN.out;omega
   have hne:¬(nx:Int)=0:=by omega
   obtain ⟨j,hj⟩:∃ j,nx=j+1:=⟨nx - 1,by omega⟩
   rw [←hx0,hj,Nat.add_sub_cancel]at hx6
   have hh5:=HH.out.rok A5.out.k HR.out
   have CT:=hid (trunk_yes (K:=K+i) (R:=Own2 R (.slice ao m cp)) hb j nx2 x.2 A5.out.p hh5 (by omega) (by omega) hx6 hx3 (by have:=HKK.out;omega))
   rw [←hj]at CT
   have H5:=hid hh5;have HX2:=hid hx2;have HX3:=hid hx3;have HX4:=hid hx4;have HX5:=hid hx5;have HX7:=hid hx7;have HD:=hid hd;have HX0:=hid hx0
   have hnb:nx<4294967296:=by have:=HBN.out;have:=HNE.out;omega
   clear hx0 hx1 hx2 hx3 hx4 hx5 hx6 hx7 hj hh5 hd
   unfold Pv2 at CT
   go_upto_region 10 with (go_at_call 126;refine CT.out.mono ?_;rintro e w6 ⟨g6,cap6,rfl,hr6,hg6,hP6,hok6⟩;have R6:=hid hr6;have G6:=hid hg6;have P6:=hid hP6;have K6:=hid hok6;clear hr6 hg6 hP6 hok6)
   have KR6:Hid (Rok R w w6):=hid (A5.out.k.then K6.out (fun b hb=>Or.inl hb))
   have A6:Hid (AO arm room croom (K+i+1) p q (Plus R g6) t w.heap.size w6 (.slice ao m cp) (flat (tr.take i)) w6):=hid ⟨P6.out.less (fun b hb=>by rcases hb with (hb |hb) |hb;exact Or.inl (Or.inl hb);exact Or.inr hb;exact Or.inl (Or.inr hb)),own_fr A5.out.o K6.out (fun k hk e=>e.1 (Or.inr hk)),fun b hb hQ=>(by rcases hQ with hQ |rfl;exact A5.out.s b hb hQ;have h1:=(rr_blk A5.out.o hb).2;have h2:=G6.out;omega),Rok.of_below (Below.refl _ _)⟩
   obtain ⟨W7,hW7⟩:∃ W7,W7=w6.alloc (.cells #[.int .i64 (nx:Int),.slice (some ⟨g6,0,none⟩) 512 cap6] 205):=⟨_,rfl⟩
   have HW7:=hid hW7
   have B7:=hid (show Below w6.heap.size w6 W7 by rw [hW7];exact Below.alloc (Below.refl _ _) (Nat.le_refl _) _)
   have X7:=hid (show RB 205 W7 w6.heap.size (nx:Int) (some ⟨g6,0,none⟩) 512 cap6 by rw [hW7];exact RB.new _ _ _ _ _ _)
   have A7:=hid (A6.out.widen (Q':=Plus (Plus R g6) w6.heap.size) B7.out (fun b hb=>by rcases hb with hb |rfl;exact Or.inl hb;exact Or.inr ⟨Nat.le_refl _,X7.out.lt⟩))
   have R7:=hid (R6.out.keep B7.out)
   have hft:(flat tr).length=(flat (tr.take i)).length+(1+x.2.length+(flat r).length):=by
    conv=>lhs;rw [←List.take_append_drop i tr,HD.out]
    rw [flat_append,flat_cons];simp;omega
   have HFT:=hid hft
   have hmb:m+1+x.2.length≤c:=by have:=HM.out;have:=HL.out;omega
   have hce:flat (tr.take (i+1))=flat (tr.take i)++(nx::x.2):=by
    have e1:tr[i]? = some x:=by have:=congrArg (·[0]?) HD.out;simpa using this
    rw [List.take_add_one,e1,flat_append,HX0.out];simp [flat]
   have HCE:=hid hce
   clear hft hce
   clear hW7 A6
   rw [←HW7.out]
   have SR:=hid (lit_src W7 [.int .i64 (nx:Int)] 3 (by intro x hx;simp at hx;subst hx;rfl))
   have B8:=hid (show Below W7.heap.size W7 (W7.alloc (.cells #[.int .i64 (nx:Int)] 3)) from Below.alloc (Below.refl _ _) (Nat.le_refl _) _)
   have A8:=hid (A7.out.below B8.out)
   have hw7:w.heap.size≤(W7.alloc (.cells #[.int .i64 (nx:Int)] 3)).heap.size:=Nat.le_trans (Nat.le_trans KR6.out.size B7.out.size) B8.out.size
   have HZ7:=hid hw7
   have HX9:Hid (∀ W,AO arm room croom (K+i+1) p q (Plus (Plus R g6) w6.heap.size) t w.heap.size W7 (.slice ao m cp) (flat (tr.take i)) W→True):=hid (fun _ _=>trivial)
   have CLv:=hid (fun W=>Jrn.leaves_any (nx:Int) g6 cap6 W)
   unfold Pv2 Jrn.rowV Jrn.rowC at CLv
   have CS6:=hid (fun W (hr:Row5 W wr.heap.size g6 cap6 (trunkN nx2 x.2))=>Jrn.size_any (nx:Int) g6 0 cap6 _ W hr.rd (Jrn.trunkN_bytes _ _))
   rw [Jrn.trunk_size nx2 x.2 (by have:=HX3.out;omega)]at CS6
   unfold Pv2 at CS6
   go_upto_region 13 with (first
    | ((with_reducible refine Dsk.here_op 41 ?_);refine Cch.wpList_app rfl (.tmp 38) (.tmp 40) el41 rfl (.slice ao m cp) m _ rfl (by have:=A8.out.o;rw [←HM.out]at this;exact rr_base this (Nat.zero_le _)) (some ⟨W7.heap.size,0,none⟩) 1 1 [.int .i64 (nx:Int)] rfl SR.out (by omega) ?_;intro a9 c9 w9 ho9 hg9 ha9;have A9:=hid (A8.out.app hw7 HM.out ho9 hg9 ha9);have X9:=hid (show RB 205 w9 w6.heap.size (nx:Int) (some ⟨g6,0,none⟩) 512 cap6 from (A9.out.k.at_ (Or.inr rfl) X7.out.lt).trans X7.out);have R9:=hid (R7.out.fr A9.out.k (fun e=>e.1 (Or.inl (Or.inr rfl))));obtain ⟨x0,x1,x2,x3⟩:=X9.out.cells;clear ho9 hg9 ha9)
    | (go_at_call 127;refine (CLv.out w9).mono ?_;rintro e w10 ⟨rfl,hb10⟩;have B10:=hid hb10;obtain ⟨W11,hW11⟩:∃ W11,W11=w10.alloc (.cells #[.func (.func 182) #[.agg #[.int .i64 (nx:Int),.slice (some ⟨g6,0,none⟩) 512 cap6]] #[],.func (.func 183) #[.agg #[.int .i64 (nx:Int),.slice (some ⟨g6,0,none⟩) 512 cap6]] #[],.int .i64 8,.int .i64 4,.int .i64 126] 211):=⟨_,rfl⟩;have HW11:=hid hW11;have B11:=hid (show Below w10.heap.size w10 W11 by rw [hW11];exact Below.alloc (Below.refl _ _) (Nat.le_refl _) _);have Y11:=hid (show Jrn.RowB W11 w10.heap.size (Pv2 (nx:Int) g6 0 cap6) 8 4 126 by rw [hW11];exact heap_alloc_new _ _);obtain ⟨x0,x1,x2,x3⟩:=(RB.keep (W':=w10.alloc (.cells #[.func (.func 182) #[.agg #[.int .i64 (nx:Int),.slice (some ⟨g6,0,none⟩) 512 cap6]] #[],.func (.func 183) #[.agg #[.int .i64 (nx:Int),.slice (some ⟨g6,0,none⟩) 512 cap6]] #[],.int .i64 8,.int .i64 4,.int .i64 126] 211)) (X9.out.keep hb10) (Below.alloc (Below.refl _ _) (Nat.le_refl _) _)).cells;have X11:=hid ((X9.out.keep hb10).keep B11.out);have R11:=hid ((R9.out.keep hb10).keep B11.out);have A11:=hid ((A9.out.below hb10).widen (Q':=Plus (Plus (Plus R g6) w6.heap.size) w10.heap.size) B11.out (fun b hb=>by rcases hb with hb | rfl;exact Or.inl hb;exact Or.inr ⟨Nat.le_refl _,(Array.getElem?_eq_some_iff.1 Y11.out).1⟩));clear hb10 hW11)
    | (go_at_call 128;rw [←HW11.out];refine (CS6.out W11 R11.out).mono ?_;rintro e w12 ⟨rfl,hb12⟩;have B12:=hid hb12;clear hb12))
   have A12:=hid (A11.out.below B12.out);have R12:=hid (R11.out.keep B12.out)
   have KR:Hid (Rok R w W11):=hid (((((KR6.out.below B7.out).then A9.out.k (fun b hb=>Or.inl (Or.inl hb))).below B10.out)).below B11.out)
   have HBG:=hid (show w.heap.size≤W11.heap.size from KR.out.size)
   have HLB:=hid HX3.out
   obtain ⟨L,hL⟩:∃ L,L=x.2.length:=⟨_,rfl⟩
   rw [←hL]at hmb ⊢
   have HLL:=hid hL
   have e0:((flat (tr.take i))++nx::x.2.take 0)=flat (tr.take i)++[nx]:=by simp
   have E0:=hid e0
   clear hL A7 A8 A9 A11 R6 R7 R9 B8 CT CLv CS6 HX9 x0 x1 x2 x3 e0
   go_loopg [6,46] L (fun k v6 v46 W=>∃ (j:Nat) (ao:Option Addr) (cp mm:Nat),j+k=L∧j≤L∧v46=.int .i64 (j:Int)∧v6=.slice ao mm cp∧Hid (mm=(flat (tr.take i)++nx::x.2.take j).length)∧Hid (AO arm room croom (K+i+1) p q (Plus (Plus (Plus R g6) w6.heap.size) w10.heap.size) t w.heap.size W11 (.slice ao mm cp) (flat (tr.take i)++nx::x.2.take j) W))
   case atStart=>exact ⟨0,a9,c9,m+1,by omega,by omega,rfl,rfl,hid (by rw [E0.out,List.length_append,←HM.out];rfl),hid (by rw [E0.out];exact A12.out)⟩
   case round=>
    obtain ⟨j,ao2,cp2,mm,hjk,hjL,rfl,rfl,HMM,A13⟩:=hrel
    clear A12
    have Y13:=hid (show Jrn.RowB wr (w10.heap.size) (Pv2 (nx:Int) g6 0 cap6) 8 4 126 from (A13.out.k.at_ (Or.inr rfl) (Array.getElem?_eq_some_iff.1 Y11.out).1).trans Y11.out)
    have X13:=hid (show RB 205 wr w6.heap.size (nx:Int) (some ⟨g6,0,none⟩) 512 cap6 from (A13.out.k.at_ (Or.inl (Or.inr rfl)) X11.out.lt).trans X11.out)
    have R13:=hid (R11.out.fr A13.out.k (fun e=>e.1 (Or.inl (Or.inl (Or.inr rfl)))))
    by_cases hjl:j<L
    ·have hjl':(j:Int)<(L:Int):=by omega
     obtain ⟨y0,y1,y2,y3,y4⟩:=Y13.out.cells
     have hy:=HX4.out (x.2.getD j 0) (by rw [List.getD,List.getElem?_eq_getElem (by rw [←HLL.out];exact hjl)];exact List.getElem_mem _)
     have CR:=hid (Jrn.rget_yes (nx:Int) g6 cap6 _ 8 4 126 j wr R13.out.rd (Jrn.trunkN_bytes _ _) (by omega) (by omega) (by have:=HLB.out;have:=HLL.out;omega) (by omega))
     rw [Jrn.trunk_leaf nx2 x.2 j (by rw [←HLL.out];exact hjl) (by have:=HBN.out;have:=HNE.out;omega),Jrn.wrap_small _ (by have:=HBN.out;have:=HNE.out;omega)]at CR
     have CH:=hid (fun W (hW:Below wr.heap.size wr W)=>has_any8 hb ((x.2.getD j 0:Nat):Int) (A13.out.p.keep hW) ((HH.out.rok (KR.out.then A13.out.k (fun b hb=>Or.inl (Or.inl (Or.inl hb)))) HR.out).keep hW))
     rw [show (decide (1<((x.2.getD j 0:Nat):Int))&&decide (((x.2.getD j 0:Nat):Int)≤(t.pages.length:Int)))=true by rw [decide_eq_true (by omega),decide_eq_true (by omega)];rfl]at CH
     have htk:x.2.take (j+1)=x.2.take j++[x.2.getD j 0]:=by
      rw [List.take_add_one,List.getD,List.getElem?_eq_getElem (by rw [←HLL.out];exact hjl)];rfl
     have HTK:=hid htk
     have hmm:mm≤5000:=by have h1:=HMM.out;rw [List.length_append,List.length_cons,List.length_take]at h1;have:=HM.out;omega
     clear htk hy
     generalize x.2.getD j 0=lf at *
     unfold Jrn.rowV Jrn.rowC Pv2 at CR
     unfold Pv2 at y0 y1
     go_wp2_with (first
      | (go_at_call 129;refine CR.out.mono ?_;rintro e w14 ⟨rfl,hb14⟩;have B14:=hid hb14;clear hb14)
      | (go_at_call 130;refine (CH.out w14 B14.out).mono ?_;rintro e w15 ⟨rfl,hb15⟩;have B15:=hid (gt B14.out hb15);have A15:=hid ((A13.out.below B15.out).below (Below.alloc (Below.refl _ _) (Nat.le_refl _) (.cells #[.int .i64 (lf:Int)] 3)));have SR2:=hid (lit_src w15 [.int .i64 (lf:Int)] 3 (by intro x hx;simp at hx;subst hx;rfl));have hz15:=hid (show w.heap.size≤(w15.alloc (.cells #[.int .i64 (lf:Int)] 3)).heap.size from (by have h1:=A15.out.k.size;have h2:=HBG.out;omega));clear hb15)
      | ((with_reducible refine Dsk.here_op 62 ?_);refine Cch.wpList_app rfl (.tmp 59) (.tmp 61) el41 rfl (.slice ao2 mm cp2) mm _ rfl (by have:=A15.out.o;rw [←HMM.out]at this;exact rr_base this (Nat.zero_le _)) (some ⟨w15.heap.size,0,none⟩) 1 1 [.int .i64 (lf:Int)] rfl SR2.out (by omega) ?_;intro a16 c16 w16 ho16 hg16 ha16;have A16:=hid (A15.out.app hz15.out HMM.out ho16 hg16 ha16);clear ho16 hg16 ha16))
     go_roundg (gk - 1)
     case measure=>omega
     case rel=>
      refine ⟨j+1,a16,c16,mm+1,by omega,by omega,by go_num,rfl,hid ?_,hid ?_⟩
      ·rw [HTK.out,List.length_append,List.length_cons,List.length_append,HMM.out,List.length_append,List.length_cons];simp;omega
      ·have:=A16.out
       rw [List.append_assoc,List.cons_append,←HTK.out]at this
       exact this
    ·obtain rfl:j=L:=by omega
     have hjl':¬(j:Int)<(j:Int):=by omega
     have hfl:flat (tr.take i)++nx::x.2.take j=flat (tr.take (i+1)):=by rw [HCE.out,HLL.out,List.take_length]
     have hmc:¬(c:Int)<(mm:Int):=by
      have h1:=HMM.out
      rw [hfl,HCE.out,List.length_append,List.length_cons]at h1
      have:=HM.out;have:=HLL.out;omega
     have HFL:=hid hfl
     obtain ⟨x0,x1,x2,x3⟩:=X13.out.cells
     have CN:=hid (Jrn.next_any (nx:Int) g6 0 cap6 _ wr R13.out.rd (Jrn.trunkN_bytes _ _))
     rw [Jrn.trunk_next nx2 x.2 HX5.out]at CN
     unfold Pv2 at CN
     have hdr:tr.drop (i+1)=r:=by have:=congrArg (List.drop 1) HD.out;rw [List.drop_drop]at this;simpa using this
     have HDR:=hid hdr
     clear hfl hdr
     go_wp2_with (go_at_call 131;refine CN.out.mono ?_;rintro e w17 ⟨rfl,hb17⟩;have B17:=hid hb17;clear hb17)
     go_roundg (gk0 - 1)
     case measure=>omega
     case rel=>
      have hib:i≤100000:=by have:=HN.out;have:=HBN.out;omega
      refine ⟨i+1,nx2,ao2,cp2,mm,by omega,by omega,(by rw [IntWalk.wrap64_in ((i:Int)+1) ⟨by omega,by omega⟩];simp),rfl,rfl,hid ?_,hid ?_,hid ?_⟩
      ·rw [←HFL.out];exact HMM.out
      ·rw [HDR.out];exact HX7.out
      ·have:=(A13.out.below B17.out).narrow (Q:=R) (fun b hb=>Or.inl (Or.inl (Or.inl hb))) KR.out
       rw [HFL.out]at this
       exact this
end
end
end Go.Proofs.YtfcikkechphmaaaGreatDoor
