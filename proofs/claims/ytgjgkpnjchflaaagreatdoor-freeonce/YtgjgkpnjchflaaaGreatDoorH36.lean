/- A heap's pager: blocks that must not turn, pages that are got; no statement of the seat is proved here. -/
import Derived.Test.YtgjgkpnjchflaaaGreatDoorH10
import Derived.Test.YtgjgkpnjchflaaaGreatDoorH35
set_option maxHeartbeats 16000000
set_option maxRecDepth 20000
namespace Go.Proofs.YtgjgkpnjchflaaaGreatDoor
section
open Go.RowKit Go.Maps
open Dsk (gt hid undrew keep_old keep_cell lt_cell Rd)
open Cch (Fr)
open Jrn (Pv2 Row5 numAt RB)
section
variable {arm:Prop} {room croom K:Nat} {p q:Nat} {R:Nat→Prop} {t:RS} {w:World}
def Plus(R:Nat→Prop)(g:Nat):Nat→Prop:=fun b=>R b∨b=g
variable {R':Nat→Prop} {w':World}
theorem PrgAt.more(h:PrgAt arm room croom K w p q R t)(hb:Below w.heap.size w w')(hR:∀ b,R' b→R b∨(w.heap.size≤b∧b<w'.heap.size)):PrgAt arm room croom K w' p q R' t:=by
 obtain ⟨x,P,C,d,s,n,enc,ms,h⟩:=h
 refine ⟨x,P,C,d,s,n,enc,ms,h.live.later hb,h.q,h.busy,h.com,h.mb,h.mr,fun b hb' hr=>?_,h.sure,h.env,h.ops,h.hm,h.rm,h.nk,h.nm,fun b hb'=>?_⟩
 ·rcases hR b hr with h1 |h1
  ·exact h.off b hb' h1
  ·have:=h.live.lt b hb';omega
 ·rcases hR b hb' with h1 |h1
  ·exact Nat.lt_of_lt_of_le (h.rl b h1) hb.size
  ·exact h1.2
theorem PrgAt.less(h:PrgAt arm room croom K w p q R t)(hR:∀ b,R' b→R b):PrgAt arm room croom K w p q R' t:=h.more (Below.refl _ _) (fun b hb=>Or.inl (hR b hb))
theorem PrgAt.keep(h:PrgAt arm room croom K w p q R t)(hb:Below w.heap.size w w'):PrgAt arm room croom K w' p q R t:=h.more hb (fun _ h=>Or.inl h)
theorem PrgAt.new{g:Nat}(h:PrgAt arm room croom K w p q R t)(hb:Below w.heap.size w w')(h1:w.heap.size≤g)(h2:g<w'.heap.size):PrgAt arm room croom K w' p q (Plus R g) t:=h.more hb (fun b hb=>by rcases hb with hb |rfl;exact Or.inl hb;exact Or.inr ⟨h1,h2⟩)
theorem PrgAt.mine(h:PrgAt arm room croom K w p q R t)(hf:Fr R w w'):PrgAt arm room croom K w' p q R t:=by
 obtain ⟨x,P,C,d,s,n,enc,ms,h⟩:=h
 exact ⟨x,P,C,d,s,n,enc,ms,h.live.off hf h.off,h.q,h.busy,h.com,h.mb,h.mr,h.off,h.sure,h.env,h.ops,h.hm,h.rm,h.nk,h.nm,fun b hb=>Nat.lt_of_lt_of_le (h.rl b hb) hf.size⟩
theorem PrgAt.up{K':Nat}(h:PrgAt arm room croom K w p q R t)(hk:K≤K'):PrgAt arm room croom K' w p q R t:=by
 obtain ⟨x,P,C,d,s,n,enc,ms,h⟩:=h
 exact ⟨x,P,C,d,s,n,enc,ms,h.live,h.q,h.busy,h.com,h.mb,h.mr,h.off,h.sure,h.env,Nat.le_trans h.ops hk,Nat.le_trans h.hm hk,h.rm,Nat.le_trans h.nk hk,fun k hk'=>Nat.le_trans (h.nm k hk') hk,h.rl⟩
theorem PrgAt.lt(h:PrgAt arm room croom K w p q R t){b:Nat}(hb:R b):b<w.heap.size:=by
 obtain ⟨x,P,C,d,s,n,enc,ms,h⟩:=h
 exact h.rl b hb
theorem prg_pages(h:PrgAt arm room croom K w p q R t):Calls Tryz.prog 10 #[.pointer (some ⟨p,0,none⟩)] w fun e w'=>e=.returned (.int .i64 (t.pages.length:Int))∧Below w.heap.size w w':=by
 obtain ⟨x,P,C,d,s,n,enc,ms,h⟩:=h
 have:=pages_live p x w h.live.tx.core.hd
 rw [h.live.tx.np]at this
 exact this
theorem prg_busy(h:PrgAt arm room croom K w p q R t):Calls Tryz.prog 85 #[.pointer (some ⟨p,0,none⟩)] w fun e w'=>e=.returned (.bool t.busy)∧Below w.heap.size w w':=by
 obtain ⟨x,P,C,d,s,n,enc,ms,h⟩:=h
 have:=busy_live p x w h.live.tx.core.hd
 rw [h.busy]at this
 exact this
theorem prg_get(i:Nat)(h:PrgAt arm room croom K w p q R t)(hi:i<t.pages.length)(hK:K≤800000):Calls Tryz.prog 100 #[.pointer (some ⟨p,0,none⟩),.int .i64 ((i+1:Nat):Int)] w fun e w'=>∃ g cap,e=.returned (.tuple #[.slice (some ⟨g,0,none⟩) 512 cap,.int .i64 0])∧Row5 w' w.heap.size g cap (t.pages.getD i [])∧w.heap.size≤g∧PrgAt arm room croom (K+1) w' p q (Plus R g) t∧Rok R w w':=by
 obtain ⟨x,P,C,d,s,n,enc,ms,h⟩:=h
 refine (get_own p i x P C d s t.sure n t.pages t.ch enc w h.live.tx hi (by rw [h.sure.f0];rfl) h.env.on (by have:=h.hm;omega)).mono ?_
 rintro e w' ⟨a,cap,rfl,⟨hr,ho⟩,ha,⟨C',s',hT,hO,hM,hs,hrm⟩,hf⟩
 obtain ⟨a',cur,e1,e2,_,e3,_⟩:=row5 ho
 obtain rfl:=Option.some.inj e1
 have ea:a=⟨a.block,0,none⟩:=by
  rcases ho.2 with ⟨h',_⟩ | ⟨g',cap',cur,h',_⟩
  ·cases h'
  ·simp only [Value.slice.injEq,Option.some.injEq]at h'
   rw [h'.1]
 obtain ⟨⟨P2,C2,s2,enc2,hl,hsup,hs2,hr2⟩,hfr⟩:=h.live.moved hT hM hf hs hrm
 have hmv:=h.live.moved hT hM hf hs hrm
 obtain ⟨h1,h2⟩:=h.to (t':=t) hmv rfl rfl rfl rfl h.busy h.com h.mb h.mr h.sure h.env (by omega) (by omega) (by have:=h.nk;omega) (fun k hk=>by have:=h.nm k hk;omega)
 rw [ea]at ho ⊢
 refine ⟨a.block,cap,rfl,ho,ha,?_,h2⟩
 have hm:K≤K+1:=by omega
 have hLv:Live w' p x P C' d s' t.sure n t.pages t.ch enc ms:=by
  obtain ⟨ho',_⟩:(∀ b,Out w (NC p x P C) b→Out w' (NC p x P C') b)∧True:=⟨fun b hb=>hM.out hf.size hb,trivial⟩
  exact ⟨hT,h.live.mks.move ⟨rfl,rfl,rfl,rfl⟩ (fun k hk=>(h.live.mks.each k hk).2) ho' (fun b hb=>⟨fun o v hc=>fr_cell hf hc hb.2,fun _=>hf.blk b hb.1 hb.2⟩) (mv_ne h.live.mks.row h.live.tx.chg.map),h.live.sep,fun b o l cc hb=>ho' b (h.live.eb b o l cc hb),fun k hk b o l cc hb=>ho' b (h.live.ek k hk b o l cc hb)⟩
 refine ⟨x,P,C',d,s',n,enc,ms,hLv,h.q,h.busy,h.com,h.mb,h.mr,fun b hb hR=>?_,h.sure,h.env,Nat.le_trans h.ops hm,by have:=h.hm;omega,hrm.trans h.rm,by have:=h.nk;omega,fun k hk=>by have:=h.nm k hk;omega,fun b hb=>?_⟩
 ·rcases hb with hb |hb
  ·rcases hR with hR |rfl
   ·rcases hM b hb with h5 |h5
    ·exact h.off b (Or.inl h5) hR
    ·have:=h.rl b hR;omega
   ·exact hO.2 hb
  ·rcases hR with hR |rfl
   ·exact h.off b (Or.inr hb) hR
   ·have:a.block<w.heap.size:=h.live.lt a.block (Or.inr hb)
    omega
 ·rcases hb with hb |rfl
  ·exact Nat.lt_of_lt_of_le (h.rl b hb) hf.size
  ·exact hO.1
end
end
section
open Go.RowKit Go.Maps
open Dsk (gt hid undrew keep_old keep_cell lt_cell Rd)
open Cch (Fr)
open Jrn (Pv2 Row5 numAt RB fr_two)
section
variable {arm:Prop} {room croom K:Nat} {p q:Nat} {R:Nat→Prop} {t:RS} {w:World}
def HeapAt(w:World)(hb p:Nat):Prop:=w.heap[hb]? = some (.cells #[.pointer (some ⟨p,0,none⟩)] 63 (0,0))
variable {hb p:Nat} {w:World}
theorem HeapAt.cell(h:HeapAt w hb p):w.cell? ⟨hb,0,none⟩=some (.pointer (some ⟨p,0,none⟩)):=by
 unfold HeapAt at h;simp [World.cell?,h]
theorem HeapAt.lt(h:HeapAt w hb p):hb<w.heap.size:=(Array.getElem?_eq_some_iff.1 h).1
variable {w':World}
theorem HeapAt.keep(h:HeapAt w hb p)(b:Below w.heap.size w w'):HeapAt w' hb p:=(b.block hb h.lt).trans h
theorem HeapAt.fr{E:Nat→Prop}(h:HeapAt w hb p)(f:Fr E w w')(hE:¬E hb):HeapAt w' hb p:=(f.blk hb h.lt hE).trans h
theorem HeapAt.rok{R:Nat→Prop}(h:HeapAt w hb p)(f:Rok R w w')(hR:R hb):HeapAt w' hb p:=(f.at_ hR h.lt).trans h
theorem Rok.of_below(h:Below w.heap.size w w'):Rok R w w':=Fr.of_below h
variable {w1:World} {R':Nat→Prop}
theorem Rok.after{w0:World}(h0:Below w.heap.size w w0)(h1:Rok R' w0 w1)(hR:∀ b,R b→R' b):Rok R w w1:=(Fr.of_below h0).trans h1 (fun j _ hj=>⟨fun h=>hj.1 (hR j h),hj.2⟩)
variable {w2:World}
theorem Rok.then(h:Rok R w w1)(k:Rok R' w1 w2)(hR:∀ b,R b→R' b):Rok R w w2:=h.trans k (fun j _ hj=>⟨fun h=>hj.1 (hR j h),hj.2⟩)
theorem Rok.mine{S:Nat→Prop}(h:Rok R w w1)(k:Fr S w1 w2)(hS:∀ b,S b→w.heap.size≤b):Rok R w w2:=h.trans k (fun j hj h=>by have:=hS j h;omega)
theorem Rok.below(h:Rok R w w1)(k:Below w1.heap.size w1 w2):Rok R w w2:=h.trans (Fr.of_below (S:=fun _=>False) k) (fun _ _ h=>h.elim)
theorem has_any8(hb:Nat)(n:Int)(h:PrgAt arm room croom K w p q R t)(hh:HeapAt w hb p) :
  Calls Tryz.prog 37 #[.pointer (some ⟨hb,0,none⟩),.int .i64 n] w fun e w'=>e=.returned (.bool (decide (1<n)&&decide (n≤(t.pages.length:Int))))∧Below w.heap.size w w':=by
 have c:=hh.cell
 have CP:=hid (prg_pages h)
 clear h hh
 generalize (t.pages.length:Int)=L at *
 by_cases h1:1<n
 ·rw [show (decide (1<n)&&decide (n≤L))=decide (n≤L) by simp [h1]]
  go_enter Tryz.func37,Tryz.ntmps37
  go_wp2_with (go_at_call 10;refine CP.out.mono ?_;rintro e w1 ⟨rfl,hb1⟩;have B1:=hid hb1;clear hb1)
  go_ret
  exact ⟨rfl,B1.out⟩
 ·rw [show (decide (1<n)&&decide (n≤L))=false by simp [h1]]
  go_enter Tryz.func37,Tryz.ntmps37
  go_wp2
  go_ret
  exact ⟨rfl,Below.refl _ _⟩
theorem within_yes(h:PrgAt arm room croom K w p q R t)(hb:t.busy=true) :
  Calls Tryz.prog 45 #[.pointer (some ⟨p,0,none⟩)] w fun e w'=>e=.returned (.int .i64 0)∧Below w.heap.size w w':=by
 have CB:=hid (prg_busy h)
 rw [hb]at CB
 clear h
 go_enter Tryz.func45,Tryz.ntmps45
 go_wp2_with (go_at_call 85;refine CB.out.mono ?_;rintro e w1 ⟨rfl,hb1⟩;have B1:=hid hb1;clear hb1)
 go_ret
 exact ⟨rfl,B1.out⟩
theorem agg81(W:World):(isAgg 81).run Tryz.prog W=.ok true W:=by kernel_rfl
theorem size81(W:World):(Go.sizeOf 81).run Tryz.prog W=.ok 2 W:=by kernel_rfl
theorem agg83(W:World):(isAgg 83).run Tryz.prog W=.ok true W:=by kernel_rfl
theorem size83(W:World):(Go.sizeOf 83).run Tryz.prog W=.ok 2 W:=by kernel_rfl
theorem agg118(W:World):(isAgg 118).run Tryz.prog W=.ok true W:=by kernel_rfl
theorem size118(W:World):(Go.sizeOf 118).run Tryz.prog W=.ok 2 W:=by kernel_rfl
theorem hget_yes(hb i:Nat)(h:PrgAt arm room croom K w p q R t)(hh:HeapAt w hb p)(hi:i<t.pages.length)(hK:K≤800000) :
  Calls Tryz.prog 63 #[.pointer (some ⟨hb,0,none⟩),.int .i64 ((i+1:Nat):Int)] w fun e w'=>∃ g cap,e=.returned (.tuple #[Pv2 ((i+1:Nat):Int) g 0 cap,.int .i64 0])∧Row5 w' w.heap.size g cap (t.pages.getD i [])∧w.heap.size≤g∧PrgAt arm room croom (K+1) w' p q (Plus R g) t∧Rok R w w':=by
 have B0:=hid (show Below w.heap.size w (w.alloc (.cells #[.int .i64 0,.slice none 0 0] 81)) from Below.alloc (Below.refl _ _) (Nat.le_refl _) _)
 have C1:=hid (prg_get i (h.new B0.out (Nat.le_refl _) (by simp)) hi hK)
 have HX:=hid (RB.new 81 w 0 none 0 0)
 have c0:=(hh.keep B0.out).cell
 generalize ((i+1:Nat):Int)=z at *
 clear h hh
 unfold Pv2
 go_enter Tryz.func63,Tryz.ntmps63
 go_wp2_with (go_at_call 100;refine C1.out.mono ?_;rintro e w1 ⟨g,cap,rfl,hr,hg,hP,hok⟩;have R1:=hid hr;have HG:=hid hg;have P1:=hid hP;have K1:=hid hok;have X1:=hid (show RB 81 w1 w.heap.size 0 none 0 0 from (hok.at_ (Or.inr rfl) (by simp)).trans HX.out);obtain ⟨x0,x1,x2,x3⟩:=X1.out.cells;clear hr hg hP hok)
 refine bodyPost_ret (Jrn.ret_rec rfl agg81 size81 rfl (RB.set X1.out _ _ _ _)) rfl ?_
 have hz:w.heap.size+1≤g:=by have:=HG.out;simpa using this
 refine ⟨g,cap,rfl,(R1.out.fr (fr_two _ _ _ _) (by omega)).base (by simp),by omega,?_,?_⟩
 ·exact (P1.out.mine (fr_imp (fr_two w1 w.heap.size _ _) (fun b hb=>Or.inl (Or.inr hb)))).less (fun b hb=>by rcases hb with hb |hb;exact Or.inl (Or.inl hb);exact Or.inr hb)
 ·exact (Rok.after B0.out K1.out (fun b hb=>Or.inl hb)).mine (fr_two w1 w.heap.size _ _) (fun b hb=>by omega)
theorem root_yes(hb:Nat)(h:PrgAt arm room croom K w p q R t)(hh:HeapAt w hb p)(hi:0<t.pages.length)(hK:K≤800000) :
  Calls Tryz.prog 31 #[.pointer (some ⟨hb,0,none⟩)] w fun e w'=>∃ g cap,e=.returned (.tuple #[Pv2 1 g 0 cap,.int .i64 0])∧Row5 w' w.heap.size g cap (t.pages.getD 0 [])∧w.heap.size≤g∧PrgAt arm room croom (K+1) w' p q (Plus R g) t∧Rok R w w':=by
 have B0:=hid (show Below w.heap.size w (w.alloc (.cells #[.int .i64 0,.slice none 0 0] 83)) from Below.alloc (Below.refl _ _) (Nat.le_refl _) _)
 have C1:=hid (hget_yes hb 0 (h.new B0.out (Nat.le_refl _) (by simp)) (hh.keep B0.out) hi hK)
 have HX:=hid (RB.new 83 w 0 none 0 0)
 have HL:=hid hh.lt
 clear h hh
 unfold Pv2 at *
 go_enter Tryz.func31,Tryz.ntmps31
 go_wp2_with (go_at_call 63;refine C1.out.mono ?_;rintro e w1 ⟨g,cap,rfl,hr,hg,hP,hok⟩;have R1:=hid hr;have HG:=hid hg;have P1:=hid hP;have K1:=hid hok;have X1:=hid ((show RB 83 w1 w.heap.size 0 none 0 0 from (hok.at_ (Or.inr rfl) (by simp)).trans HX.out).keep (Below.alloc (Below.refl _ _) (Nat.le_refl _) (.cells #[.int .i64 1,.slice (some ⟨g,0,none⟩) 512 cap] 81)));obtain ⟨x0,x1,x2,x3⟩:=X1.out.cells;have S1:=hid hok.size;clear hr hg hP hok)
 refine bodyPost_ret (Jrn.ret_rec rfl agg83 size83 rfl (RB.set X1.out _ _ _ _)) rfl ?_
 have hz:w.heap.size+1≤g:=by have:=HG.out;simpa using this
 have BA:Below w1.heap.size w1 (w1.alloc (.cells #[.int .i64 1,.slice (some ⟨g,0,none⟩) 512 cap] 81)):=Below.alloc (Below.refl _ _) (Nat.le_refl _) _
 refine ⟨g,cap,rfl,((R1.out.keep BA).fr (fr_two _ _ _ _) (by omega)).base (by simp),by omega,?_,?_⟩
 ·exact ((P1.out.keep BA).mine (fr_imp (fr_two _ w.heap.size _ _) (fun b hb=>Or.inl (Or.inr hb)))).less (fun b hb=>by rcases hb with hb |hb;exact Or.inl (Or.inl hb);exact Or.inr hb)
 ·exact ((Rok.after B0.out K1.out (fun b hb=>Or.inl hb)).below BA).mine (fr_two _ w.heap.size _ _) (fun b hb=>by omega)
theorem changing_yes(hb:Nat)(h:PrgAt arm room croom K w p q R t)(hh:HeapAt w hb p)(hbz:t.busy=true)(hi:0<t.pages.length)(hK:K≤800000) :
  Calls Tryz.prog 34 #[.pointer (some ⟨hb,0,none⟩)] w fun e w'=>∃ g cap,e=.returned (.tuple #[Pv2 1 g 0 cap,.int .i64 0])∧Row5 w' w.heap.size g cap (t.pages.getD 0 [])∧w.heap.size≤g∧PrgAt arm room croom (K+1) w' p q (Plus R g) t∧Rok R w w':=by
 have B0:=hid (show Below w.heap.size w (w.alloc (.cells #[.int .i64 0,.slice none 0 0] 83)) from Below.alloc (Below.refl _ _) (Nat.le_refl _) _)
 have P0:=hid (h.new B0.out (Nat.le_refl _) (by simp))
 have CW:=hid (within_yes P0.out hbz)
 have C1:=hid (fun W (hW:Below (w.alloc (.cells #[.int .i64 0,.slice none 0 0] 83)).heap.size (w.alloc (.cells #[.int .i64 0,.slice none 0 0] 83)) W)=>root_yes hb (P0.out.keep hW) ((hh.keep B0.out).keep hW) hi hK)
 have HX:=hid (RB.new 83 w 0 none 0 0)
 have c0:=(hh.keep B0.out).cell
 clear h hh
 unfold Pv2 at *
 go_enter Tryz.func34,Tryz.ntmps34
 go_wp2_with (first
  | (go_at_call 45;refine CW.out.mono ?_;rintro e w0 ⟨rfl,hb0⟩;have B1:=hid hb0;clear hb0)
  | (go_at_call 31;refine (C1.out w0 B1.out).mono ?_;rintro e w1 ⟨g,cap,rfl,hr,hg,hP,hok⟩;have R1:=hid hr;have HG:=hid hg;have P1:=hid hP;have K1:=hid hok;have X1:=hid (show RB 83 w1 w.heap.size 0 none 0 0 from (hok.at_ (Or.inr rfl) (HX.out.keep B1.out).lt).trans (HX.out.keep B1.out));obtain ⟨x0,x1,x2,x3⟩:=X1.out.cells;clear hr hg hP hok))
 refine bodyPost_ret (Jrn.ret_rec rfl agg83 size83 rfl (RB.set X1.out _ _ _ _)) rfl ?_
 have hz:w.heap.size+1≤g:=by have:=HG.out;have h2:=B1.out.size;simp at h2;omega
 refine ⟨g,cap,rfl,(R1.out.fr (fr_two _ _ _ _) (by omega)).base (by have h2:=B1.out.size;simp at h2;omega),by omega,?_,?_⟩
 ·exact (P1.out.mine (fr_imp (fr_two _ w.heap.size _ _) (fun b hb=>Or.inl (Or.inr hb)))).less (fun b hb=>by rcases hb with hb |hb;exact Or.inl (Or.inl hb);exact Or.inr hb)
 ·exact (Rok.after (gt B0.out B1.out) K1.out (fun b hb=>Or.inl hb)).mine (fr_two _ w.heap.size _ _) (fun b hb=>by omega)
end
end
section
open Go.RowKit Go.Maps
open Dsk (gt hid undrew keep_old keep_cell lt_cell Rd)
open Cch (Fr wpAnyK wpAnyK_done wp_region_K)
open Jrn (Pv2 Row5 numAt RB fr_two)
structure PgI where
 n:Nat
 g:Nat
 cap:Nat
 b:List Nat
def Pgs(w:World)(ab:Nat)(l:List PgI):Prop:=∀ i x,l[i]? = some x→w.cell? ⟨ab,i*2,none⟩=some (.int .i64 (x.n:Int))∧w.cell? ⟨ab,i*2+1,none⟩=some (.slice (some ⟨x.g,0,none⟩) 512 x.cap)∧Rd w (some ⟨x.g,0,none⟩) 512 x.cap x.b
variable {R:Nat→Prop}
theorem Pgs.rok{w w':World}{ab:Nat}{l:List PgI}(h:Pgs w ab l)(f:Rok R w w')(h1:R ab)(h2:∀ x∈l,R x.g):Pgs w' ab l:=fun i x hx=>by
 obtain ⟨c0,c1,c2⟩:=h i x hx
 refine ⟨fr_cell f c0 (fun e=>e.1 h1),fr_cell f c1 (fun e=>e.1 h1),rd_fr f c2 (fun _ a ha=>?_)⟩
 obtain rfl:=Option.some.inj ha
 exact fun e=>e.1 (h2 x (List.mem_of_getElem? hx))
def RS.puts(t:RS):List PgI→RS
 | []=>t
 | x::l=>(t.put (x.n - 1) x.b).puts l
theorem RS.puts_app(t:RS)(l m:List PgI):t.puts (l++m)=(t.puts l).puts m:=by
 induction l generalizing t with
 | nil=>rfl
 | cons x l ih=>exact ih _
theorem RS.puts_now(t:RS)(l:List PgI):(t.puts l).now.length=t.now.length∧(t.puts l).busy=t.busy:=by
 induction l generalizing t with
 | nil=>exact ⟨rfl,rfl⟩
 | cons x l ih=>obtain ⟨h1,h2⟩:=ih (t.put (x.n - 1) x.b);exact ⟨h1.trans (by simp [RS.put]),h2⟩
def S3(hb p b:Nat)(x:PgI)(W:World):Prop:=W.cell? ⟨hb,0,none⟩=some (.pointer (some ⟨p,0,none⟩))∧W.cell? ⟨b,0,none⟩=some (.int .i64 (x.n:Int))∧W.cell? ⟨b,1,none⟩=some (.slice (some ⟨x.g,0,none⟩) 512 x.cap)
theorem S3.rok{hb p b:Nat}{x:PgI}{W W':World}(h:S3 hb p b x W)(f:Rok R W W')(h1:R hb)(h2:R b):S3 hb p b x W':=⟨fr_cell f h.1 (fun e=>e.1 h1),fr_cell f h.2.1 (fun e=>e.1 h2),fr_cell f h.2.2 (fun e=>e.1 h2)⟩
section
variable {arm:Prop} {room croom K:Nat} {p q:Nat} {R:Nat→Prop} {t:RS} {w:World}
theorem hput_any(hb ab cp:Nat)(l:List PgI)(h:PrgAt arm room croom K w p q R t)(hh:HeapAt w hb p)(hR:R hb)(hp:Pgs w ab l)(hab:R ab)(hg:∀ x∈l,R x.g)(hbz:t.busy=true)(hn:∀ x∈l,1≤x.n∧x.n≤t.now.length)(hx:∀ x∈l,∀ y∈x.b,y<256)(hK:K+l.length≤500000) :
  Calls Tryz.prog 46 #[.pointer (some ⟨hb,0,none⟩),.slice (some ⟨ab,0,none⟩) l.length cp] w fun e w'=>e=.returned (.int .i64 0)∧PrgAt arm room croom (K+l.length) w' p q R (t.puts l)∧Rok R w w':=by
 have H:=hid h;have HH:=hid hh;have HP:=hid hp;have HN:=hid hn;have HX:=hid hx;have HGG:=hid hg;have HRH:=hid hR;have HRA:=hid hab;have HBZ:=hid hbz
 obtain ⟨L,hL⟩:∃ L,L=l.length:=⟨_,rfl⟩
 rw [←hL]at hK ⊢
 have HL:=hid hL
 clear h hh hp hn hx hg hR hab hbz hL
 go_enter Tryz.func46,Tryz.ntmps46
 go_wp2
 go_loopw [10] (fun cc W=>∃ (i:Nat),i≤L∧cc=.int .i64 (i:Int)∧Hid (PrgAt arm room croom (K+i) W p q R (t.puts (l.take i)))∧Hid (Rok R w W)) (fun cc _=>L - (Lib.intOf cc).toNat)
 case atStart=>exact ⟨0,by omega,rfl,H,hid (Rok.of_below (Below.refl _ _))⟩
 case round=>
  obtain ⟨i,hi,rfl,P1,K1⟩:=hrel
  by_cases hiL:i<L
  ·have hiL':(i:Int)<(L:Int):=by omega
   obtain ⟨x,hx⟩:∃ x,l[i]? = some x:=⟨_,List.getElem?_eq_getElem (by rw [←HL.out];exact hiL)⟩
   have hxm:x∈l:=List.mem_of_getElem? hx
   obtain ⟨c0,c1,c2⟩:=HP.out.rok K1.out HRA.out HGG.out i x hx
   have hN:=HN.out x hxm
   have C2:=hid c2
   have hh2:=HH.out.rok K1.out HRH.out
   have B0:=hid (show Below wr.heap.size wr (wr.alloc (.cells #[.int .i64 (x.n:Int),.slice (some ⟨x.g,0,none⟩) 512 x.cap] 81)) from Below.alloc (Below.refl _ _) (Nat.le_refl _) _)
   have X0:=hid (RB.new 81 wr (x.n:Int) (some ⟨x.g,0,none⟩) 512 x.cap)
   have H0:=hid (hh2.keep B0.out)
   have P0:=hid (P1.out.new B0.out (Nat.le_refl _) (by simp))
   have CP:=hid (fun W (hW:Below (wr.alloc (.cells #[.int .i64 (x.n:Int),.slice (some ⟨x.g,0,none⟩) 512 x.cap] 81)).heap.size (wr.alloc (.cells #[.int .i64 (x.n:Int),.slice (some ⟨x.g,0,none⟩) 512 x.cap] 81)) W)=>prg_put_yes (x.n - 1) x.g 0 x.cap x.b (P0.out.keep hW) ((RS.puts_now t _).2.trans HBZ.out) (by rw [(RS.puts_now t _).1];omega) (by omega) ((C2.out.keep B0.out).keep hW) (HX.out x hxm))
   rw [show x.n - 1+1=x.n by omega]at CP
   have hal:¬ab=wr.heap.size:=by have h9:ab<wr.heap.size:=lt_cell c0;omega
   clear hN c2 hh2
   obtain ⟨W0,hW0⟩:∃ W0,W0=wr.alloc (.cells #[.int .i64 (x.n:Int),.slice (some ⟨x.g,0,none⟩) 512 x.cap] 81):=⟨_,rfl⟩
   have HW0:=hid hW0
   rw [←hW0]at B0 X0 H0 P0 CP
   have hs0:S3 hb p wr.heap.size x W0.drew:=⟨H0.out.cell,X0.out.cells.1,X0.out.cells.2.1⟩
   clear hW0
   go_upto_region 4 with fail
   rw [←HW0.out]
   refine wp_region_K (S:=S3 hb p wr.heap.size x) (fun _=>false) (by kernel_rfl) hs0 (fun hHeld=>?_)
   refine gkp 0 ?_
   refine gkp 1 ?_
   refine gkp 2 ?_
   refine gkt 3 ?_ (h:=by intro W hSw;obtain ⟨k0,k1,k2⟩:=hSw;go_simp;first |done |with_reducible rfl)
   refine gkp 4 ?_
   refine gkt 5 ?_ (h:=by intro W hSw;obtain ⟨k0,k1,k2⟩:=hSw;go_simp;first |done |with_reducible rfl)
   refine gkp 6 ?_
   refine gkt 7 ?_ (h:=by intro W hSw;obtain ⟨k0,k1,k2⟩:=hSw;go_simp;first |done |with_reducible rfl)
   refine gk1 8 (fun K hK=>?_)
   go_simp
   go_at_call 86;refine (CP.out W0.drew (Below.refl _ _).drew).mono ?_;rintro e w2 ⟨rfl,hP2,hok2⟩;have P2:=hid hP2;have K2:=hid hok2;have hR:S3 hb p wr.heap.size x w2:=hs0.rok hok2 (Or.inl HRH.out) (Or.inr rfl);clear hP2 hok2
   refine hK.out _ _ hR (fun hHeld=>?_)
   clear hK K
   (try simp only [Act.put,sA,sZ,sS])
   refine gkp 9 ?_
   refine wpAnyK_done (by kernel_rfl) ?_ _
   clear hHeld hR hs0
   go_wp2
   go_roundw
   case measure=>simp [Lib.intOf];omega
   case rel=>
    refine ⟨i+1,by omega,by go_num,hid ?_,hid ?_⟩
    ·have e1:l.take (i+1)=l.take i++[x]:=by rw [List.take_add_one,hx];rfl
     rw [e1,RS.puts_app]
     exact P2.out.less (fun b hb=>Or.inl hb)
    ·exact K1.out.then (Rok.after (R:=R) B0.out.drew K2.out (fun b hb=>Or.inl hb)) (fun _ h=>h)
  ·obtain rfl:i=L:=by omega
   have hiL':¬(i:Int)<(i:Int):=by omega
   go_wp2
   go_ret
   refine ⟨rfl,?_,K1.out⟩
   have:=P1.out
   rw [HL.out,List.take_length]at this
   rw [HL.out];exact this
end
end
section
open Go.RowKit Go.Maps
open Dsk (gt hid undrew keep_old keep_cell lt_cell Rd)
open Cch (Fr wpAnyK wpAnyK_done wp_region_K)
open Jrn (Pv2 Row5 numAt RB fr_two trunkN rootN)
section
variable {arm:Prop} {room croom K:Nat} {p q:Nat} {R:Nat→Prop} {t:RS} {w:World}
theorem trunk_yes(hb i nx:Nat)(ls:List Nat)(h:PrgAt arm room croom K w p q R t)(hh:HeapAt w hb p)(h1:1≤i)(hi:i<t.pages.length)(hx:t.pages.getD i []=trunkN nx ls)(hl:ls.length≤126)(hK:K≤800000) :
  Calls Tryz.prog 65 #[.pointer (some ⟨hb,0,none⟩),.int .i64 ((i+1:Nat):Int)] w fun e w'=>∃ g cap,e=.returned (.tuple #[Pv2 ((i+1:Nat):Int) g 0 cap,.int .i64 0])∧Row5 w' w.heap.size g cap (trunkN nx ls)∧w.heap.size≤g∧PrgAt arm room croom (K+1) w' p q (Plus R g) t∧Rok R w w':=by
 have B0:=hid (show Below w.heap.size w (w.alloc (.cells #[.int .i64 0,.slice none 0 0] 118)) from Below.alloc (Below.refl _ _) (Nat.le_refl _) _)
 have P0:=hid (h.new B0.out (Nat.le_refl _) (by simp))
 have H0:=hid (hh.keep B0.out)
 have CH:=hid (has_any8 hb ((i+1:Nat):Int) P0.out H0.out)
 rw [show (decide (1<((i+1:Nat):Int))&&decide (((i+1:Nat):Int)≤(t.pages.length:Int)))=true by simp;omega]at CH
 have CG:=hid (fun W (hW:Below (w.alloc (.cells #[.int .i64 0,.slice none 0 0] 118)).heap.size (w.alloc (.cells #[.int .i64 0,.slice none 0 0] 118)) W)=>hget_yes hb i (P0.out.keep hW) (H0.out.keep hW) hi hK)
 rw [hx]at CG
 have HX:=hid (RB.new 118 w 0 none 0 0)
 have HL:=hid hl
 have hsz:=Jrn.trunk_size nx ls (by omega)
 have CS:=hid (fun W z g cap B (hr:Row5 W B g cap (trunkN nx ls))=>Jrn.size_any z g 0 cap (trunkN nx ls) W hr.rd (Jrn.trunkN_bytes _ _))
 rw [hsz]at CS
 have hl2:¬(126:Int)<(ls.length:Int):=by omega
 clear h hh h1 hi hx hl hsz
 generalize ((i+1:Nat):Int)=z at *
 generalize ls.length=L at *
 unfold Pv2 at *
 go_enter Tryz.func65,Tryz.ntmps65
 go_wp2_with (first
  | (go_at_call 37;refine CH.out.mono ?_;rintro e w1 ⟨rfl,hb1⟩;have B1:=hid hb1;clear hb1)
  | (go_at_call 63;refine (CG.out w1 B1.out).mono ?_;rintro e w2 ⟨g,cap,rfl,hr,hg,hP,hok⟩;have R2:=hid hr;have HG:=hid hg;have P2:=hid hP;have K2:=hid hok;have Y0:=hid (RB.new 81 w2 z (some ⟨g,0,none⟩) 512 cap);have BA:=hid (show Below w2.heap.size w2 (w2.alloc (.cells #[.int .i64 z,.slice (some ⟨g,0,none⟩) 512 cap] 81)) from Below.alloc (Below.refl _ _) (Nat.le_refl _) _);clear hr hg hP hok)
  | (go_at_call 67;refine (CS.out _ z g cap _ (R2.out.keep (Below.alloc (Below.alloc (Below.refl _ _) (Nat.le_refl _) _) (by simp) _))).mono ?_;rintro e w3 ⟨rfl,hb3⟩;have B3:=hid (gt (Below.alloc BA.out (by simp) (.cells #[.int .i64 z,.slice (some ⟨g,0,none⟩) 512 cap] 118)) hb3);have Z3:=hid (RB.keep (show RB 118 _ (w2.heap.size+1) z (some ⟨g,0,none⟩) 512 cap from (by have:=RB.new 118 (w2.alloc (.cells #[.int .i64 z,.slice (some ⟨g,0,none⟩) 512 cap] 81)) z (some ⟨g,0,none⟩) 512 cap;simpa using this)) hb3);have X2:=hid (show RB 118 w2 w.heap.size 0 none 0 0 from (K2.out.at_ (Or.inr rfl) (HX.out.keep B1.out).lt).trans (HX.out.keep B1.out));have X3:=hid (X2.out.keep B3.out);obtain ⟨z0,z1,z2,z3⟩:=Z3.out.cells;obtain ⟨x0,x1,x2,x3⟩:=X3.out.cells;have hne:¬w2.heap.size+1=w.heap.size:=(by have h5:=X2.out.lt;omega);clear hb3))
 refine bodyPost_ret (Jrn.ret_rec rfl agg118 size118 rfl (RB.set X3.out _ _ _ _)) rfl ?_
 have hs1:w.heap.size+1≤w1.heap.size:=by have:=B1.out.size;simpa using this
 have hg:=HG.out
 refine ⟨g,cap,rfl,((R2.out.keep B3.out).fr (fr_two _ _ _ _) (by omega)).base (by omega),by omega,?_,?_⟩
 ·exact ((P2.out.keep B3.out).mine (fr_imp (fr_two _ w.heap.size _ _) (fun b hb=>Or.inl (Or.inr hb)))).less (fun b hb=>by rcases hb with hb |hb;exact Or.inl (Or.inl hb);exact Or.inr hb)
 ·exact ((Rok.after (gt B0.out B1.out) K2.out (fun b hb=>Or.inl hb)).below B3.out).mine (fr_two _ w.heap.size _ _) (fun b hb=>by omega)
end
end
section
open Go.RowKit Go.Maps
open Dsk (gt hid undrew keep_old keep_cell lt_cell Rd)
open Cch (Fr wpAnyK wpAnyK_done wp_region_K)
open Jrn (Pv2 Row5 numAt RB fr_two trunkN rootN)
def flat(tr:List (Nat×List Nat)):List Nat:=tr.flatMap fun x=>x.1::x.2
theorem flat_append(a b:List (Nat×List Nat)):flat (a++b)=flat a++flat b:=by simp [flat]
theorem flat_cons(x:Nat×List Nat)(b:List (Nat×List Nat)):flat (x::b)=x.1::(x.2++flat b):=by simp [flat]
def Chain8(now:List Pg):Nat→List (Nat×List Nat)→Prop
 | f,[]=>f=0
 | f,x::r=>f=x.1∧2≤x.1∧x.1≤now.length∧x.2.length≤126∧(∀ y∈x.2,2≤y∧y≤now.length)∧∃ nx,nx<4294967296∧now.getD (x.1 - 1) []=trunkN nx x.2∧Chain8 now nx r
def Own2(Q:Nat→Prop)(v:Value):Nat→Prop:=fun b=>Q b∨v.ownBlock=some b
theorem PrgAt.grow{arm:Prop}{room croom K:Nat}{p q:Nat}{Q:Nat→Prop}{t:RS}{w w':World}{v v':Value}(h:PrgAt arm room croom K w p q (Own2 Q v) t)(hf:Fr (fun b=>v.ownBlock=some b) w w')(hv:∀ b,v'.ownBlock=some b→v.ownBlock=some b∨(w.heap.size≤b∧b<w'.heap.size)):PrgAt arm room croom K w' p q (Own2 Q v') t:=by
 obtain ⟨x,P,C,d,s,n,enc,ms,h⟩:=h
 have hf2:Fr (Own2 Q v) w w':=fr_imp hf (fun b hb=>Or.inr hb)
 refine ⟨x,P,C,d,s,n,enc,ms,h.live.off hf2 h.off,h.q,h.busy,h.com,h.mb,h.mr,fun b hb hR=>?_,h.sure,h.env,h.ops,h.hm,h.rm,h.nk,h.nm,fun b hb=>?_⟩
 ·rcases hR with hR |hR
  ·exact h.off b hb (Or.inl hR)
  ·rcases hv b hR with h1 |h1
   ·exact h.off b hb (Or.inr h1)
   ·have:=h.live.lt b hb;omega
 ·rcases hb with hb |hb
  ·exact Nat.lt_of_lt_of_le (h.rl b (Or.inl hb)) hf.size
  ·rcases hv b hb with h1 |h1
   ·exact Nat.lt_of_lt_of_le (h.rl b (Or.inr h1)) hf.size
   ·exact h1.2
structure AO (arm:Prop) (room croom K:Nat) (p q:Nat) (Q:Nat→Prop) (t:RS) (B:Nat) (W0:World) (v:Value) (l:List Nat) (W:World):Prop where
 p:PrgAt arm room croom K W p q (Own2 Q v) t
 o:W.ownsRow B 3 1 v l.length (zI l)
 s:∀ b,v.ownBlock=some b→¬Q b
 k:Rok Q W0 W
section
variable {arm:Prop} {room croom K:Nat} {p q:Nat} {Q:Nat→Prop} {t:RS} {B:Nat} {W0 W W':World} {v:Value} {l:List Nat}
theorem AO.below(h:AO arm room croom K p q Q t B W0 v l W)(hb:Below W.heap.size W W'):AO arm room croom K p q Q t B W0 v l W':=
 ⟨h.p.keep hb,own_fr (E:=fun _=>False) h.o (Fr.of_below hb) (fun _ _ h=>h),h.s,h.k.below hb⟩
theorem AO.app{n:Nat}{ao:Option Addr}{m c:Nat}{w':World}(h:AO arm room croom K p q Q t B W0 v l W)(hB:B≤W.heap.size)(hm:m=l.length)(ho:w'.ownsRow 0 3 1 (.slice ao (m+1) c) (m+1) (zI l++[.int .i64 (n:Int)]))(hg:W.grownBy w' v.ownBlock)(ha:∀ a,ao=some a→(v.ownBlock=some a.block∨a.block=W.heap.size)) :
  AO arm room croom K p q Q t B W0 (.slice ao (m+1) c) (l++[n]) w':=by
 have hz:zI (l++[n])=zI l++[.int .i64 (n:Int)]:=by rw [zI_append];rfl
 have hl:(l++[n]).length=m+1:=by rw [hm];simp
 have hf:Fr (fun b=>v.ownBlock=some b) W w':=⟨hg.os,hg.tape,hg.output,hg.size,fun k hk hn=>hg.block k hk (fun e=>hn e.symm)⟩
 have hv:∀ b,(Value.slice ao (m+1) c).ownBlock=some b→v.ownBlock=some b∨(W.heap.size≤b∧b<w'.heap.size):=fun b hb=>by
  cases ao with
  | none=>cases hb
  | some a=>
   have hb2:=rr_blk ho hb
   cases hb
   rcases ha a rfl with h1 |h1
   ·exact Or.inl h1
   ·exact Or.inr ⟨by rw [h1];exact Nat.le_refl _,hb2.2⟩
 refine ⟨h.p.grow hf hv,?_,fun b hb hQ=>?_,h.k.trans hf (fun j _ hj=>⟨h.s j hj,fun e=>?_⟩)⟩
 ·rw [hl,hz]
  refine rr_up ho (fun k hk=>?_)
  rcases hv k hk with h1 |h1
  ·exact (rr_blk h.o h1).1
  ·omega
 ·rcases hv b hb with h1 |h1
  ·exact h.s b h1 hQ
  ·have:=h.p.lt (b:=b) (Or.inl hQ);omega
 ·subst e
  obtain ⟨x,P,C,d,s,n,enc,ms,hh⟩:=h.p
  exact hh.off 0 (Or.inr (Or.inr (Or.inl rfl))) (Or.inr hj)
variable {Q':Nat→Prop}
theorem AO.widen(h:AO arm room croom K p q Q t B W0 v l W)(hb:Below W.heap.size W W')(hQ:∀ b,Q' b→Q b∨(W.heap.size≤b∧b<W'.heap.size)):AO arm room croom K p q Q' t B W' v l W':=by
 refine ⟨h.p.more hb (fun b hb'=>?_),(h.below hb).o,fun b hb' hQ'=>?_,Rok.of_below (Below.refl _ _)⟩
 ·rcases hb' with h1 |h1
  ·rcases hQ b h1 with h2 |h2
   ·exact Or.inl (Or.inl h2)
   ·exact Or.inr h2
  ·exact Or.inl (Or.inr h1)
 ·rcases hQ b hQ' with h2 |h2
  ·exact h.s b hb' h2
  ·have:=(rr_blk h.o hb').2;omega
theorem AO.narrow{w:World}(h:AO arm room croom K p q Q' t B W0 v l W)(hQ:∀ b,Q b→Q' b)(k:Rok Q w W0):AO arm room croom K p q Q t B w v l W:=
 ⟨h.p.less (fun b hb=>by rcases hb with h1 |h1;exact Or.inl (hQ b h1);exact Or.inr h1),h.o,fun b hb hb'=>h.s b hb (hQ b hb'),k.then h.k hQ⟩
end
end
end Go.Proofs.YtgjgkpnjchflaaaGreatDoor
