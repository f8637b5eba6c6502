/- What any act does to both heaps; numbers that are compared; no statement of the seat is proved here. -/
import Derived.Test.YtgjgkpnjchflaaaGreatDoorS45
import Derived.Test.YtgjgkpnjchflaaaGreatDoorS39
set_option maxHeartbeats 16000000
set_option maxRecDepth 20000
namespace Go.Proofs.YtgjgkpnjchflaaaGreatDoor
section
open Go.RowKit Go.Maps
open Dsk (gt hid undrew keep_old keep_cell lt_cell Rd op_at)
open Cch (Fr wpAnyK wpAnyK_done wp_region_K wpAnyK_ready AllReadyK)
section
variable {K:Nat} {O:Nat→Prop} {w W W':World} {hb p q hm:Nat} {ao:Option Addr} {n c N N2:Nat} {l ws:List Nat} {tr tr2:List (Nat×List Nat)} {wd:List Int}
theorem act_any8(k I x:Int)(hx : -9223372036854775808≤x∧x≤9223372036854775807)(h:FA K O w hb p q hm ao n c l tr N (wsOf wd) tr N wd W)(hP:Parted l tr N)(hN:N≤1000)(hK:K+20000≤490000)(hwd:∀ z∈wd,-9223372036854775808≤z∧z≤9223372036854775807) :
  Calls Tryz.prog 9 #[.pointer (some ⟨hb,0,none⟩),.pointer (some ⟨hm,0,none⟩),.slice ao n c,.agg #[.int .i64 k,.int .i64 I,.int .i64 x]] W (AR (K+3+4*(flat tr).length+3) O w hb p q hm (N+(flat tr).length+1)):=by
 by_cases h0:k=0
 ·subst h0;exact act_take I x h hP hN hK hwd
 by_cases h1:k=1
 ·subst h1
  rcases Nat.eq_zero_or_pos n with hn |hn
  ·subst hn;exact act_give0 I x h hP hwd
  ·exact act_give I x h hP hn hN hK hwd
 by_cases h2:k=2
 ·subst h2
  by_cases hI:I<0∨60≤I
  ·exact act_set_no I x h hP hI hN hK hwd
  ·obtain ⟨i,rfl⟩:=Int.eq_ofNat_of_zero_le (show 0≤I by omega)
   exact act_set i x h hP (by omega) hx hN hK hwd
 by_cases h3:k=3
 ·subst h3;exact act_trim I x h hP hN hK hwd
 by_cases h4:k=4
 ·subst h4
  by_cases hI:I<0∨60≤I
  ·exact act_word_no I x h hP hI hN hK hwd
  ·obtain ⟨i,rfl⟩:=Int.eq_ofNat_of_zero_le (show 0≤I by omega)
   exact act_word i x h hP (by omega) hN hK hwd
 by_cases hI:I<2
 ·exact act_low k I x h hP hI h0 h1 h2 h3 h4 hN hK hwd
 by_cases hIN:I≤(N:Int)
 ·exact act_within k I x h hP (by omega) hIN h0 h1 h2 h3 h4 hN hK hwd
 ·exact act_high k I x h hP (by omega) (by omega) h0 h1 h2 h3 h4 hN hK hwd
structure RdN (W:World) (ao:Option Addr) (n c:Nat) (l:List Nat):Prop where
 row:Cch.Src W ao n c (zI l)
 zero:∀ a,ao=some a→a.off=0∧a.spot=none
 cap:n≤c
theorem RdN.of_own{B:Nat}(ho:W.ownsRow B 3 1 (.slice ao n c) n (zI l)):RdN W ao n c l:=by
 obtain ⟨ao2,cap,e,hno,hso⟩:=Cch.row_form (rr_base ho (Nat.zero_le _))
 simp only [Value.slice.injEq]at e
 obtain ⟨rfl,-,rfl⟩:=e
 refine ⟨Cch.src_row (rr_base ho (Nat.zero_le _)) (fun u hu=>by unfold zI at hu;obtain ⟨x,_,rfl⟩:=List.mem_map.1 hu;rfl),fun a ha=>?_,?_⟩
 ·obtain ⟨e1,_⟩:=hso a ha
  rw [e1];exact ⟨rfl,rfl⟩
 ·cases hao:ao with
  | none=>have:=hno hao;omega
  | some a=>exact (hso a hao).2.1
theorem RdN.below(h:RdN W ao n c l)(b:Below W.heap.size W W'):RdN W' ao n c l:=⟨src_below h.row b,h.zero,h.cap⟩
theorem RdN.cell(h:RdN W ao n c l){i:Nat}(hi:i<n):∃ g,ao=some ⟨g,0,none⟩∧W.cell? ⟨g,i,none⟩=some (.int .i64 ((l.getD i 0:Nat):Int)):=by
 have hl:l.length=n:=by have:=h.row.len;simpa [zI] using this
 cases hao:ao with
 | none=>have:=(h.row.no hao).1;omega
 | some a=>
  obtain ⟨ab,of,sp⟩:=a
  obtain ⟨q3,q4⟩:=h.zero _ hao
  simp only at q3 q4
  subst q3;subst q4
  refine ⟨ab,rfl,?_⟩
  have:=h.row.at_ _ hao i (.int .i64 ((l.getD i 0:Nat):Int)) (by unfold zI;rw [List.getElem?_map,List.getD,List.getElem?_eq_getElem (by omega)];rfl)
  rw [Addr.add_lit]at this
  simpa using this
def S13(g g2 i:Nat)(y:Int)(X:World):Prop:=X.cell? ⟨g,i,none⟩=some (.int .i64 y)∧X.cell? ⟨g2,i,none⟩=some (.int .i64 y)
theorem ints8{ao2:Option Addr}{c2:Nat}(h1:RdN W ao n c l)(h2:RdN W ao2 n c2 l)(hn:n≤100000):Calls Tryz.prog 13 #[.slice ao n c,.slice ao2 n c2] W fun e W'=>e=.returned (.bool true)∧Below W.heap.size W W':=by
 have H1:=hid h1;have H2:=hid h2
 clear h1 h2
 go_enter Tryz.func13,Tryz.ntmps13
 go_wp2
 go_loopw [13] (fun cc X=>∃ (i:Nat),i≤n∧cc=.int .i64 (i:Int)∧Hid (Below W.heap.size W X)) (fun cc _=>n - (Lib.intOf cc).toNat)
 case atStart=>exact ⟨0,by omega,rfl,hid (Below.refl _ _)⟩
 case round=>
  obtain ⟨i,hi,rfl,HB⟩:=hrel
  by_cases hin:i<n
  ·have hin':(i:Int)<(n:Int):=by omega
   obtain ⟨g,rfl,c1⟩:=(H1.out.below HB.out).cell hin
   obtain ⟨g2,rfl,c2'⟩:=(H2.out.below HB.out).cell hin
   generalize ((l.getD i 0:Nat):Int)=y at c1 c2'
   go_upto_region 6 with fail
   have hs0:S13 g g2 i y wr.drew:=⟨c1,c2'⟩
   clear c1 c2'
   refine wp_region_K (S:=S13 g g2 i y) (fun _=>false) (by kernel_rfl) hs0 (fun hHeld=>?_)
   refine gkp 0 ?_
   refine gkp 1 ?_
   refine gkp 2 ?_
   refine gkt 3 ?_ (h:=by intro W hSw;obtain ⟨k0,k1⟩:=hSw;go_simp;first |done |with_reducible rfl)
   refine gkp 4 ?_
   refine gkp 5 ?_
   refine gkp 6 ?_
   refine gkt 7 ?_ (h:=by intro W hSw;obtain ⟨k0,k1⟩:=hSw;go_simp;first |done |with_reducible rfl)
   refine gkp 8 ?_ (v:=.bool false)
   refine wpAnyK_done (by kernel_rfl) ?_ _
   clear hHeld hs0
   go_wp2
   go_roundw
   case measure=>simp [Lib.intOf];omega
   case rel=>exact ⟨i+1,by omega,by go_num,hid HB.out.drew⟩
  ·obtain rfl:i=n:=by omega
   have hin':¬(i:Int)<(i:Int):=by omega
   go_wp2
   go_ret
   exact ⟨rfl,HB.out⟩
end
end
section
open Go.RowKit Go.Maps
open Dsk (gt hid undrew keep_old keep_cell lt_cell Rd op_at)
open Cch (Fr wpAnyK wpAnyK_done wp_region_K wpAnyK_ready AllReadyK)
def Ac8(w:World)(b off L:Nat)(A B C:Nat→Int):Prop:=∀ i,i<L→w.cell? ⟨b,off+i*3,none⟩=some (.int .i64 (A i))∧w.cell? ⟨b,off+i*3+1,none⟩=some (.int .i64 (B i))∧w.cell? ⟨b,off+i*3+2,none⟩=some (.int .i64 (C i))∧-9223372036854775808≤C i∧C i≤9223372036854775807
def Ac8V(w:World)(lo:Option Addr)(L:Nat)(A B C:Nat→Int):Prop:=0<L→∃ b off,lo=some ⟨b,off,none⟩∧Ac8 w b off L A B C
variable {w:World}
theorem Ac8.keep{w':World}{b off L:Nat}{A B C:Nat→Int}(h:Ac8 w b off L A B C)(hb:Below w.heap.size w w'):Ac8 w' b off L A B C:=fun i hi=>⟨keep_old hb (h i hi).1,keep_old hb (h i hi).2.1,keep_old hb (h i hi).2.2.1,(h i hi).2.2.2⟩
def wd0:List Int:=List.replicate 60 0
theorem wsOf_wd0:wsOf wd0=z60:=by unfold wsOf wd0 z60;rw [List.map_replicate];rfl
def zeroH:Obj:=.cells (hC (.slice none 0 0) 1 wd0).toArray 32
theorem lay_T1':Lay T1.now [] (wsOf wd0):=by rw [wsOf_wd0];exact ⟨rfl,rfl,by simp [flat],by simp [z60],by decide⟩
theorem FA.start{w1:World}{hb p:Nat}(hH:HeapAt w1 hb p)(_hn:w.heap.size≤hb)(hP:PrgAt False 32768 16 3 w1 p w.heap.size (Plus (Old w) hb) T1)(hk:Rok (Old w) w w1) :
  FA 3 (Old w) w hb p w.heap.size w1.heap.size none 0 0 [] [] 1 (wsOf wd0) [] 1 wd0 (w1.alloc zeroH):=by
 have B:=Below.alloc (Below.refl w1.heap.size w1) (Nat.le_refl _) zeroH
 have hl:=hH.lt
 have hs:=hk.size
 have e1:(w1.alloc zeroH).heap[w1.heap.size]? = some zeroH:=heap_alloc_new _ _
 have hlt:w1.heap.size<(w1.alloc zeroH).heap.size:=(Array.getElem?_eq_some_iff.1 e1).1
 refine ⟨⟨Plus (Plus (Old w) hb) w1.heap.size,fun b=>b=w1.heap.size,T1,⟨hP.new B (Nat.le_refl _) hlt,hH.keep B,Or.inl (Or.inr rfl),lay_T1',rfl,⟨rfl,rfl⟩⟩,rfl,⟨⟨_,e1,Or.inl ⟨rfl,rfl⟩⟩,rfl,fun b hb=>by rw [hb];exact hlt,by simp [wd0]⟩,fun b hb=>Or.inr hb,fun b hb=>Or.inl (Or.inl hb),fun b hb ho=>?_,fun e=>?_,fun a ha=>by cases ha⟩,⟨rfl,fun _=>⟨rfl,rfl⟩,fun ad h=>(by cases h),fun u hu=>by cases hu⟩,Nat.le_refl _,hk.below B⟩
 ·have:=ho.1;simp only at hb;omega
 ·omega
section
variable {K:Nat} {O:Nat→Prop} {w W W':World} {hb p q hm:Nat} {ao:Option Addr} {n c N N2:Nat} {l ws:List Nat} {tr tr2:List (Nat×List Nat)} {wd:List Int}
theorem FA.all(h:FA K O w hb p q hm ao n c l tr N ws tr2 N2 wd W)(hN:N≤1000)(hK:K+20000≤490000):Calls Tryz.prog 11 #[.pointer (some ⟨hb,0,none⟩)] W fun e W'=>∃ ao' c',e=.returned (.tuple #[.slice ao' (flat tr).length c',.int .i64 0])∧FA (K+2000) O w hb p q hm ao' (flat tr).length c' (flat tr) tr N ws tr2 N2 wd W':=by
 obtain ⟨R,S,t,h1,h2,h3,h4,h5,h6,h7,h8⟩:=h.is
 have hc:=h1.lay.count
 have hfl:=flat_len tr
 refine (all_yes h1 (by omega) (by omega)).mono ?_
 rintro e W' ⟨ao',c',he,ho,hP,hk⟩
 have hr:=RdN.of_own ho
 refine ⟨ao',c',he,⟨Own2 R (.slice ao' (flat tr).length c'),S,t,⟨hP.up (by omega),h1.heap.rok hk h1.mem,Or.inl h1.mem,h1.lay,h1.busy,h1.sur⟩,h2,h3.fr hk (fun b hb e=>e.1 (h4 b hb)),fun b hb=>Or.inl (h4 b hb),fun b hb=>Or.inl (h5 b hb),h6,h7,fun a ha=>?_⟩,hr.row,hr.cap,h.k.then hk h5⟩
 refine ⟨Or.inr (by rw [ha];rfl),fun hs=>?_,hr.zero a ha⟩
 have e1:=(rr_blk ho (k:=a.block) (by rw [ha];rfl)).1
 have e2:=h3.lt _ hs
 omega
theorem FA.rdn(h:FA K O w hb p q hm ao n c l tr N ws tr2 N2 wd W):RdN W ao n c l:=by
 obtain ⟨R,S,t,h1,h2,h3,h4,h5,h6,h7,h8⟩:=h.is
 exact ⟨h.row,fun a ha=>(h8 a ha).2.2,h.cap⟩
end
end
section
open Go.RowKit Go.Maps
open Dsk (gt hid undrew keep_old keep_cell lt_cell Rd op_at)
open Cch (Fr)
def setW(ws:List Nat)(G:Nat→Int):Nat→List Nat
 | 0=>ws
 | i+1=>(setW ws G i).set i (IntKind.u64.wrap (G i)).toNat
theorem setW_len(ws:List Nat)(G:Nat→Int)(i:Nat):(setW ws G i).length=ws.length:=by
 induction i with
 | zero=>rfl
 | succ i ih=>show ((setW ws G i).set i _).length=_;rw [List.length_set,ih]
theorem setW_at{ws:List Nat}{G:Nat→Int}{i j:Nat}(hj:j<i)(hi:i≤ws.length):(setW ws G i).getD j 0=(IntKind.u64.wrap (G j)).toNat:=by
 induction i with
 | zero=>omega
 | succ i ih=>
  show ((setW ws G i).set i _).getD j 0=_
  by_cases h:j=i
  ·subst h
   rw [List.getD,List.getElem?_set_self (by rw [setW_len];omega)];rfl
  ·rw [List.getD,List.getElem?_set_ne (fun e=>h e.symm)]
   exact ih (by omega) (by omega)
theorem back64{z:Int}(h : -9223372036854775808≤z∧z≤9223372036854775807):wrap64 (((IntKind.u64.wrap z).toNat:Nat):Int)=z∧(IntKind.u64.wrap z).toNat<18446744073709551616:=by
 rw [IntKind.wrap_u64]
 unfold wrap64
 omega
def I64s(w:World)(b off L:Nat)(G:Nat→Int):Prop:=∀ i,i<L→w.cell? ⟨b,off+i,none⟩=some (.int .i64 (G i))∧-9223372036854775808≤G i∧G i≤9223372036854775807
def I64V(w:World)(lo:Option Addr)(L:Nat)(G:Nat→Int):Prop:=0<L→∃ b off,lo=some ⟨b,off,none⟩∧I64s w b off L G
theorem I64s.keep{w w':World}{b off L:Nat}{G:Nat→Int}(h:I64s w b off L G)(hb:Below w.heap.size w w'):I64s w' b off L G:=fun i hi=>⟨keep_old hb (h i hi).1,(h i hi).2⟩
section
variable {K:Nat} {O:Nat→Prop} {w W W':World} {hb p q hm:Nat} {ao:Option Addr} {n c N N2:Nat} {l ws:List Nat} {tr tr2:List (Nat×List Nat)} {wd:List Int}
theorem RdN.rok{R:Nat→Prop}(h:RdN W ao n c l)(k:Rok R W W')(hR:∀ a,ao=some a→R a.block):RdN W' ao n c l:=⟨src_frm h.row k (fun a ha=>⟨fun e=>e.1 (hR a ha),h.zero a ha⟩),h.zero,h.cap⟩
variable {i:Nat}
theorem FA.set{x:Int}(h:FA K O w hb p q hm ao n c l tr N ws tr2 N2 wd W)(hi:i<60)(hK:K+20000≤490000):Calls Tryz.prog 21 #[.pointer (some ⟨hb,0,none⟩),.int .i64 (i:Int),.int .i64 x] W fun e W'=>e=.returned (.int .i64 0)∧FA (K+2) O w hb p q hm ao n c l tr N (ws.set i (IntKind.u64.wrap x).toNat) tr2 N2 wd W':=
 h.prg (fun R t hs hl=>by
  have:=set_yes (n:=x) (x:=(IntKind.u64.wrap x).toNat) hs hi (by rw [IntKind.wrap_u64];omega) (by omega)
  rw [hl]at this;exact this)
structure FC (K:Nat) (w:World) (p q:Nat) (Q:Nat→Prop) (ao:Option Addr) (n c:Nat) (l:List Nat) (tr:List (Nat×List Nat)) (ws:List Nat) (W:World):Prop where
 is:∃ R t,PrgAt False 32768 16 K W p q R t∧Lay t.pages tr ws∧t.sure=t.pages∧t.pages.length≤1000∧(∀ b,Q b→R b)∧(∀ b,Old w b→R b)∧∀ a,ao=some a→R a.block
 row:RdN W ao n c l
 k:Rok (Old w) w W
theorem FA.commit(h:FA K (Old w) w hb p q hm ao n c l tr N ws tr2 N2 wd W)(hN:N≤1000)(hK:K+20000≤490000):Calls Tryz.prog 22 #[.pointer (some ⟨p,0,none⟩)] W fun e W'=>e=.returned (.int .i64 0)∧FC (K+5000) w p q (fun _=>False) ao n c l tr ws W':=by
 obtain ⟨R,S,t,h1,h2,h3,h4,h5,h6,h7,h8⟩:=h.is
 refine (prg_commit_yes h1.prg h1.busy h1.sur (by omega) (by omega)).mono ?_
 rintro e W' ⟨he,hP,hk⟩
 exact ⟨he,⟨R,t.commit,hP,h1.lay,rfl,by show t.now.length≤1000;omega,fun _ h=>h.elim,h5,fun a ha=>(h8 a ha).1⟩,h.rdn.rok hk (fun a ha=>(h8 a ha).1),h.k.then hk h5⟩
variable {Q:Nat→Prop}
theorem FC.reopen(h:FC K w p q Q ao n c l tr ws W)(hK:K≤490000):Calls Tryz.prog 18 #[.pointer (some ⟨q,0,none⟩),.int .i64 16] W fun e W'=>∃ p2,e=.returned (.tuple #[.pointer (some ⟨p2,0,none⟩),.int .i64 0])∧FC K w p2 q (fun _=>False) ao n c l tr ws W':=by
 obtain ⟨R,t,h1,h2,h3,h4,h5,h6,h7⟩:=h.is
 refine (reopen8 h1 (by omega)).mono ?_
 rintro e W' ⟨p2,he,hP,hk⟩
 have e1:t.shut.pages=t.pages:=h3
 exact ⟨p2,he,⟨R,t.shut,hP,by rw [e1];exact h2,rfl,by rw [e1];exact h4,fun _ h=>h.elim,h6,h7⟩,h.row.rok hk h7,h.k.then hk h6⟩
theorem FC.fopen(h:FC K w p q Q ao n c l tr ws W)(hK:K≤490000):Calls Tryz.prog 23 #[.pointer (some ⟨p,0,none⟩)] W fun e W'=>∃ hb,e=.returned (.tuple #[.pointer (some ⟨hb,0,none⟩),.int .i64 0])∧HeapAt W' hb p∧FC (K+1) w p q (fun b=>b=hb) ao n c l tr ws W':=by
 obtain ⟨R,t,h1,h2,h3,h4,h5,h6,h7⟩:=h.is
 refine (fopen_yes h1 h2.root h2.ln (by omega)).mono ?_
 rintro e W' ⟨he,hH,hP,hk⟩
 exact ⟨_,he,hH,⟨_,t,hP,h2,h3,h4,fun b hb=>Or.inr hb,fun b hb=>Or.inl (h6 b hb),fun a ha=>Or.inl (h7 a ha)⟩,h.row.rok hk h7,h.k.then hk h6⟩
theorem FC.word(h:FC K w p q (fun b=>b=hb) ao n c l tr ws W)(hH:HeapAt W hb p)(hi:i<60)(hv:ws.getD i 0<18446744073709551616)(hK:K+5000≤490000):Calls Tryz.prog 24 #[.pointer (some ⟨hb,0,none⟩),.int .i64 (i:Int)] W fun e W'=>e=.returned (.tuple #[.int .i64 (wrap64 (ws.getD i 0:Int)),.int .i64 0])∧HeapAt W' hb p∧FC (K+1) w p q (fun b=>b=hb) ao n c l tr ws W':=by
 obtain ⟨R,t,h1,h2,h3,h4,h5,h6,h7⟩:=h.is
 refine (word_rest h1 hH h2.root h2.ln h2.wl hi hv (by omega)).mono ?_
 rintro e W' ⟨he,hP,hk⟩
 exact ⟨he,hH.rok hk (h5 hb rfl),⟨R,t,hP,h2,h3,h4,h5,h6,h7⟩,h.row.rok hk h7,h.k.then hk h6⟩
theorem FC.all(h:FC K w p q (fun b=>b=hb) ao n c l tr ws W)(hH:HeapAt W hb p)(hK:K+5000≤490000):Calls Tryz.prog 11 #[.pointer (some ⟨hb,0,none⟩)] W fun e W'=>∃ ao' c',e=.returned (.tuple #[.slice ao' (flat tr).length c',.int .i64 0])∧RdN W' ao' (flat tr).length c' (flat tr)∧RdN W' ao n c l∧Rok (Old w) w W':=by
 obtain ⟨R,t,h1,h2,h3,h4,h5,h6,h7⟩:=h.is
 refine (all_rest h1 hH (h5 hb rfl) h2 (by omega) (by omega)).mono ?_
 rintro e W' ⟨ao',c',he,ho,hk⟩
 exact ⟨ao',c',he,RdN.of_own ho,h.row.rok hk h7,h.k.then hk h6⟩
theorem FC.up{K':Nat}(h:FC K w p q Q ao n c l tr ws W)(hK:K≤K'):FC K' w p q Q ao n c l tr ws W:=by
 obtain ⟨R,t,h1,h2⟩:=h.is
 exact ⟨⟨R,t,h1.up hK,h2⟩,h.row,h.k⟩
end
end
section
open Go.RowKit Go.Maps
open Dsk (gt hid undrew keep_old keep_cell lt_cell Rd op_at newD)
open Cch (Fr)
theorem stays_long(lo:Option Addr)(L C:Nat)(lo2:Option Addr)(L2 C2:Nat)(w:World)(hT:Jrn.Tab w)(h0:0<w.heap.size)(hL:100<L∨60<L2) :
  Calls Tryz.prog 5 #[.slice lo L C,.slice lo2 L2 C2] w fun e w'=>e=.returned (.bool true)∧Below w.heap.size w w':=by
 have CL:=hid (lives_any w hT h0)
 clear hT h0
 by_cases h1:(100:Int)<(L:Int)
 ·clear hL
  go_enter Tryz.func5,Tryz.ntmps5
  go_wp2_with (go_at_call 7;refine CL.out.mono ?_;rintro e w3 ⟨rfl,hb3⟩;replace hb3:=hid hb3)
  go_ret
  exact ⟨rfl,hb3.out⟩
 ·have h2:(60:Int)<(L2:Int):=by omega
  clear hL
  go_enter Tryz.func5,Tryz.ntmps5
  go_wp2_with (go_at_call 7;refine CL.out.mono ?_;rintro e w3 ⟨rfl,hb3⟩;replace hb3:=hid hb3)
  go_ret
  exact ⟨rfl,hb3.out⟩
theorem stays_yes(lo:Option Addr)(L C:Nat)(A B Cx:Nat→Int)(lo2:Option Addr)(L2 C2:Nat)(G:Nat→Int)(w:World)(hT:Jrn.Tab w)(h0:0<w.heap.size)(h:Ac8V w lo L A B Cx)(hg:I64V w lo2 L2 G)(hL:L≤100)(hL2:L2≤60) :
  Calls Tryz.prog 5 #[.slice lo L C,.slice lo2 L2 C2] w fun e w'=>e=.returned (.bool true)∧Below w.heap.size w w':=by
 have h1:¬(100:Int)<(L:Int):=by omega
 have h2:¬(60:Int)<(L2:Int):=by omega
 have H:=hid h;have HG:=hid hg;have HT:=hid hT;have H0:=hid h0
 have c17:=hid (Dsk.new_yes 32768 w (by omega) (by omega))
 clear h hT h0 hg
 have t0:Hid True:=hid trivial
 go_enter Tryz.func5,Tryz.ntmps5
 go_wp2_with (first
  | (go_at_call 17;refine c17.out.mono ?_;rintro e w1 ⟨rfl,⟨P1,hd1,ha1⟩,hb1⟩;have D1:=hid hd1;have K1:=hid ha1;have B1:=hid hb1;clear hd1 ha1 hb1)
  | (go_at_call 18;clear t0;refine (open_clean w.heap.size 16 P1 (newD 32768) [] w1 D1.out (clean_new 32768) whole_nil (by simp) (by omega) (by omega) (HT.out.keep B1.out) ⟨by have:=H0.out;have:=B1.out.size;omega,fun hd=>by rcases hd with h1 | h1;(have:=H0.out;omega);(have:=K1.out 0 h1;omega)⟩ (by show 0≤_;omega)).mono ?_;rintro e w2 ⟨p,x,rfl,ho⟩;have N2:=hid (prg_new B1.out K1.out ho);clear ho)
  | (go_at_call 19;refine (prg_begin N2.out.1).mono ?_;rintro e w3 ⟨rfl,hP3,hok3⟩;have P3:=hid (show PrgAt False 32768 16 1 w3 p w.heap.size (Old w) rt0.begin from hP3);have K3:=hid (N2.out.2.then hok3 (fun _ h=>h));clear hP3 hok3)
  | (go_at_call 20;refine (Make_yes P3.out rfl rfl (by omega)).mono ?_;rintro e w4 ⟨hb,rfl,hH4,hhb,hP4,hok4⟩;have O4:=hid (FA.start hH4 (Nat.le_trans K3.out.size hhb) hP4 (K3.out.then hok4 (fun _ h=>h)));clear hH4 hP4 hok4 hhb))
 obtain ⟨hm,hhm⟩:∃ hm,hm=w4.heap.size:=⟨_,rfl⟩
 obtain ⟨q,hq⟩:∃ q,q=w.heap.size:=⟨_,rfl⟩
 rw [←hhm,←hq]at O4
 (try rw [←hhm])
 (try rw [←hq])
 clear c17 hhm hq N2 P3 K3 D1 K1 B1
 go_loopg [11,57] L (fun cc v11 v57 X=>∃ (i:Nat) (ao:Option Addr) (n c:Nat) (l:List Nat) (tr:List (Nat×List Nat)) (N:Nat) (wd:List Int),i+cc=L∧v57=.int .i64 (i:Int)∧v11=.slice ao n c∧N+(flat tr).length≤i+1∧Hid (Parted l tr N)∧Hid (∀ z∈wd,-9223372036854775808≤z∧z≤9223372036854775807)∧Hid (FA (3+810*i) (Old w) w hb p q hm ao n c l tr N (wsOf wd) tr N wd X))
 case atStart=>exact ⟨0,none,0,0,[],[],1,wd0,by omega,rfl,rfl,by simp [flat],hid ⟨by simp [flat],(fun y hy=>by cases hy),rfl⟩,hid (fun z hz=>by rw [List.eq_of_mem_replicate hz];omega),O4⟩
 case round=>
  obtain ⟨i,ao,n,c,l,tr,N,wd,hik,rfl,rfl,hb1,HP,HWD,OA⟩:=hrel
  clear O4
  have hcnt:=HP.out.cnt
  by_cases hiL:i<L
  ·have hiL':(i:Int)<(L:Int):=by omega
   obtain ⟨b,off,rfl,hA⟩:=H.out (by omega)
   obtain ⟨c0,c1,c2,hx⟩:=(hA.keep (old_below OA.out.k)) i hiL
   clear hA
   generalize A i=kA at c0
   generalize B i=kB at c1
   generalize Cx i=kC at c2 hx
   obtain ⟨X1,hX1⟩:∃ X1,X1=wr.alloc (.cells #[.int .i64 kA,.int .i64 kB,.int .i64 kC] 35):=⟨_,rfl⟩
   have BX:=hid (show Below wr.heap.size wr X1 by rw [hX1];exact Below.alloc (Below.refl _ _) (Nat.le_refl _) _)
   have CA:=hid (act_any8 kA kB kC hx (OA.out.below BX.out) HP.out (by omega) (by omega) HWD.out)
   have HX1:=hid hX1
   clear hX1 hx
   go_wp2_with (go_at_call 9;rw [←HX1.out];refine CA.out.mono ?_;rintro e w2 ⟨ao2,n2,c2',l2,tr2,N2,wd2,rfl,hA2,hP2,hM2,hW2⟩;have A2:=hid (hA2.up (K':=3+810*(i+1)) (by omega));have P2:=hid hP2;have M2:=hid hM2;have W2:=hid hW2;clear hA2 hP2 hM2 hW2)
   go_roundg (gk - 1)
   case measure=>omega
   case rel=>exact ⟨i+1,ao2,n2,c2',l2,tr2,N2,wd2,by omega,by go_num,rfl,by have:=M2.out;omega,P2,W2,A2⟩
  ·have hiL':¬(i:Int)<(L:Int):=by omega
   obtain rfl:i=L:=by omega
   have hFb:(flat tr).length≤1000:=by omega
   have hNb:N≤1000:=by omega
   have OB0:=hid (OA.out.up (K':=82000) (by omega))
   have HWL:=hid (show (wsOf wd).length=60 by unfold wsOf;rw [List.length_map];exact OA.out.hm_cells.2.2.2)
   clear OA HWD HP
   go_wp2
   go_loopg [72] L2 (fun cc v72 X=>∃ (j:Nat),j+cc=L2∧v72=.int .i64 (j:Int)∧Hid (FA (82000+2*j) (Old w) w hb p q hm ao n c l tr N (setW (wsOf wd) G j) tr N wd X))
   case atStart=>exact ⟨0,by omega,rfl,OB0⟩
   case round=>
    obtain ⟨j,hjk,rfl,OB⟩:=hrel
    clear OB0
    by_cases hj:j<L2
    ·have hj':(j:Int)<(L2:Int):=by omega
     obtain ⟨b2,off2,rfl,hI⟩:=HG.out (by omega)
     obtain ⟨d0,_⟩:=(hI.keep (old_below OB.out.k)) j hj
     have CS:=hid (OB.out.set (i:=j) (x:=G j) (by omega) (by omega))
     have HSE:=hid (show setW (wsOf wd) G (j+1)=(setW (wsOf wd) G j).set j (IntKind.u64.wrap (G j)).toNat from rfl)
     rw [←HSE.out]at CS
     clear hI HSE
     generalize hGj:G j=gj at d0 CS
     have HGJ:=hid hGj
     clear hGj
     go_wp2_with (go_at_call 21;refine CS.out.mono ?_;rintro e w5 ⟨rfl,hA5⟩;have A5:=hid (hA5.up (K':=82000+2*(j+1)) (by omega));clear hA5)
     go_roundg (gk - 1)
     case measure=>omega
     case rel=>exact ⟨j+1,by omega,by go_num,A5⟩
    ·have hj':¬(j:Int)<(L2:Int):=by omega
     obtain rfl:j=L2:=by omega
     have CA:=hid (OB.out.all hNb (by omega))
     obtain ⟨F,hF⟩:∃ F,F=(flat tr).length:=⟨_,rfl⟩
     rw [←hF]at CA hFb
     have HF:=hid hF
     have t1:Hid True:=hid trivial
     clear hF hb1 hcnt OB
     go_wp2_with (first
      | (go_at_call 11;refine CA.out.mono ?_;rintro e w9 ⟨ao3,c3,rfl,hA9⟩;have A9:=hid hA9;have CC:=hid (hA9.commit hNb (by omega));clear hA9)
      | (go_at_call 22;refine CC.out.mono ?_;rintro e w10 ⟨rfl,hF10⟩;have CO:=hid (hF10.reopen (by omega));clear hF10)
      | (go_at_call 18;refine CO.out.mono ?_;rintro e w11 ⟨p2,rfl,hF11⟩;have CF:=hid (hF11.fopen (by omega));clear hF11)
      | (go_at_call 23;refine CF.out.mono ?_;rintro e w12 ⟨hb2,rfl,hH12,hF12⟩;have H12:=hid hH12;have F12:=hid (hF12.up (K':=200000) (by omega));clear hH12 hF12))
     clear CA CC CO CF A9
     go_loopg [105] j (fun cc v105 X=>∃ (m:Nat),m+cc=j∧v105=.int .i64 (m:Int)∧Hid (HeapAt X hb2 p2)∧Hid (FC (200000+m) w p2 q (fun b=>b=hb2) ao3 F c3 (flat tr) tr (setW (wsOf wd) G j) X))
     case atStart=>exact ⟨0,by omega,rfl,H12,F12⟩
     case round=>
      obtain ⟨m,hmk,rfl,HH,FW⟩:=hrel
      clear H12 F12
      by_cases hmj:m<j
      ·have hmj':(m:Int)<(j:Int):=by omega
       obtain ⟨b2,off2,rfl,hI⟩:=HG.out (by omega)
       obtain ⟨d0,hbd⟩:=(hI.keep (old_below FW.out.k)) m hmj
       obtain ⟨bk1,bk2⟩:=back64 hbd
       have hat:=setW_at (ws:=wsOf wd) (G:=G) hmj (by rw [HWL.out];exact hL2)
       have CW:=hid (FW.out.word HH.out (i:=m) (by omega) (by rw [hat];exact bk2) (by omega))
       rw [hat,bk1]at CW
       clear hI hbd bk1 bk2 hat
       generalize G m=gm at d0 CW
       go_wp2_with (go_at_call 24;refine CW.out.mono ?_;rintro e w13 ⟨rfl,hH13,hF13⟩;have H13:=hid hH13;have F13:=hid hF13;clear hH13 hF13)
       go_roundg (gk - 1)
       case measure=>omega
       case rel=>exact ⟨m+1,by omega,by go_num,H13,F13⟩
      ·have hmj':¬(m:Int)<(j:Int):=by omega
       have CAl:=hid (FW.out.all HH.out (by omega))
       rw [←HF.out]at CAl
       go_wp2_with (first
        | (go_at_call 11;refine CAl.out.mono ?_;rintro e w14 ⟨ao4,c4,rfl,hr4,hr5,hk14⟩;have KK:=hid (old_below hk14);have CI:=hid (ints8 hr4 hr5 (by omega));clear hr4 hr5 hk14)
        | (go_at_call 13;refine CI.out.mono ?_;rintro e w15 ⟨rfl,hb15⟩;have B15:=hid (gt KK.out hb15);have CL:=hid (lives_any w15 (HT.out.keep B15.out) (by have h2:=B15.out.size;have h3:=H0.out;omega));clear hb15)
        | (go_at_call 7;refine CL.out.mono ?_;rintro e w16 ⟨rfl,hb16⟩;have B16:=hid (gt B15.out hb16);clear hb16))
       go_ret
       exact ⟨rfl,B16.out⟩
end
end Go.Proofs.YtgjgkpnjchflaaaGreatDoor
