/- A new heap: Make, on a pager that was opened anew; no statement of the seat is proved here. -/
import Derived.Test.YtgjgkpnjchflaaaGreatDoorS38
import Derived.OwnWalk
import Derived.Test.YtgjgkpnjchflaaaGreatDoorS33
set_option maxHeartbeats 16000000
set_option maxRecDepth 20000
namespace Go.Proofs.YtgjgkpnjchflaaaGreatDoor
section
open Go.RowKit Go.Maps
open Dsk (gt hid undrew keep_old keep_cell lt_cell Rd DS FS Sec DiskP newD)
open Cch (CS CP Fr)
open Jrn (Pv2 Row5 numAt RB fr_two trunkN rootN putN nul)
def rt0:RS:=⟨[],[],[],false,[],0,0⟩
def Old(w:World):Nat→Prop:=fun b=>b<w.heap.size∧b≠0
variable {w w':World}
theorem old_below(h:Rok (Old w) w w'):Below w.heap.size w w':=⟨h.os,h.tape,h.output,h.size,fun k hk=>h.blk k hk (fun e=>e.1 ⟨hk,e.2⟩)⟩
theorem clean_new(r:Nat):Clean (newD r) []:=⟨rfl,rfl,rfl⟩
theorem whole_nil:Whole []:=fun i hi=>by cases hi
variable {x:PC} {p room croom:Nat}
theorem opened{arm:Prop}{K:Nat}{q:Nat}{P:Dsk.Parts}{d:DS}{l:List Pg}{R:Nat→Prop}(ho:OpenTo w w' q P d croom l p x)(hs:Sured d l)(he:Env arm room d)(hop:d.ops≤K)(hR:∀ b,R b→b<w.heap.size∧¬DN q P b∧b≠0):PrgAt arm room croom K w' p q R ⟨l,[],[],false,[],0,0⟩:=by
 obtain ⟨P',C,s,hr,e1,e2,e3,hN⟩:=ho.is
 obtain ⟨m1,m2,m3,m4⟩:=ho.mks
 have hL:=hr.live ⟨m1,m2,m3⟩
 refine ⟨x,P',C,d,s,0,_,[],hL,ho.xq,ho.busy,ho.com,(fun e=>by cases e),(fun _=>⟨rfl,m4⟩),fun b hb hRb=>?_,hs,he,hop,by rw [e1,e2];exact Nat.zero_le _,e3,Nat.zero_le _,(fun k hk=>by cases hk),fun b hb=>Nat.lt_of_lt_of_le (hR b hb).1 ho.fr.size⟩
 have h1:=hR b hRb
 rcases hb with hb |hb |hb |hb | ⟨o,l,cc,hb⟩ | ⟨k,hk,_⟩
 ·rcases hN b hb with h2 |h2
  ·exact h1.2.1 h2
  ·omega
 ·have:=ho.mnew;omega
 ·exact h1.2.2 hb
 ·unfold PC.mv at hb;rw [m1]at hb;cases hb
 ·exact enc_nil _ _ o l cc hb
 ·cases hk
theorem prg_new{w1 w2:World}{P:Dsk.Parts}(B1:Below w.heap.size w w1)(hP:∀ k,P.all k→w.heap.size<k)(ho:OpenTo w1 w2 w.heap.size P (newD room) croom [] p x):PrgAt False room croom 0 w2 p w.heap.size (Old w) rt0∧Rok (Old w) w w2:=by
 have hdn:∀ b,b<w.heap.size→¬DN w.heap.size P b:=fun b hb hd=>by
  rcases hd with h1 |h1
  ·omega
  ·have:=hP b h1;omega
 have hs1:=B1.size
 refine ⟨opened ho ⟨rfl,rfl⟩ ⟨rfl,fun _=>rfl,rfl,by show 0≤_;omega⟩ (Nat.zero_le _) (fun b hb=>⟨by have:=hb.1;omega,hdn b hb.1,hb.2⟩),?_⟩
 refine (Fr.of_below B1).trans ho.fr (fun b hb hd=>(hdn b hb hd).elim)
section
variable {arm:Prop} {room croom K:Nat} {p q:Nat} {R:Nat→Prop} {t:RS} {w:World}
theorem field83(n:Int)(g:Nat)(W:World):(Instr.field 83 (.agg #[.int .i64 n,.slice (some ⟨g,0,none⟩) 512 512]) 0).run Tryz.prog W=.ok (.agg #[.int .i64 n,.slice (some ⟨g,0,none⟩) 512 512]) W:=by kernel_rfl
def z60:List Nat:=List.replicate 60 0
theorem make_pgs{W:World}{ab g B:Nat}(y:W.heap[ab]? = some (.cells #[.int .i64 1,.slice (some ⟨g,0,none⟩) 512 512] 81 (0,0)))(r:Row5 W B g 512 (rootN 0 0 z60)):Pgs W ab [⟨1,g,512,rootN 0 0 z60⟩]:=fun i x hx=>by
 match i,hx with
 | 0,hx=>simp at hx;subst hx;exact ⟨by simp [World.cell?,y],by simp [World.cell?,y],r.rd⟩
 | i+1,hx=>simp at hx
theorem Make_yes(h:PrgAt arm room croom K w p q R t)(hbz:t.busy=true)(hn:t.now = [])(hK:K+2≤500000) :
  Calls Tryz.prog 20 #[.pointer (some ⟨p,0,none⟩)] w fun e w'=>∃ hb,e=.returned (.tuple #[.pointer (some ⟨hb,0,none⟩),.int .i64 0])∧HeapAt w' hb p∧w.heap.size≤hb∧PrgAt arm room croom (K+2) w' p q (Plus R hb) (t.grow.put 0 (rootN 0 0 z60))∧Rok R w w':=by
 have hpb:t.pages=t.now:=RS.pages_busy hbz
 have CW:=hid (within_yes h hbz)
 have CPg:=hid (fun W (hW:Below w.heap.size w W)=>prg_pages (h.keep hW))
 rw [hpb,hn]at CPg
 have CGr:=hid (fun W (hW:Below w.heap.size w W)=>prg_grow_yes (h.keep hW) hbz (by rw [hn];decide) (by omega))
 rw [hn]at CGr
 have CNr:=hid (fun W=>Jrn.newRoot_any W)
 have HN:=hid (show t.grow.now.length=1 by show (t.now++[zeros]).length=1;rw [hn];rfl)
 have HBZ:=hid (show t.grow.busy=true from hbz)
 have H:=hid h
 have fl:=fun g W=>field83 1 g W
 clear h hbz hn hpb
 unfold Pv2 at *
 go_enter Tryz.func20,Tryz.ntmps20
 go_wp2_with (first
  | (go_at_call 45;refine CW.out.mono ?_;rintro e w1 ⟨rfl,hb1⟩;have B1:=hid hb1;clear hb1)
  | (go_at_call 10;refine (CPg.out w1 B1.out).mono ?_;rintro e w2 ⟨rfl,hb2⟩;have B2:=hid (gt B1.out hb2);clear hb2)
  | (go_at_call 35;refine (CGr.out w2 B2.out).mono ?_;rintro e w3 ⟨rfl,hP3,hok3⟩;have P3:=hid hP3;have K3:=hid (Rok.after (R:=R) B2.out hok3 (fun _ h=>h));clear hP3 hok3)
  | (go_at_call 47;refine (CNr.out _).mono ?_;rintro e w5 ⟨g,rfl,hg5,hr5,hb5⟩;have R5:=hid hr5;have G5:=hid hg5;have B4:=hid (gt (show Below w3.heap.size w3 (w3.alloc (.cells #[.pointer (some ⟨p,0,none⟩)] 63)) from Below.alloc (Below.refl _ _) (Nat.le_refl _) _) hb5);have H5:=hid (HeapAt.keep (show HeapAt (w3.alloc (.cells #[.pointer (some ⟨p,0,none⟩)] 63)) w3.heap.size p from heap_alloc_new _ _) hb5);clear hr5 hg5 hb5)
  | (go_at_call 46;obtain ⟨W6,hW6⟩:∃ W6,W6=w5.alloc (.cells #[.int .i64 1,.slice (some ⟨g,0,none⟩) 512 512] 81):=⟨_,rfl⟩;rw [←hW6];have B6:=hid (show Below w5.heap.size w5 W6 by rw [hW6];exact Below.alloc (Below.refl _ _) (Nat.le_refl _) _);have Y6:=hid (show W6.heap[w5.heap.size]? = some (.cells #[.int .i64 1,.slice (some ⟨g,0,none⟩) 512 512] 81 (0,0)) by rw [hW6];exact heap_alloc_new _ _);have B7:=hid (gt B4.out B6.out);have P6:=hid (P3.out.work (Fr.of_below B7.out));have hpg:=make_pgs Y6.out (R5.out.keep B6.out);clear hW6;refine (hput_any w3.heap.size w5.heap.size 1 [⟨1,g,512,rootN 0 0 z60⟩] P6.out (H5.out.keep B6.out) (Or.inr ⟨Nat.le_refl _,Nat.lt_of_lt_of_le H5.out.lt B6.out.size⟩) hpg (Or.inr ⟨B4.out.size,(Array.getElem?_eq_some_iff.1 Y6.out).1⟩) (by intro x hx;simp only [List.mem_cons,List.mem_nil_iff,or_false]at hx;subst hx;exact Or.inr ⟨(by have h1:=G5.out;simp at h1;show w3.heap.size≤g;omega),Nat.lt_of_lt_of_le R5.out.lt B6.out.size⟩) HBZ.out (by intro x hx;simp only [List.mem_cons,List.mem_nil_iff,or_false]at hx;subst hx;exact ⟨Nat.le_refl _,by rw [HN.out];exact Nat.le_refl _⟩) (by intro x hx;simp only [List.mem_cons,List.mem_nil_iff,or_false]at hx;subst hx;exact Jrn.rootN_bytes _ _ _) (by show K+1+1≤500000;omega)).mono ?_;rintro e w8 ⟨rfl,hP8,hok8⟩;have P8:=hid hP8;have K8:=hid hok8;have H8:=hid ((H5.out.keep B6.out).rok hok8 (Or.inr ⟨Nat.le_refl _,Nat.lt_of_lt_of_le H5.out.lt B6.out.size⟩));clear hP8 hok8 hpg))
 go_ret2
 refine ⟨w3.heap.size,rfl,H8.out,K3.out.size,?_,?_⟩
 ·exact P8.out.less (fun b hb=>by rcases hb with hb |rfl;exact Or.inl hb;exact Or.inr ⟨Nat.le_refl _,Nat.lt_of_lt_of_le H5.out.lt B6.out.size⟩)
 ·exact (K3.out.below B7.out).then K8.out (fun b hb=>Or.inl hb)
end
end
section
open Go.RowKit Go.Maps
open Dsk (gt hid undrew keep_old keep_cell lt_cell Rd DS FS Sec DiskP newD)
open Cch (CS CP Fr)
open Jrn (Pv2 Row5 numAt RB fr_two trunkN rootN putN nul)
def T1:RS:=rt0.begin.grow.put 0 (rootN 0 0 z60)
def T2:RS:=T1.grow
def T3:RS:=(T2.put 1 (trunkN 0 [])).put 0 (rootN 2 1 z60)
theorem fresh_any(w:World)(hT:Jrn.Tab w)(h0:0<w.heap.size) :
  Calls Tryz.prog 8 #[] w fun e w'=>∃ p hb,e=.returned (.tuple #[.pointer (some ⟨p,0,none⟩),.pointer (some ⟨hb,0,none⟩),.bool true])∧HeapAt w' hb p∧w.heap.size≤hb∧PrgAt False 32768 16 3 w' p w.heap.size (Plus (Old w) hb) T1∧Rok (Old w) w w':=by
 have c17:=hid (Dsk.new_yes 32768 w (by omega) (by omega))
 have HT:=hid hT;have H0:=hid h0
 clear hT h0
 go_enter Tryz.func8,Tryz.ntmps8
 go_wp2_with (first
  | (go_at_call 17;refine c17.out.mono ?_;rintro e w1 ⟨rfl,⟨P1,hd1,ha1⟩,hb1⟩;have D1:=hid hd1;have K1:=hid ha1;have B1:=hid hb1;clear hd1 ha1 hb1)
  | (go_at_call 18;refine (open_clean w.heap.size 16 P1 (newD 32768) [] w1 D1.out (clean_new 32768) whole_nil (by simp) (by omega) (by omega) (HT.out.keep B1.out) ⟨by have:=H0.out;have:=B1.out.size;omega,fun hd=>by rcases hd with h1 | h1;(have:=H0.out;omega);(have:=K1.out 0 h1;omega)⟩ (by show 0≤_;omega)).mono ?_;rintro e w2 ⟨p,x,rfl,ho⟩;have N2:=hid (prg_new B1.out K1.out ho);clear ho)
  | (go_at_call 19;refine (prg_begin N2.out.1).mono ?_;rintro e w3 ⟨rfl,hP3,hok3⟩;have P3:=hid (show PrgAt False 32768 16 1 w3 p w.heap.size (Old w) rt0.begin from hP3);have K3:=hid (N2.out.2.then hok3 (fun _ h=>h));clear hP3 hok3)
  | (go_at_call 20;refine (Make_yes P3.out rfl rfl (by omega)).mono ?_;rintro e w4 ⟨hb,rfl,hH4,hhb,hP4,hok4⟩;have H4:=hid hH4;have P4:=hid hP4;have K4:=hid (K3.out.then hok4 (fun _ h=>h));have HB4:=hid (Nat.le_trans K3.out.size hhb);clear hH4 hP4 hok4 hhb))
 go_ret3
 exact ⟨p,hb,rfl,H4.out,HB4.out,P4.out,K4.out⟩
theorem lives_any(w:World)(hT:Jrn.Tab w)(h0:0<w.heap.size):Calls Tryz.prog 7 #[] w fun e w'=>e=.returned (.bool true)∧Below w.heap.size w w':=by
 have c8:=hid (fresh_any w hT h0)
 clear hT h0
 have t0:Hid True:=hid trivial
 go_enter Tryz.func7,Tryz.ntmps7
 go_wp2_with (first
  | (go_at_call 8;refine c8.out.mono ?_;rintro e w1 ⟨p,hb,rfl,hH1,hhb,hP1,hok1⟩;have H1:=hid hH1;have P1:=hid hP1;have K1:=hid hok1;clear hH1 hhb hP1 hok1)
  | (go_at_call 15;clear t0;refine (Take_grow hb z60 P1.out H1.out (Or.inr rfl) rfl rfl (by decide) (by decide) (by omega)).mono ?_;rintro e w2 ⟨rfl,hP2,hok2⟩;have P2:=hid hP2;have H2:=hid (H1.out.rok hok2 (Or.inr rfl));have K2:=hid (K1.out.then hok2 (fun b hb=>Or.inl hb));clear hP2 hok2)
  | (go_at_call 16;refine (Give_first hb 2 z60 P2.out H2.out (Or.inr rfl) (fun b hb=>P2.out.lt hb) rfl (by decide) rfl (by omega) (by decide) (by decide) (by omega)).mono ?_;rintro e w3 ⟨rfl,hP3,hok3⟩;have P3:=hid hP3;have H3:=hid (H2.out.rok hok3 (Or.inr rfl));have K3:=hid (K2.out.then hok3 (fun b hb=>Or.inl hb));clear hP3 hok3)
  | (go_at_call 15;refine (Take_one hb 1 z60 P3.out H3.out (Or.inr rfl) (fun b hb=>P3.out.lt hb) rfl rfl rfl (by omega) (by decide) (by decide) (by omega)).mono ?_;rintro e w4 ⟨rfl,hP4,hok4⟩;have K4:=hid (K3.out.then hok4 (fun b hb=>Or.inl hb));clear hP4 hok4))
 go_ret
 exact ⟨rfl,old_below K4.out⟩
end
section
open Go.RowKit Go.Maps
open Dsk (gt hid undrew keep_old keep_cell lt_cell Rd DS DiskP)
open Cch (Fr)
open Jrn (Pv2 Row5 numAt RB fr_two trunkN rootN putN nul rowV rowC)
section
variable {arm:Prop} {room croom K:Nat} {p q:Nat} {R:Nat→Prop} {t:RS} {w:World}
def RS.shut(t:RS):RS:=⟨t.sure,[],[],false,[],0,0⟩
theorem reopen8(h:PrgAt arm room croom K w p q R t)(hK:K≤600000) :
  Calls Tryz.prog 18 #[.pointer (some ⟨q,0,none⟩),.int .i64 16] w fun e w'=>∃ p2,e=.returned (.tuple #[.pointer (some ⟨p2,0,none⟩),.int .i64 0])∧PrgAt arm room 16 K w' p2 q R t.shut∧Rok R w w':=by
 obtain ⟨x,P,C,d,s,n,enc,ms,k⟩:=h
 have hx:=k.live.tx
 have hq:x.q=q:=k.q
 have hdk:DiskP w q P d:=by rw [←hq];exact hx.core.dk
 have hnc:∀ b,DN q P b→NC p x P C b:=fun b hb=>Or.inl (by rw [hq];exact hb)
 have hops:=k.ops
 have h8:=open_clean q 16 P d t.sure w hdk ⟨by rw [k.sure.f0];rfl,by rw [k.sure.f1];rfl,k.env.on⟩ hx.ws hx.bs (by omega) (by omega) hx.tab ⟨hx.t0.1,fun hd=>hx.t0.2 (hnc 0 hd)⟩ (by omega)
 refine h8.mono ?_
 rintro e w' ⟨p2,x2,rfl,ho⟩
 have hRB:∀ b,R b→b<w.heap.size∧¬DN q P b∧b≠0:=fun b hb=>⟨k.rl b hb,fun hd=>k.off b (Or.inl (hnc b hd)) hb,fun e=>k.off 0 (Or.inr (Or.inr (Or.inl rfl))) (by rw [←e];exact hb)⟩
 exact ⟨p2,rfl,opened ho k.sure k.env hops hRB,fr_imp ho.fr (fun b hb=>⟨fun hR=>(hRB b hR).2.1 hb,fun e=>hx.t0.2 (hnc 0 (by rw [←e];exact hb))⟩)⟩
theorem root_name(f c:Nat)(ws:List Nat):(rootN f c ws).take 8=Jrn.nameN:=by unfold rootN;rfl
variable {ws:List Nat} {f c:Nat}
theorem fopen_yes(h:PrgAt arm room croom K w p q R t)(hr:t.pages.getD 0 []=rootN f c ws)(hln:0<t.pages.length)(hK:K≤500000) :
  Calls Tryz.prog 23 #[.pointer (some ⟨p,0,none⟩)] w fun e w'=>e=.returned (.tuple #[.pointer (some ⟨w.heap.size,0,none⟩),.int .i64 0])∧HeapAt w' w.heap.size p∧PrgAt arm room croom (K+1) w' p q (Plus R w.heap.size) t∧Rok R w w':=by
 obtain ⟨W0,hW0⟩:∃ W0,W0=w.alloc (.cells #[.pointer (some ⟨p,0,none⟩)] 63):=⟨_,rfl⟩
 have B0:=hid (show Below w.heap.size w W0 by rw [hW0];exact Below.alloc (Below.refl _ _) (Nat.le_refl _) _)
 have H0:=hid (show HeapAt W0 w.heap.size p by rw [hW0];exact heap_alloc_new _ _)
 have P0:=hid (h.new (g:=w.heap.size) B0.out (Nat.le_refl _) H0.out.lt)
 have CG:=hid (root_yes w.heap.size P0.out H0.out hln (by omega))
 rw [hr]at CG
 have CN:=hid (fun W g cap B (hW:Row5 W B g cap (rootN f c ws))=>Jrn.named_any 1 g cap _ W hW.rd (Jrn.rootN_bytes _ _ _))
 rw [root_name,decide_eq_true rfl]at CN
 have HW0:=hid hW0
 clear h hr hln hW0
 unfold Pv2 at *
 go_enter Tryz.func23,Tryz.ntmps23
 go_wp2_with (first
  | (go_at_call 31;rw [←HW0.out];refine CG.out.mono ?_;rintro e w1 ⟨g,cap,rfl,hr1,hg1,hP1,hok1⟩;have B1:=hid (show Below w1.heap.size w1 (w1.alloc (.cells #[.int .i64 1,.slice (some ⟨g,0,none⟩) 512 cap] 83)) from Below.alloc (Below.refl _ _) (Nat.le_refl _) _);have R1:=hid (hr1.keep B1.out);have P1:=hid (hP1.keep B1.out);have K1:=hid hok1;have H1:=hid ((H0.out.rok hok1 (Or.inr rfl)).keep B1.out);clear hr1 hg1 hP1 hok1)
  | (go_at_call 55;refine (CN.out _ g cap _ R1.out).mono ?_;rintro e w2 ⟨rfl,hb2⟩;have B2:=hid hb2;clear hb2))
 go_ret2
 refine ⟨rfl,H1.out.keep B2.out,(P1.out.keep B2.out).less (fun b hb=>Or.inl hb),?_⟩
 exact ((Rok.after B0.out K1.out (fun b hb=>Or.inl hb)).below B1.out).below B2.out
variable {hb:Nat}
theorem word_rest{i:Nat}(h:PrgAt arm room croom K w p q R t)(hh:HeapAt w hb p)(hr:t.pages.getD 0 []=rootN f c ws)(hln:0<t.pages.length)(hwl:ws.length=60)(hi:i<60)(hv:ws.getD i 0<18446744073709551616)(hK:K+5000≤500000) :
  Calls Tryz.prog 24 #[.pointer (some ⟨hb,0,none⟩),.int .i64 (i:Int)] w fun e w'=>e=.returned (.tuple #[.int .i64 (wrap64 (ws.getD i 0:Int)),.int .i64 0])∧PrgAt arm room croom (K+1) w' p q R t∧Rok R w w':=by
 have CG:=hid (root_yes hb h hh hln (by omega))
 rw [hr]at CG
 have CWd:=hid (fun W g cap=>Jrn.words_any 1 g cap W)
 have CR:=hid (fun W g cap B (hW:Row5 W B g cap (rootN f c ws))=>Jrn.rget_yes 1 g cap _ 16 8 60 i W hW.rd (Jrn.rootN_bytes _ _ _) (by omega) (by omega) hi (by omega))
 rw [Jrn.root_word _ _ ws i (by rw [hwl];exact hi) hv]at CR
 clear h hh hr hln hwl hv
 generalize ws.getD i 0=x at *
 unfold Pv2 at *
 unfold rowV rowC at *
 go_enter Tryz.func24,Tryz.ntmps24
 go_wp2_with (first
  | (go_at_call 31;refine CG.out.mono ?_;rintro e w1 ⟨g,cap,rfl,hr1,hg1,hP1,hok1⟩;have B1:=hid (show Below w1.heap.size w1 (w1.alloc (.cells #[.int .i64 1,.slice (some ⟨g,0,none⟩) 512 cap] 83)) from Below.alloc (Below.refl _ _) (Nat.le_refl _) _);have R1:=hid (hr1.keep B1.out);have P1:=hid (hP1.keep B1.out);have K1:=hid hok1;clear hr1 hg1 hP1 hok1)
  | (go_at_call 48;refine (CWd.out _ g cap).mono ?_;rintro e w2 ⟨rfl,hb2⟩;have R2:=hid (R1.out.keep hb2);have B2:=hid hb2;clear hb2)
  | (go_at_call 56;refine (CR.out w2 g cap _ R2.out).mono ?_;rintro e w3 ⟨rfl,hb3⟩;have B3:=hid (gt B2.out hb3);clear hb3))
 go_ret2
 exact ⟨rfl,(P1.out.keep B3.out).less (fun b hb=>Or.inl hb),(K1.out.below B1.out).below B3.out⟩
theorem list_rest(hb g cap B0:Nat)(ws:List Nat)(tr:List (Nat×List Nat))(h:PrgAt arm room croom K w p q R t)(hh:HeapAt w hb p)(hR:R hb)(hL:Lay t.pages tr ws)(hr:Row5 w B0 g cap (rootN (firstOf tr) (flat tr).length ws))(hn4:t.pages.length≤4000)(hK:K+4000≤800000) :
  Calls Tryz.prog 32 #[.pointer (some ⟨hb,0,none⟩),Pv2 1 g 0 cap] w fun e w'=>∃ ao cp,e=.returned (.tuple #[.slice ao (flat tr).length cp,.int .i64 0])∧AO arm room croom (K+tr.length) p q R t w.heap.size w (.slice ao (flat tr).length cp) (flat tr) w':=by
 have hc:=hL.count
 have hl:=flat_len tr
 have hf:firstOf tr≤4000:=by
  cases tr with
  | nil=>exact Nat.zero_le _
  | cons x r=>have:=(hL.chain.range x.1 (by rw [flat_cons];simp)).2;show x.1≤4000;omega
 exact list_any hb g cap (firstOf tr) (flat tr).length B0 ws tr h hh hR hr (by omega) (by omega) hL.chain rfl (by omega) hn4 (by omega) (by omega)
theorem all_rest{tr:List (Nat×List Nat)}(h:PrgAt arm room croom K w p q R t)(hh:HeapAt w hb p)(hm:R hb)(hL:Lay t.pages tr ws)(hn4:t.pages.length≤4000)(hK:K+5000≤500000) :
  Calls Tryz.prog 11 #[.pointer (some ⟨hb,0,none⟩)] w fun e w'=>∃ ao cp,e=.returned (.tuple #[.slice ao (flat tr).length cp,.int .i64 0])∧w'.ownsRow w.heap.size 3 1 (.slice ao (flat tr).length cp) (flat tr).length (zI (flat tr))∧Rok R w w':=by
 have CG:=hid (root_yes hb h hh hL.ln (by omega))
 rw [hL.root]at CG
 have CLi:=hid (fun W g cap RR B0 (hP:PrgAt arm room croom (K+1) W p q RR t) (hH:HeapAt W hb p) (h1:RR hb) (h2:Row5 W B0 g cap (rootN (firstOf tr) (flat tr).length ws))=>list_rest (R:=RR) hb g cap B0 ws tr hP hH h1 hL h2 hn4 (by omega))
 have HH:=hid hh;have HR:=hid hm
 clear h hh hm hL
 generalize hLL:(flat tr).length=LL at *
 have HLL:=hid hLL
 clear hLL
 unfold Pv2 at *
 go_enter Tryz.func11,Tryz.ntmps11
 go_wp2_with (first
  | (go_at_call 31;refine CG.out.mono ?_;rintro e w1 ⟨g,cap,rfl,hr1,hg1,hP1,hok1⟩;have B1:=hid (show Below w1.heap.size w1 (w1.alloc (.cells #[.int .i64 1,.slice (some ⟨g,0,none⟩) 512 cap] 83)) from Below.alloc (Below.refl _ _) (Nat.le_refl _) _);have R1:=hid (hr1.keep B1.out);have P1:=hid (hP1.new B1.out (Nat.le_refl _) (by simp));have K1:=hid hok1;have H1:=hid ((HH.out.rok hok1 HR.out).keep B1.out);clear hr1 hg1 hP1 hok1)
  | (go_at_call 32;refine (CLi.out _ g cap _ _ P1.out H1.out (Or.inl (Or.inl HR.out)) R1.out).mono ?_;rintro e w2 ⟨ao,cp,rfl,hA⟩;have A2:=hid hA;clear hA))
 go_ret2
 refine ⟨ao,cp,rfl,?_,(K1.out.below B1.out).then A2.out.k (fun b hb=>Or.inl (Or.inl hb))⟩
 have:=A2.out.o
 rw [HLL.out]at this
 exact own_dn this (by have h1:=K1.out.size;have h2:=B1.out.size;omega)
end
end
section
structure Parted (l:List Nat) (tr:List (Nat×List Nat)) (N:Nat):Prop where
 nd:(l++flat tr).Nodup
 rg:∀ y∈l,2≤y∧y≤N
 cnt:l.length+(flat tr).length+1=N
variable {N:Nat} {l:List Nat}
theorem Parted.take(h:Parted l [] N):Parted (l++[N+1]) [] (N+1):=by
 have h1:=h.nd
 have h2:=h.cnt
 simp only [flat,List.flatMap_nil,List.append_nil,List.length_nil]at h1 h2
 refine ⟨?_,fun y hy=>?_,by simp [flat];omega⟩
 ·simp only [flat,List.flatMap_nil,List.append_nil]
  refine (List.perm_append_comm (l₁:=[N+1]) (l₂:=l)).nodup_iff.1 (List.nodup_cons.2 ⟨fun hm=>?_,h1⟩)
  have:=(h.rg _ hm).2;omega
 ·rcases List.mem_append.1 hy with hy |hy
  ·have:=h.rg y hy;omega
  ·rw [List.mem_singleton]at hy;subst hy;have:=h2;omega
theorem Parted.give{l':List Nat}{x:Nat}{tr tr':List (Nat×List Nat)}(h:Parted l tr N)(hp:l.Perm (x::l'))(hf:(flat tr').Perm (x::flat tr)):Parted l' tr' N:=by
 have h1:(l'++flat tr').Perm (l++flat tr):=by
  refine (List.Perm.append_left l' hf).trans (List.perm_middle.trans ?_)
  exact (List.Perm.append_right (flat tr) hp).symm
 refine ⟨h1.nodup_iff.2 h.nd,fun y hy=>h.rg y (hp.mem_iff.2 (List.mem_cons_of_mem _ hy)),?_⟩
 have e1:=hp.length_eq
 have e2:=hf.length_eq
 have e3:=h.cnt
 simp at e1 e2
 omega
theorem perm_out{i:Nat}(hi:i<l.length):l.Perm (l.getD i 0::(l.take i++l.drop (i+1))):=by
 have e:l=l.take i++l.getD i 0::l.drop (i+1):=by
  conv=>lhs;rw [←List.take_append_drop i l]
  rw [List.drop_eq_getElem_cons hi,List.getD,List.getElem?_eq_getElem hi];rfl
 conv=>lhs;rw [e]
 exact List.perm_middle
theorem Parted.out{tr:List (Nat×List Nat)}(h:Parted l tr N){x:Nat}(hx:x∈l):x∉flat tr:=fun hf=>(List.nodup_append.1 h.nd).2.2 x hx x hf rfl
end
end Go.Proofs.YtgjgkpnjchflaaaGreatDoor
