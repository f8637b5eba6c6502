/- Open on a disk without a journal; no statement of the seat is proved here. -/
import Derived.Test.YtneemfbnjkcflaaGreatDoorB29
import Derived.Test.YtneemfbnjkcflaaGreatDoorB23
import Derived.Test.YtneemfbnjkcflaaGreatDoorB36
import Derived.OwnWalk
import Derived.Test.YtneemfbnjkcflaaGreatDoorB38
set_option maxHeartbeats 16000000
set_option maxRecDepth 20000
namespace Go.Proofs.YtneemfbnjkcflaaGreatDoor
section
open Go.RowKit Go.Maps
open Dsk (gt hid undrew keep_old keep_cell lt_cell Rd DS FS Sec DiskP DFrame Grew From lenD readD newD known)
open Cch (CS CP Fr)
structure Clean (d:DS) (l:List Pg):Prop where
 f0:d.f0.now=secsOf l
 f1:d.f1.now = []
 on:d.off=false
theorem hot_nil:Jrn.hotN []=false:=by decide
variable {l:List Pg} {d:DS}
theorem Clean.len(h:Clean d l):lenD d 0=l.length*4∧lenD d 1=0:=by
 constructor
 ·show d.f0.now.length=_
  rw [h.f0,secsOf_length]
 ·show d.f1.now.length=_
  rw [h.f1];rfl
theorem Clean.read(h:Clean d l):readD d 1 0 0=([],0):=by
 have hk:known 1=true:=rfl
 have hf:(d.file 1)=d.f1:=rfl
 unfold readD
 rw [h.on,hk,hf,h.f1]
 simp
theorem Clean.cut(h:Clean d l):firstD [.ct 1 0] d=(0,d):=by
 simp [firstD,Stp.go,h.len.2]
theorem recovered_clean(q:Nat)(P:Dsk.Parts)(d:DS)(l:List Pg)(w:World)(h:DiskP w q P d)(hc:Clean d l)(hl:l.length≤4000)(hT:Jrn.Tab w)(hop:d.ops≤900000000) :
  Calls Tryz.prog 37 #[.pointer (some ⟨q,0,none⟩)] w fun e w'=>e=.returned (.tuple #[.int .i64 0,.int .i64 0])∧DiskTo w w' q P d:=by
 obtain ⟨hl0,hl1⟩:=hc.len
 have cs1:=Dsk.sectors_call q P d 1 w h
 rw [hl1]at cs1
 have cr:=Dsk.read_call q P d 0 0 0 w h (by omega) (by omega)
 have cr1:=Dsk.read_call q P d 1 0 0 w h (by omega) (by omega)
 rw [hc.read]at cr1
 have C1:=hid cs1;have C2:=hid cr1;have H:=hid h;have HT:=hid hT;have HC:=hid hc
 have HC0:Hid (∀ W,DiskP W q P d→Calls Tryz.prog 38 #[.pointer (some ⟨q,0,none⟩),.int .i64 0] W fun e w'=>e=.returned (.int .i64 ((l.length*4:Nat):Int))∧w'=W):=hid (fun W hW=>by have:=Dsk.sectors_call q P d 0 W hW;rw [hl0]at this;exact this)
 obtain ⟨N,hN⟩:∃ N,l.length*4=N:=⟨_,rfl⟩
 rw [hN]at HC0
 have hm:(N:Int) % 4=0:=by omega
 have hq:(N:Int)/4≤4000:=by omega
 have hN0:(0:Int)≤(N:Int):=by omega
 have htm:(N:Int).tmod 4=0:=by rw [Int.tmod_eq_emod_of_nonneg hN0];exact hm
 have htd:(N:Int).tdiv 4≤4000:=by rw [Int.tdiv_eq_ediv_of_nonneg hN0];exact hq
 clear cs1 cr cr1 h hT hc hl0 hl1 hN
 go_enter Tryz.func37,Tryz.ntmps37
 have t1:Hid True:=hid trivial
 go_wp2_with (first
  | (go_at_call 38;clear t1;refine C1.out.mono ?_;rintro e w1 ⟨rfl,hw⟩;obtain rfl:=hw.symm)
  | (go_at_call 69;refine C2.out.mono ?_;rintro e w2 ⟨ro,rc,rfl,hr,_,hb⟩;have R2:Hid (Rd w2 ro 0 rc []):=hid hr;have B2:=hid hb;clear hr hb)
  | (go_at_call 38;refine (HC0.out w2 (H.out.later B2.out)).mono ?_;rintro e w3 ⟨rfl,hw⟩;obtain rfl:=hw.symm)
  | (go_at_call 70;refine (cut_make q 1 0 (DN q P) w2 (fun k hk=>Nat.lt_of_lt_of_le (DN.lt H.out hk) B2.out.size)).mono ?_;rintro e w4 ⟨x4,rfl,s4,hb4⟩;obtain ⟨n4,cs4,rfl⟩:=step_func s4;have hb5:Below w4.heap.size w4 (w4.alloc (.cells #[.func (.func n4) #[] cs4] 131)):=Below.alloc (Below.refl _ _) (Nat.le_refl _) _;have S5:=hid (s4.later hb5);have B4:Hid (w2.heap.size≤w4.heap.size):=hid hb4.size;have B5:=hid (gt (gt B2.out hb4) hb5);have R5:=hid ((R2.out.keep hb4).keep hb5);clear s4 hb4 hb5)
  | (go_at_call 71;refine (Jrn.hot_any ro 0 rc [] _ R5.out (by intro x hx;cases hx) (by omega) (HT.out.keep B5.out)).mono ?_;rw [hot_nil];rintro e w6 ⟨rfl,hb6⟩;have B6:=hid (gt B5.out hb6);have ST6:Hid (StepsAt w6 q (DN q P) (some ⟨w4.heap.size,0,none⟩) [.ct 1 0]):=hid (StepsAt.later (steps_lit (us:=[.func (.func n4) #[] cs4]) 131 (fun k hk=>Nat.lt_of_lt_of_le (DN.lt H.out hk) B2.out.size) B4.out (fun j s hs=>by match j with | 0=>simp at hs;subst hs;exact ⟨_,rfl,S5.out⟩ | j+1=>simp at hs)) hb6);clear hb6)
  | (go_at_call 75;refine (show Calls Tryz.prog 75 #[.slice (some ⟨w4.heap.size,0,none⟩) 1 1] w6 _ from first_call q P d (some ⟨w4.heap.size,0,none⟩) 1 [.ct 1 0] w6 (H.out.later B6.out) (by simp;omega) ST6.out).mono ?_;rw [HC.out.cut];rintro e w7 ⟨rfl,hto⟩;have T7:=hid hto;clear hto))
 go_ret2
 exact ⟨rfl,DiskTo.first B6.out T7.out⟩
theorem end_gen(p:Nat)(T:Int)(w:World)(a4:w.cell? ⟨p,4,none⟩=some (.int .i64 T))(a5:w.cell? ⟨p,5,none⟩=some (.bool false))(a6:w.cell? ⟨p,6,none⟩=some (.int .i64 0))(a7:w.cell? ⟨p,7,none⟩=some (.map none))(a8:w.cell? ⟨p,8,none⟩=some (.slice none 0 0))(a9:w.cell? ⟨p,9,none⟩=some (.int .i64 0))(hf:∀ i,w.frozen? ⟨p,i,none⟩=false) :
  Calls Tryz.prog 39 #[.pointer (some ⟨p,0,none⟩)] w fun e w'=>e=.returned (.tuple #[])∧w'=(((((w.setCell ⟨p,5,none⟩ (.bool false)).setCell ⟨p,6,none⟩ (.int .i64 T)).setCell ⟨p,7,none⟩ (.map (some w.heap.size))).setCell ⟨p,8,none⟩ (.slice none 0 0)).setCell ⟨p,9,none⟩ (.int .i64 0)).alloc (.map #[] 0):=by
 have f5:=hf 5;have f6:=hf 6;have f7:=hf 7;have f8:=hf 8;have f9:=hf 9
 have hp:p<w.heap.size:=lt_cell a4
 have hne:¬p=w.heap.size:=by omega
 have mk:=fun W=>run_makeMap (P:=Tryz.prog) 79 W
 clear hf
 go_enter Tryz.func39,Tryz.ntmps39
 go_wp2
 go_end0
 exact ⟨rfl,rfl⟩
def rawP(q k:Nat)(T:Int)(rep:Int):List Value:=[.bool true,.int .i64 0,.pointer (some ⟨q,0,none⟩),.pointer (some ⟨k,0,none⟩),.int .i64 T,.bool false,.int .i64 0,.map none,.slice none 0 0,.int .i64 0,.int .i64 0,.int .i64 rep]
structure OpenTo (w w':World) (q:Nat) (P:Dsk.Parts) (d:DS) (room:Nat) (l:List Pg) (p:Nat) (x:PC):Prop where
 is:∃ P' C s,Rest w' p x P' C d s l∧s.hit=0∧s.miss=0∧s.room=room∧(∀ b,NC p x P' C b→DN q P b∨w.heap.size≤b)
 xq:x.q=q
 com:x.com=0
 rep:x.rep=0
 busy:x.busy=false
 new:w.heap.size≤p
 mnew:w.heap.size≤x.m
 mks:x.mo=none∧x.ml=0∧x.mc=0∧x.last=0
 fr:Fr (DN q P) w w'
theorem tx_open{w w':World}{p q k T:Nat}{P:Dsk.Parts}{C:Cch.Parts}{s:CS}(hd:w.heap[p]? = some (.cells (rawP q k (T:Int) 0).toArray 87 (0,0)))(dk:DiskP w q P d)(ck:CP w k C s)(dc:∀ b,DN q P b→¬C.S k b)(dp:¬DN q P p)(cp:¬C.S k p)(hf:Fits s l)(hT:T=l.length)(ws:Whole l)(bs:l.length≤4000)(tab:Jrn.Tab w)(t0:0<w.heap.size∧¬DN q P 0∧¬C.S k 0∧0≠p)
  (hw:w'=(((((w.setCell ⟨p,5,none⟩ (.bool false)).setCell ⟨p,6,none⟩ (.int .i64 (T:Int))).setCell ⟨p,7,none⟩ (.map (some w.heap.size))).setCell ⟨p,8,none⟩ (.slice none 0 0)).setCell ⟨p,9,none⟩ (.int .i64 0)).alloc (.map #[] 0)) :
  Rest w' p ⟨q,k,T,false,T,w.heap.size,none,0,0,0,0,0⟩ P C d s l∧Fr (fun b=>b=p) w w':=by
 have hpl:p<w.heap.size:=(Array.getElem?_eq_some_iff.1 hd).1
 obtain ⟨W,hW⟩:∃ W,W=((((w.setCell ⟨p,5,none⟩ (.bool false)).setCell ⟨p,6,none⟩ (.int .i64 (T:Int))).setCell ⟨p,7,none⟩ (.map (some w.heap.size))).setCell ⟨p,8,none⟩ (.slice none 0 0)).setCell ⟨p,9,none⟩ (.int .i64 0):=⟨_,rfl⟩
 have hWs:W.heap.size=w.heap.size:=by rw [hW];simp
 have hWo:∀ b,b≠p→W.heap[b]? = w.heap[b]?:=fun b hb=>by
  rw [hW,heap_setCell_other _ _ _ _ hb,heap_setCell_other _ _ _ _ hb,heap_setCell_other _ _ _ _ hb,heap_setCell_other _ _ _ _ hb,heap_setCell_other _ _ _ _ hb]
 rw [←hW]at hw
 have hs':w'.heap.size=w.heap.size+1:=by rw [hw];simp [hWs]
 have ho:∀ b,b<w.heap.size→b≠p→w'.heap[b]? = w.heap[b]?:=fun b hb hbp=>by
  rw [hw,hao _ _ _ (by rw [hWs];exact hb)];exact hWo b hbp
 have hPg:PgAt w' p ⟨q,k,T,false,T,w.heap.size,none,0,0,0,0,0⟩:=by
  have h1:=Cch.blk_set (Cch.blk_set (Cch.blk_set (Cch.blk_set (Cch.blk_set hd (i:=5) (v:=.bool false)) (i:=6) (v:=.int .i64 (T:Int))) (i:=7) (v:=.map (some w.heap.size))) (i:=8) (v:=.slice none 0 0)) (i:=9) (v:=.int .i64 0)
  rw [←hW]at h1
  unfold PgAt
  rw [hw,hao _ _ _ (by rw [hWs];exact hpl),h1]
  rfl
 have hmap:w'.ownsMap Tryz.prog 3 slR w.heap.size 0 (Dsk.dirtD (false::List.replicate l.length false) (List.replicate (l.length+1) [])):=by
  rw [dirt_none,hw]
  have:=World.ownsMap_made W Tryz.prog 3 slR (H:=Unit)
  rw [hWs]at this;exact this
 have hcore:Core w' p ⟨q,k,T,false,T,w.heap.size,none,0,0,0,0,0⟩ P C d s:=
  ⟨hPg,dk.stay (by omega) (fun b hb hdd=>ho b hb (fun e=>dp (by rcases hdd with h1 |h1;exact Or.inr (e▸h1);exact Or.inl (e▸h1)))),ck.stay (fun b hb hS=>ho b hb (fun e=>cp (e▸hS))),dc,dp,cp⟩
 have hfr:Fr (fun b=>b=p) w w':=by rw [hw,hW];exact alloc_frame (set_frame (set_frame (set_frame (set_frame (set_frame (Fr.refl _ _))))))
 have hcf:∀ i,(List.replicate l.length false).getD i false=false:=fun i=>by
  rw [List.getD,List.getElem?_replicate];split<;>rfl
 have hlt:∀ b,NC p ⟨q,k,T,false,T,w.heap.size,none,0,0,0,0,0⟩ P C b→b<w.heap.size:=fun b hb=>by
  rcases hb with hb |hb |rfl
  ·exact DN.lt dk hb
  ·exact ck.lt hb
  ·exact hpl
 refine ⟨⟨hcore,⟨hmap,by simp,by simp,fun i hi=>?_⟩,⟨by show w.heap.size<_;omega,fun hk=>by have:=hlt _ hk;simp only at this;omega⟩,hf,hT,hT,ws,ws,bs,bs,tab_of tab (ho 0 t0.1 t0.2.2.2),⟨by have:=t0.1;omega,fun hk=>?_⟩,?_,fun i hi _=>⟨hi,rfl⟩⟩,hfr⟩
 ·rw [hcf i]at hi;cases hi
 ·rcases hk with hk |hk |hk
  ·exact t0.2.1 hk
  ·exact t0.2.2.1 hk
  ·exact t0.2.2.2 hk
 ·show w.heap.size≠0
  have:=t0.1;omega
theorem open_clean(q room:Nat)(P:Dsk.Parts)(d:DS)(l:List Pg)(w:World)(h:DiskP w q P d)(hc:Clean d l)(hw:Whole l)(hl:l.length≤4000)(hr1:8≤room)(hr2:room≤4096)(hT:Jrn.Tab w)(h0:Out w (DN q P) 0)(hop:d.ops≤900000000) :
  Calls Tryz.prog 16 #[.pointer (some ⟨q,0,none⟩),.int .i64 (room:Int)] w fun e w'=>∃ p x,e=.returned (.tuple #[.pointer (some ⟨p,0,none⟩),.int .i64 0])∧OpenTo w w' q P d room l p x:=by
 have c41:=hid (Dsk.room_any q P d w h)
 have hrm:¬(d.room:Int)=0:=by have:=h.ok.r1;omega
 have c42:=hid (Cch.new_yes room w (by omega) hr2)
 have HR:=hid (fun W (hb:Below w.heap.size w W)=>recovered_clean q P d l W (h.later hb) hc hl (hT.keep hb) hop)
 have H:=hid h;have HC:=hid hc;have HW:=hid hw;have HT:=hid hT;have H0:=hid h0
 have hl0:=hc.len.1
 have C29:Hid (∀ W P',DiskP W q P' d→Calls Tryz.prog 38 #[.pointer (some ⟨q,0,none⟩),.int .i64 0] W fun e w'=>e=.returned (.int .i64 ((l.length*4:Nat):Int))∧w'=W):=hid (fun W P' hW=>by have:=Dsk.sectors_call q P' d 0 W hW;rw [hl0]at this;exact this)
 obtain ⟨T,hTl⟩:∃ T,T=l.length:=⟨_,rfl⟩
 rw [←hTl]at C29 hl
 have HTL:=hid hTl
 obtain ⟨N,hN⟩:∃ N,T*4=N:=⟨_,rfl⟩
 rw [hN]at C29
 have hdiv:(N:Int).tdiv 4=(T:Int):=by rw [Int.tdiv_eq_ediv_of_nonneg (by omega)];omega
 have hr8:¬(room:Int)<8:=by omega
 clear h hc hw hT h0 hl0 hTl hN
 go_enter Tryz.func16,Tryz.ntmps16
 go_upto_region 10 with (first
  | (go_at_call 35;refine c41.out.mono ?_;rintro e w1 ⟨rfl,hw1⟩;obtain rfl:=hw1.symm)
  | (go_at_call 36;refine c42.out.mono ?_;rintro e w2 ⟨k,rfl,C,hcp,hks,hCS,hb2⟩;have CP2:=hid hcp;have CS2:=hid hCS;have B2:=hid hb2;clear hcp hks hCS hb2)
  | (go_at_call 37;refine (HR.out w2 B2.out).mono ?_;rintro e w3 ⟨rfl,hto⟩;have T3:=hid hto;clear hto))
 obtain ⟨P3,hd3,hg3⟩:=T3.out.is
 obtain ⟨pp,hpp⟩:∃ pp,pp=w3.heap.size:=⟨_,rfl⟩
 obtain ⟨W4,hW4⟩:∃ W4,W4=w3.alloc (.cells (rawP q k 0 0).toArray 87):=⟨_,rfl⟩
 have hb4:Below w3.heap.size w3 W4:=by rw [hW4];exact Below.alloc (Below.refl _ _) (Nat.le_refl _) _
 have hr4:W4.heap[pp]? = some (.cells (rawP q k 0 0).toArray 87 (0,0)):=by rw [hW4,hpp];exact heap_alloc_new w3 _
 obtain ⟨W5,hW5⟩:∃ W5,W5=W4.setCell ⟨pp,4,none⟩ (.int .i64 (T:Int)):=⟨_,rfl⟩
 have hr5:W5.heap[pp]? = some (.cells (rawP q k (T:Int) 0).toArray 87 (0,0)):=by rw [hW5,Cch.blk_set hr4];rfl
 have h5o:∀ b,b≠pp→W5.heap[b]? = W4.heap[b]?:=fun b hb=>by rw [hW5,heap_setCell_other _ _ _ _ hb]
 have h5s:W5.heap.size=W4.heap.size:=by rw [hW5];simp
 have h4s:W4.heap.size=pp+1:=by rw [hW4,hpp];simp
 have h45:∀ b,b<pp→W5.heap[b]? = w3.heap[b]?:=fun b hb=>(h5o b (by omega)).trans (hb4.block b (by omega))
 have hdk5:DiskP W5 q P3 d:=hd3.stay (by omega) (fun b hb _=>h45 b (by omega))
 have hf3:=fr_df T3.out.fr
 have hDN:∀ b,DN q P b→b<w.heap.size:=fun b hb=>DN.lt H.out hb
 have hck5:CP W5 k C ⟨room,[],0,0⟩:=CP2.out.stay (fun b hb hS=>(h45 b (by have:=hf3.size;omega)).trans (hf3.blk b hb (fun hk=>by have h1:=hDN b hk;have h2:=CS2.out b hS;omega)))
 have hDN3:∀ b,DN q P3 b→DN q P b∨w2.heap.size≤b:=fun b hb=>by
  rcases hb with hb |hb
  ·exact Or.inl (Or.inl hb)
  ·rcases hg3 b hb with h1 |h1
   ·exact Or.inl (Or.inr h1)
   ·exact Or.inr h1
 have hdc:∀ b,DN q P3 b→¬C.S k b:=fun b hb hS=>by
  have h1:=CP2.out.lt hS
  rcases hDN3 b hb with h2 |h2
  ·have h3:=hDN b h2;have h4:=CS2.out b hS;omega
  ·omega
 have hdp:¬DN q P3 pp:=fun hk=>by have h1:=DN.lt hd3 hk;omega
 have hcp:¬C.S k pp:=fun hk=>by have h1:=CP2.out.lt hk;have:=hf3.size;omega
 have hsz:w.heap.size≤w3.heap.size:=Nat.le_trans B2.out.size hf3.size
 have h00:=H0.out.1
 have hD0:¬DN q P3 0:=fun hk=>by
  rcases hDN3 0 hk with h1 |h1
  ·exact H0.out.2 h1
  ·have:=B2.out.size;omega
 have hC0:¬C.S k 0:=fun hS=>by have:=CS2.out 0 hS;omega
 have htab:Jrn.Tab W5:=tab_of HT.out ((h45 0 (by omega)).trans ((hf3.blk 0 (by have:=B2.out.size;omega) (fun hk=>H0.out.2 hk)).trans (B2.out.block 0 h00)))
 have hfit:Fits (⟨room,[],0,0⟩:CS) l:=⟨fun r hr=>(by cases hr),Nat.zero_le _,hr1⟩
 have FF:Hid (∀ w',w'=(((((W5.setCell ⟨pp,5,none⟩ (.bool false)).setCell ⟨pp,6,none⟩ (.int .i64 (T:Int))).setCell ⟨pp,7,none⟩ (.map (some W5.heap.size))).setCell ⟨pp,8,none⟩ (.slice none 0 0)).setCell ⟨pp,9,none⟩ (.int .i64 0)).alloc (.map #[] 0)→_):=
  hid (fun w' hw=>tx_open hr5 hdk5 hck5 hdc hdp hcp hfit HTL.out HW.out (by rw [←HTL.out];exact hl) htab ⟨by omega,hD0,hC0,by omega⟩ hw)
 have CE:=hid (end_gen pp (T:Int) W5 ((Cch.hd_cell hr5 4).trans rfl) ((Cch.hd_cell hr5 5).trans rfl) ((Cch.hd_cell hr5 6).trans rfl) ((Cch.hd_cell hr5 7).trans rfl) ((Cch.hd_cell hr5 8).trans rfl) ((Cch.hd_cell hr5 9).trans rfl) (fun i=>Cch.hd_frozen hr5 i))
 have CS4:=hid (C29.out W4 P3 (hd3.later hb4))
 have k4:W4.cell? ⟨pp,4,none⟩=some (.int .i64 0):=(Cch.hd_cell hr4 4).trans rfl
 have f4:W4.frozen? ⟨pp,4,none⟩=false:=Cch.hd_frozen hr4 4
 have HW5:=hid hW5
 have FIN:Hid (Fr (DN q P) w W5∧w.heap.size≤pp∧(∀ b,DN q P3 b∨C.S k b∨b=pp→DN q P b∨w.heap.size≤b)):=hid ⟨⟨by rw [hW5,hW4];exact hf3.os.trans B2.out.os,by rw [hW5,hW4];exact hf3.tape.trans B2.out.tape,by rw [hW5,hW4];exact hf3.output.trans B2.out.output,by omega,fun b hb hn=>(h45 b (by omega)).trans ((hf3.blk b (Nat.lt_of_lt_of_le hb B2.out.size) hn).trans (B2.out.block b hb))⟩,by omega,fun b hb=>by
  rcases hb with hb |hb |hb
  ·rcases hDN3 b hb with h1 |h1
   ·exact Or.inl h1
   ·exact Or.inr (Nat.le_trans B2.out.size h1)
  ·exact Or.inr (CS2.out b hb)
  ·right;omega⟩
 have hw4:w3.alloc (.cells #[.bool true,.int .i64 0,.pointer (some ⟨q,0,none⟩),.pointer (some ⟨k,0,none⟩),.int .i64 0,.bool false,.int .i64 0,.map none,.slice none 0 0,.int .i64 0,.int .i64 0,.int .i64 0] 87)=W4:=by rw [hW4];rfl
 rw [hw4,←hpp]
 clear hw4 hW4 hpp hb4 hr4 hr5 h5o h5s h4s h45 hdk5 hf3 hDN hck5 hDN3 hdc hdp hcp hsz h00 hD0 hC0 htab hfit hW5 hd3 hg3
 go_wp2_with (first
  | (go_at_call 38;refine CS4.out.mono ?_;rintro e w5 ⟨rfl,hw5⟩;obtain rfl:=hw5.symm)
  | (go_at_call 39;rw [←HW5.out];refine CE.out.mono ?_;rintro e w6 ⟨rfl,hw6⟩;have HW6:=hid hw6;clear hw6))
 go_ret2
 obtain ⟨t1,t2⟩:=FF.out w6 HW6.out
 obtain ⟨g1,g2,g3⟩:=FIN.out
 exact ⟨pp,_,rfl,⟨⟨P3,C,_,t1,rfl,rfl,rfl,g3⟩,rfl,rfl,rfl,rfl,g2,g1.size,⟨rfl,rfl,rfl,rfl⟩,fr_trans g1 t2 (fun b hb=>by right;rw [hb];exact g2)⟩⟩
end
section
open Go.RowKit Go.Maps
open Dsk (gt hid undrew keep_old keep_cell lt_cell Rd DS FS Sec DiskP DFrame Grew From lenD readD newD known)
open Cch (CS CP Fr)
def RowB(W:World)(g:Nat)(xs:List Nat):Prop:=W.heap[g]? = some (.cells (Dsk.bs xs).toArray 5 (0,0))
end
section
open Go.RowKit Go.Maps
open Dsk (gt hid undrew keep_old keep_cell lt_cell Rd DS FS Sec DiskP newD)
open Cch (CS CP Fr)
open Jrn (Pv2 Row5 numAt RB fr_two trunkN rootN putN nul)
def rt0:RS:=⟨[],[],[],false,[],0,0⟩
def Old(w:World):Nat→Prop:=fun b=>b<w.heap.size∧b≠0
variable {w w':World}
theorem old_below(h:Rok (Old w) w w'):Below w.heap.size w w':=⟨h.os,h.tape,h.output,h.size,fun k hk=>h.blk k hk (fun e=>e.1 ⟨hk,e.2⟩)⟩
theorem clean_new(r:Nat):Clean (newD r) []:=⟨rfl,rfl,rfl⟩
theorem whole_nil:Whole []:=fun i hi=>by cases hi
variable {x:PC} {p room croom:Nat}
theorem opened{arm:Prop}{K:Nat}{q:Nat}{P:Dsk.Parts}{d:DS}{l:List Pg}{R:Nat→Prop}(ho:OpenTo w w' q P d croom l p x)(hs:Sured d l)(he:Env arm room d)(hop:d.ops≤K)(hR:∀ b,R b→b<w.heap.size∧¬DN q P b∧b≠0):PrgAt arm room croom K w' p q R ⟨l,[],[],false,[],0,0⟩:=by
 obtain ⟨P',C,s,hr,e1,e2,e3,hN⟩:=ho.is
 obtain ⟨m1,m2,m3,m4⟩:=ho.mks
 have hL:=hr.live ⟨m1,m2,m3⟩
 refine ⟨x,P',C,d,s,0,_,[],hL,ho.xq,ho.busy,ho.com,(fun e=>by cases e),(fun _=>⟨rfl,m4⟩),fun b hb hRb=>?_,hs,he,hop,by rw [e1,e2];exact Nat.zero_le _,e3,Nat.zero_le _,(fun k hk=>by cases hk),fun b hb=>Nat.lt_of_lt_of_le (hR b hb).1 ho.fr.size⟩
 have h1:=hR b hRb
 rcases hb with hb |hb |hb |hb | ⟨o,l,cc,hb⟩ | ⟨k,hk,_⟩
 ·rcases hN b hb with h2 |h2
  ·exact h1.2.1 h2
  ·omega
 ·have:=ho.mnew;omega
 ·exact h1.2.2 hb
 ·unfold PC.mv at hb;rw [m1]at hb;cases hb
 ·exact enc_nil _ _ o l cc hb
 ·cases hk
theorem prg_new{w1 w2:World}{P:Dsk.Parts}(B1:Below w.heap.size w w1)(hP:∀ k,P.all k→w.heap.size<k)(ho:OpenTo w1 w2 w.heap.size P (newD room) croom [] p x):PrgAt False room croom 0 w2 p w.heap.size (Old w) rt0∧Rok (Old w) w w2:=by
 have hdn:∀ b,b<w.heap.size→¬DN w.heap.size P b:=fun b hb hd=>by
  rcases hd with h1 |h1
  ·omega
  ·have:=hP b h1;omega
 have hs1:=B1.size
 refine ⟨opened ho ⟨rfl,rfl⟩ ⟨rfl,fun _=>rfl,rfl,by show 0≤_;omega⟩ (Nat.zero_le _) (fun b hb=>⟨by have:=hb.1;omega,hdn b hb.1,hb.2⟩),?_⟩
 refine (Fr.of_below B1).trans ho.fr (fun b hb hd=>(hdn b hb hd).elim)
section
variable {arm:Prop} {room croom K:Nat} {p q:Nat} {R:Nat→Prop} {t:RS} {w:World}
theorem field83(n:Int)(g:Nat)(W:World):(Instr.field 70 (.agg #[.int .i64 n,.slice (some ⟨g,0,none⟩) 512 512]) 0).run Tryz.prog W=.ok (.agg #[.int .i64 n,.slice (some ⟨g,0,none⟩) 512 512]) W:=by kernel_rfl
def z60:List Nat:=List.replicate 60 0
theorem make_pgs{W:World}{ab g B:Nat}(y:W.heap[ab]? = some (.cells #[.int .i64 1,.slice (some ⟨g,0,none⟩) 512 512] 68 (0,0)))(r:Row5 W B g 512 (rootN 0 0 z60)):Pgs W ab [⟨1,g,512,rootN 0 0 z60⟩]:=fun i x hx=>by
 match i,hx with
 | 0,hx=>simp at hx;subst hx;exact ⟨by simp [World.cell?,y],by simp [World.cell?,y],r.rd⟩
 | i+1,hx=>simp at hx
theorem Make_yes(h:PrgAt arm room croom K w p q R t)(hbz:t.busy=true)(hn:t.now = [])(hK:K+2≤500000) :
  Calls Tryz.prog 19 #[.pointer (some ⟨p,0,none⟩)] w fun e w'=>∃ hb,e=.returned (.tuple #[.pointer (some ⟨hb,0,none⟩),.int .i64 0])∧HeapAt w' hb p∧w.heap.size≤hb∧PrgAt arm room croom (K+2) w' p q (Plus R hb) (t.grow.put 0 (rootN 0 0 z60))∧Rok R w w':=by
 have hpb:t.pages=t.now:=RS.pages_busy hbz
 have CW:=hid (within_yes h hbz)
 have CPg:=hid (fun W (hW:Below w.heap.size w W)=>prg_pages (h.keep hW))
 rw [hpb,hn]at CPg
 have CGr:=hid (fun W (hW:Below w.heap.size w W)=>prg_grow_yes (h.keep hW) hbz (by rw [hn];decide) (by omega))
 rw [hn]at CGr
 have CNr:=hid (fun W=>Jrn.newRoot_any W)
 have HN:=hid (show t.grow.now.length=1 by show (t.now++[zeros]).length=1;rw [hn];rfl)
 have HBZ:=hid (show t.grow.busy=true from hbz)
 have H:=hid h
 have fl:=fun g W=>field83 1 g W
 clear h hbz hn hpb
 unfold Pv2 at *
 go_enter Tryz.func19,Tryz.ntmps19
 go_wp2_with (first
  | (go_at_call 41;refine CW.out.mono ?_;rintro e w1 ⟨rfl,hb1⟩;have B1:=hid hb1;clear hb1)
  | (go_at_call 15;refine (CPg.out w1 B1.out).mono ?_;rintro e w2 ⟨rfl,hb2⟩;have B2:=hid (gt B1.out hb2);clear hb2)
  | (go_at_call 42;refine (CGr.out w2 B2.out).mono ?_;rintro e w3 ⟨rfl,hP3,hok3⟩;have P3:=hid hP3;have K3:=hid (Rok.after (R:=R) B2.out hok3 (fun _ h=>h));clear hP3 hok3)
  | (go_at_call 44;refine (CNr.out _).mono ?_;rintro e w5 ⟨g,rfl,hg5,hr5,hb5⟩;have R5:=hid hr5;have G5:=hid hg5;have B4:=hid (gt (show Below w3.heap.size w3 (w3.alloc (.cells #[.pointer (some ⟨p,0,none⟩)] 78)) from Below.alloc (Below.refl _ _) (Nat.le_refl _) _) hb5);have H5:=hid (HeapAt.keep (show HeapAt (w3.alloc (.cells #[.pointer (some ⟨p,0,none⟩)] 78)) w3.heap.size p from heap_alloc_new _ _) hb5);clear hr5 hg5 hb5)
  | (go_at_call 43;obtain ⟨W6,hW6⟩:∃ W6,W6=w5.alloc (.cells #[.int .i64 1,.slice (some ⟨g,0,none⟩) 512 512] 68):=⟨_,rfl⟩;rw [←hW6];have B6:=hid (show Below w5.heap.size w5 W6 by rw [hW6];exact Below.alloc (Below.refl _ _) (Nat.le_refl _) _);have Y6:=hid (show W6.heap[w5.heap.size]? = some (.cells #[.int .i64 1,.slice (some ⟨g,0,none⟩) 512 512] 68 (0,0)) by rw [hW6];exact heap_alloc_new _ _);have B7:=hid (gt B4.out B6.out);have P6:=hid (P3.out.work (Fr.of_below B7.out));have hpg:=make_pgs Y6.out (R5.out.keep B6.out);clear hW6;refine (hput_any w3.heap.size w5.heap.size 1 [⟨1,g,512,rootN 0 0 z60⟩] P6.out (H5.out.keep B6.out) (Or.inr ⟨Nat.le_refl _,Nat.lt_of_lt_of_le H5.out.lt B6.out.size⟩) hpg (Or.inr ⟨B4.out.size,(Array.getElem?_eq_some_iff.1 Y6.out).1⟩) (by intro x hx;simp only [List.mem_cons,List.mem_nil_iff,or_false]at hx;subst hx;exact Or.inr ⟨(by have h1:=G5.out;simp at h1;show w3.heap.size≤g;omega),Nat.lt_of_lt_of_le R5.out.lt B6.out.size⟩) HBZ.out (by intro x hx;simp only [List.mem_cons,List.mem_nil_iff,or_false]at hx;subst hx;exact ⟨Nat.le_refl _,by rw [HN.out];exact Nat.le_refl _⟩) (by intro x hx;simp only [List.mem_cons,List.mem_nil_iff,or_false]at hx;subst hx;exact Jrn.rootN_bytes _ _ _) (by show K+1+1≤500000;omega)).mono ?_;rintro e w8 ⟨rfl,hP8,hok8⟩;have P8:=hid hP8;have K8:=hid hok8;have H8:=hid ((H5.out.keep B6.out).rok hok8 (Or.inr ⟨Nat.le_refl _,Nat.lt_of_lt_of_le H5.out.lt B6.out.size⟩));clear hP8 hok8 hpg))
 go_ret2
 refine ⟨w3.heap.size,rfl,H8.out,K3.out.size,?_,?_⟩
 ·exact P8.out.less (fun b hb=>by rcases hb with hb |rfl;exact Or.inl hb;exact Or.inr ⟨Nat.le_refl _,Nat.lt_of_lt_of_le H5.out.lt B6.out.size⟩)
 ·exact (K3.out.below B7.out).then K8.out (fun b hb=>Or.inl hb)
end
end
section
open Go.RowKit Go.Maps
open Dsk (gt hid undrew keep_old keep_cell lt_cell Rd DS FS Sec DiskP newD)
open Cch (CS CP Fr)
open Jrn (Pv2 Row5 numAt RB fr_two trunkN rootN putN nul)
def T1:RS:=rt0.begin.grow.put 0 (rootN 0 0 z60)
def T2:RS:=T1.grow
def T3:RS:=(T2.put 1 (trunkN 0 [])).put 0 (rootN 2 1 z60)
end
namespace Spl
open Go.RowKit Go.Maps
open Dsk (gt hid undrew keep_old keep_cell lt_cell newD)
open Jrn (Rd bs bs_length bs_one bs_get bs_get' bs_append rd_own Row5 putN putN_length numAt rootN Pv2)
open Cch (Fr)
structure Chn (P:List Pg) (N c:Nat) (xs:List Nat):Prop where
 at_:∀ j,j<c→P.getD (N+j) []=linkB (nxO N c j) (chunk xs j)
 len:N+c≤P.length
 n1:1≤N
 n4:N+c≤4000
 c1:1≤c
 m1:508*c<xs.length+508
 m2:xs.length≤508*c
 by_:∀ x∈xs,x<256
theorem nxN_link(nx:Nat)(xs:List Nat)(h:nx<4294967296):nxN (linkB nx xs)=nx:=by
 unfold nxN numAt linkB
 have hp:(putN nx 4 false).length=4:=putN_length nx 4 false
 rw [List.append_assoc,List.take_left' hp,List.drop_zero]
 have:=Jrn.psum_put4 nx h []
 rw [List.append_nil]at this
 exact this
theorem link_tail(nx:Nat)(xs:List Nat):(linkB nx xs).drop 4=xs++List.replicate (508 - xs.length) 0:=by
 unfold linkB
 rw [List.append_assoc,List.drop_left' (putN_length nx 4 false)]
theorem nxO_lt{N c j:Nat}(h:N+c≤4000):nxO N c j<4294967296:=by unfold nxO;split<;>omega
section
variable {P:List Pg} {N c:Nat} {xs:List Nat}
theorem Chn.pg(h:Chn P N c xs):∀ k,k<c→pgK P ((N+1:Nat):Int) k=((N+1+k:Nat):Int)
 | 0,_=>rfl
 | k+1,hk=>by
  have ih:=Chn.pg h k (by omega)
  have hl:=h.len
  have hok:okK P ((N+1:Nat):Int) k:=by have:=h.n1;unfold okK;rw [ih];omega
  rw [pgK_next hok]
  unfold pageK
  rw [ih,Int.toNat_natCast,show N+1+k - 1=N+k by omega,h.at_ k (by omega),nxN_link _ _ (nxO_lt h.n4)]
  unfold nxO
  rw [if_pos hk]
theorem Chn.ok(h:Chn P N c xs){k:Nat}(hk:k<c):okK P ((N+1:Nat):Int) k:=by
 have:=h.n1;have:=h.len
 unfold okK;rw [h.pg k hk];omega
theorem Chn.page(h:Chn P N c xs){k:Nat}(hk:k<c):pageK P ((N+1:Nat):Int) k=linkB (nxO N c k) (chunk xs k):=by
 unfold pageK
 rw [h.pg k hk,Int.toNat_natCast,show N+1+k - 1=N+k by omega,h.at_ k hk]
theorem Chn.last(h:Chn P N c xs):pgK P ((N+1:Nat):Int) c=0:=by
 obtain ⟨k,rfl⟩:∃ k,c=k+1:=⟨c - 1,by have:=h.c1;omega⟩
 rw [pgK_next (h.ok (k:=k) (by omega)),h.page (by omega),nxN_link _ _ (nxO_lt h.n4)]
 unfold nxO
 rw [if_neg (by omega)];rfl
theorem Chn.pgok(h:Chn P N c xs):PgOk P ((N+1:Nat):Int) c:=⟨fun _ hk=>h.ok hk,h.last⟩
theorem chunk_len(xs:List Nat)(k:Nat):(chunk xs k).length=min 508 (xs.length - 508*k):=by simp [chunk]
theorem Chn.tail(h:Chn P N c xs){k:Nat}(hk:k<c):(pageK P ((N+1:Nat):Int) k).drop 4=chunk xs k++List.replicate (508 - (chunk xs k).length) 0:=by rw [h.page hk,link_tail]
theorem all_rep(n:Nat):allNought (List.replicate n 0)=true:=by simp [allNought]
theorem all_app(a b:List Nat):allNought (a++b)=(allNought a&&allNought b):=by simp [allNought]
theorem Chn.behind(h:Chn P N c xs){n k:Nat}(hk:k<c)(hn:508*(c - 1)<n):allNought (behindK P ((N+1:Nat):Int) n k)=(if k+1=c then allNought (xs.drop n) else true):=by
 unfold behindK
 rw [h.tail hk]
 have hcl:=chunk_len xs k
 by_cases hl:k+1=c
 ·rw [if_pos hl]
  have hm1:=h.m1;have hm2:=h.m2
  have e1:chunk xs k=xs.drop (508*k):=by unfold chunk;exact List.take_of_length_le (by rw [List.length_drop];omega)
  rw [List.drop_append,all_app,e1,List.drop_drop,show 508*k+(n - 508*k)=n by omega]
  rw [List.drop_replicate,all_rep,Bool.and_true]
 ·rw [if_neg hl,List.drop_eq_nil_of_le (by simp;omega)]
  rfl
theorem Chn.rdok(h:Chn P N c xs){n:Nat}(hn1:508*(c - 1)<n):RdOk P ((N+1:Nat):Int) n c↔allNought (xs.drop n)=true:=by
 constructor
 ·intro hr
  have h1:=(hr.1 (c - 1) (by have:=h.c1;omega)).2
  rw [h.behind (by have:=h.c1;omega) hn1,if_pos (by have:=h.c1;omega)]at h1
  exact h1
 ·intro ha
  refine ⟨fun k hk=>⟨h.ok hk,?_⟩,h.last⟩
  rw [h.behind hk hn1]
  split
  ·exact ha
  ·rfl
theorem Chn.acc(h:Chn P N c xs):∀ k,k≤c→accK P ((N+1:Nat):Int) xs.length k=xs.take (508*k)
 | 0,_=>by simp [accK]
 | k+1,hk=>by
  show accK P ((N+1:Nat):Int) xs.length k++pieceK P ((N+1:Nat):Int) xs.length k=_
  rw [Chn.acc h k (by omega)]
  unfold pieceK
  rw [h.tail (by omega)]
  have hcl:=chunk_len xs k
  have hm1:=h.m1
  have e1:(chunk xs k++List.replicate (508 - (chunk xs k).length) 0).take (xs.length - 508*k)=chunk xs k:=by
   rcases Nat.lt_or_ge (xs.length - 508*k) 508 with h1 |h1
   ·exact List.take_left' (by omega)
   ·rw [show 508 - (chunk xs k).length=0 by omega,List.replicate_zero,List.append_nil]
    exact List.take_of_length_le (by omega)
  rw [e1]
  unfold chunk
  rw [show 508*(k+1)=508*k+508 by omega,List.take_add]
theorem Chn.whole(h:Chn P N c xs):accK P ((N+1:Nat):Int) xs.length c=xs:=by rw [h.acc c (Nat.le_refl _),List.take_of_length_le h.m2]
def AllB(P:List Pg):Prop:=∀ i,∀ x∈P.getD i [],x<256
theorem AllB.page(h:AllB P)(first:Int):∀ k,∀ x∈pageK P first k,x<256:=fun _ x hx=>h _ x hx
theorem AllB.set(h:AllB P){i:Nat}{b:Pg}(hb:∀ x∈b,x<256):AllB (P.set i b):=by
 intro j x hx
 by_cases hj:i=j
 ·subst hj
  rcases Nat.lt_or_ge i P.length with h1 |h1
  ·rw [set_same h1]at hx;exact hb x hx
  ·rw [List.set_eq_of_length_le h1]at hx;exact h i x hx
 ·rw [set_other hj]at hx;exact h j x hx
theorem AllB.app(h:AllB P){b:Pg}(hb:∀ x∈b,x<256):AllB (P++[b]):=by
 intro j x hx
 rcases Nat.lt_or_ge j P.length with h1 |h1
 ·simp only [List.getD]at hx;rw [List.getElem?_append_left h1]at hx;exact h j x hx
 ·simp only [List.getD]at hx
  rw [List.getElem?_append_right h1]at hx
  rcases Nat.eq_or_lt_of_le h1 with e |e
  ·rw [←e]at hx;simp at hx;exact hb x hx
  ·rw [List.getElem?_eq_none (by simp;omega)]at hx;simp at hx
theorem AllB.grown(t:RS)(h:AllB t.now):∀ k,AllB (growN t k).now
 | 0=>h
 | k+1=>(AllB.grown t h k).app (by intro x hx;rw [List.eq_of_mem_replicate hx];omega)
theorem AllB.laid(t:RS)(h:AllB t.now)(N c:Nat)(xs:List Nat)(hx:∀ x∈xs,x<256):∀ k,AllB (layT t N c xs k).now
 | 0=>h
 | k+1=>(AllB.laid t h N c xs hx k).set (linkB_bytes _ _ (fun x hm=>hx x (List.mem_of_mem_drop (List.mem_of_mem_take hm))))
theorem chn_new(t:RS)(c:Nat)(xs:List Nat)(h1:1≤t.now.length)(h4:t.now.length+c≤4000)(hc:1≤c)(m1:508*c<xs.length+508)(m2:xs.length≤508*c)(hx:∀ x∈xs,x<256):Chn (layT (growN t c) t.now.length c xs c).now t.now.length c xs:=
 ⟨fun j hj=>layT_at _ _ _ _ _ _ hj (by rw [growN_len];omega),by rw [layT_len,growN_len];omega,h1,h4,hc,m1,m2,hx⟩
end
section
variable {arm:Prop} {room croom K:Nat} {p q:Nat} {R:Nat→Prop} {t:RS} {w:World}
theorem sfresh_any(w:World)(hT:Jrn.Tab w)(h0:0<w.heap.size) :
  Calls Tryz.prog 6 #[] w fun e w'=>∃ p hb,e=.returned (.tuple #[.pointer (some ⟨hb,0,none⟩),.bool true])∧w.heap.size≤hb∧HeapS False 32768 16 3 w' hb p w.heap.size (Plus (Old w) hb) T1 [] z60∧Rok (Old w) w w':=by
 have c17:=hid (Dsk.new_yes 32768 w (by omega) (by omega))
 have HT:=hid hT;have H0:=hid h0
 clear hT h0
 go_enter Tryz.func6,Tryz.ntmps6
 go_wp2_with (first
  | (go_at_call 17;refine c17.out.mono ?_;rintro e w1 ⟨rfl,⟨P1,hd1,ha1⟩,hb1⟩;have D1:=hid hd1;have K1:=hid ha1;have B1:=hid hb1;clear hd1 ha1 hb1)
  | (go_at_call 16;refine (open_clean w.heap.size 16 P1 (newD 32768) [] w1 D1.out (clean_new 32768) whole_nil (by simp) (by omega) (by omega) (HT.out.keep B1.out) ⟨by have:=H0.out;have:=B1.out.size;omega,fun hd=>by rcases hd with h1 | h1;(have:=H0.out;omega);(have:=K1.out 0 h1;omega)⟩ (by show 0≤_;omega)).mono ?_;rintro e w2 ⟨p,x,rfl,ho⟩;have N2:=hid (prg_new B1.out K1.out ho);clear ho)
  | (go_at_call 18;refine (prg_begin N2.out.1).mono ?_;rintro e w3 ⟨rfl,hP3,hok3⟩;have P3:=hid (show PrgAt False 32768 16 1 w3 p w.heap.size (Old w) rt0.begin from hP3);have K3:=hid (N2.out.2.then hok3 (fun _ h=>h));clear hP3 hok3)
  | (go_at_call 19;refine (Make_yes P3.out rfl rfl (by omega)).mono ?_;rintro e w4 ⟨hb,rfl,hH4,hhb,hP4,hok4⟩;have H4:=hid hH4;have P4:=hid hP4;have K4:=hid (K3.out.then hok4 (fun _ h=>h));have HB4:=hid (Nat.le_trans K3.out.size hhb);clear hH4 hP4 hok4 hhb))
 go_ret2
 refine ⟨p,hb,rfl,HB4.out,⟨P4.out,H4.out,Or.inr rfl,⟨rfl,rfl,by simp [flat],rfl,by decide⟩,rfl,rfl,rfl⟩,K4.out⟩
end
end Spl
namespace Spl
open Go.RowKit Go.Maps
open Dsk (gt hid undrew keep_old keep_cell lt_cell newD)
open Jrn (Rd bs bs_length bs_one bs_get bs_get' bs_append rd_own Row5 putN putN_length numAt rootN Pv2)
open Cch (Fr)
section
variable {arm:Prop} {room croom K:Nat} {p q:Nat} {R:Nat→Prop} {t:RS} {w:World}
def Stay(arm:Prop)(room croom K:Nat)(p q:Nat)(R:Nat→Prop)(t:RS)(hb:Nat)(w w':World):Prop:=HeapS arm room croom K w' hb p q R t [] z60∧Rok R w w'
end
end Spl
namespace Spl
open Go.RowKit Go.Maps
open Dsk (gt hid undrew keep_old keep_cell lt_cell newD)
open Jrn (Rd bs bs_length bs_one bs_get bs_get' bs_append rd_own Row5 putN putN_length numAt rootN Pv2)
open Cch (Fr)
theorem T1_len:T1.now.length=1:=by decide
theorem T1_all:AllB T1.now:=by
 have h:T1.now = [rootN 0 0 z60]:=rfl
 rw [h]
 have:=AllB.app (P:=[]) (fun i x hx=>by simp at hx) (Jrn.rootN_bytes 0 0 z60)
 simpa using this
section
variable {arm:Prop} {room croom K:Nat} {p q:Nat} {R:Nat→Prop} {t:RS} {w:World}
def Wrote(arm:Prop)(room croom K:Nat)(p q:Nat)(R:Nat→Prop)(t:RS)(hb N c:Nat)(xs:List Nat)(w w':World):Prop:=
 ∃ t',HeapS arm room croom (K+3+3*c) w' hb p q R t' [] z60∧t'.now.length=N+c∧Chn t'.now N c xs∧AllB t'.now∧(∀ j,j<N→t'.now.getD j []=t.now.getD j [])∧Rok R w w'
theorem wr_any(hb k c g N:Nat)(xs:List Nat){w2:World}(h:HeapS arm room croom K w hb p q R t [] z60)(hA:AllB t.now)(hB:Below w.heap.size w w2)(hr:RowB w2 g xs)(hg:w.heap.size≤g)(hl:xs.length=k)(hx:∀ x∈xs,x<256)(hk1:1≤k)(hk2:k≤20000)(hc:c=(k - 1)/508+1)(hN:N=t.now.length)(hn4:N+c≤4000)(hK:K+20000≤500000) :
  Calls Tryz.prog 7 #[.pointer (some ⟨hb,0,none⟩),.slice (some ⟨g,0,none⟩) k k] w2 fun e w'=>e=.returned (.tuple #[.int .i64 ((N+1:Nat):Int),.int .i64 0])∧Wrote arm room croom K p q R t hb N c xs w w':=by
 subst hN
 have S2:=HeapS.moved h (h.prg.new hB (g:=g) hg (Array.getElem?_eq_some_iff.1 hr).1) (h.heap.keep hB) (Or.inl h.mem)
 refine (Write_yes hb c g 0 k xs z60 S2 (Or.inr rfl) (hr.rd hl) hx hk1 hk2 hc hn4 hK).mono ?_
 rintro e w' ⟨rfl,hP,hk⟩
 obtain ⟨h1,h2⟩:=Write_heap S2 hP hk
 refine ⟨rfl,_,HeapS.moved h1 (h1.prg.less (fun b hb=>Or.inl hb)) h1.heap h.mem,h2,chn_new t c xs h.lay.ln hn4 (by omega) (by omega) (by omega) hx,AllB.laid _ (AllB.grown t hA c) _ _ _ hx c,fun j hj=>?_,(Rok.of_below hB).then hk (fun b hb=>Or.inl hb)⟩
 rw [layT_get _ _ _ _ _ _ (Or.inl hj),growN_now]
 simp only [List.getD]
 rw [List.getElem?_append_left hj]
end
end Spl
namespace Spl
open Go.RowKit Go.Maps
open Dsk (gt hid undrew keep_old keep_cell lt_cell newD)
open Jrn (Rd bs bs_length bs_one bs_get bs_get' bs_append rd_own Row5 putN putN_length numAt rootN trunkN Pv2)
open Cch (Fr hd_cell hd_frozen blk_set wpAnyK wpAnyK_done wp_region_K)
def lsI(N i:Nat):List Nat:=(List.range i).map (fun j=>N+2+j)
theorem lsI_len(N i:Nat):(lsI N i).length=i:=by simp [lsI]
theorem lsI_succ(N i:Nat):lsI N (i+1)=lsI N i++[N+2+i]:=by simp [lsI,List.range_succ]
def trI(N:Nat):Nat→List (Nat×List Nat)
 | 0=>[]
 | i+1=>[(N+1,lsI N i)]
theorem trI_flat(N:Nat):∀ i,(flat (trI N i)).length=i
 | 0=>rfl
 | i+1=>by simp [trI,flat,lsI_len]
theorem trI_mem{N i x:Nat}(h:x∈flat (trI N i)):N+1≤x∧x<N+1+i:=by
 cases i with
 | zero=>simp [trI,flat]at h
 | succ i=>
  simp [trI,flat,lsI]at h
  rcases h with rfl | ⟨a,ha,rfl⟩<;>omega
section
variable {arm:Prop} {room croom K:Nat} {p q:Nat} {R:Nat→Prop} {t:RS} {w:World}
def Gave(arm:Prop)(room croom K:Nat)(p q:Nat)(R:Nat→Prop)(t:RS)(hb N i:Nat)(w w':World):Prop:=
 ∃ t',HeapS arm room croom K w' hb p q R t' (trI N i) z60∧t'.now.length=t.now.length∧AllB t'.now∧(∀ j,j≠0→j≠N→t'.now.getD j []=t.now.getD j [])∧Rok R w w'
variable {hb N:Nat}
theorem give_next{i:Nat}{w1:World}(h:Gave arm room croom K p q R t hb N i w w1)(hN:1≤N)(hi:i<100)(hl:N+1+i≤t.now.length)(hn4:t.now.length≤4000)(hK:K+5000≤500000) :
  Calls Tryz.prog 45 #[.pointer (some ⟨hb,0,none⟩),.int .i64 ((N+1+i:Nat):Int)] w1 fun e w'=>e=.returned (.int .i64 0)∧Gave arm room croom (K+6) p q R t hb N (i+1) w w':=by
 obtain ⟨t',h1,h2,h3,h4,h5⟩:=h
 have hL:=h1.lay
 cases i with
 | zero=>
  refine (Give_some hb (N+1) ((t'.put (N+1 - 1) (trunkN 0 [])).put 0 (rootN (N+1) 1 z60)) z60 _ h1.prg h1.heap h1.mem (fun b hb=>h1.prg.lt hb) hL h1.busy (by omega) (by omega) (by omega) hK (fun W g cap hP hH hg hr=>?_)).mono ?_
  ·refine (give_new hb g cap 0 (N+1) z60 hP hH h1.mem hg hr hL.wl (by omega) h1.busy (by omega) (by omega) (by omega) (by simp [trI];omega)).mono ?_
   rintro e w' ⟨he,hP',hk⟩
   exact ⟨he,hP'.up (by omega),hk⟩
  ·rintro e w' ⟨he,hP,hk⟩
   refine ⟨he,_,⟨hP.up (by simp [trI]),h1.heap.rok hk h1.mem,h1.mem,hL.new (by simp [trI,firstOf]) (by omega) (by omega) (by simp [trI,flat]),h1.busy,h1.sur⟩,?_,?_,?_,h5.then hk (fun b hb=>hb)⟩
   ·show ((t'.now.set _ _).set 0 _).length=_
    simp [h2]
   ·exact (h3.set (Jrn.trunkN_bytes _ _)).set (Jrn.rootN_bytes _ _ _)
   ·intro j j0 jN
    show ((t'.now.set (N+1 - 1) _).set 0 _).getD j []=_
    rw [set_other (fun e=>j0 e.symm),set_other (by omega)]
    exact h4 j j0 jN
 | succ i=>
  have hcnt:=hL.count
  obtain ⟨_,c1,c2,c3,c4,nx,c5,c6,c7⟩:=hL.chain
  simp only [Nat.add_sub_cancel]at c1 c2 c6
  have hfl:(flat (trI N (i+1))).length=i+1:=trI_flat N (i+1)
  refine (Give_some hb (N+1+(i+1)) ((t'.put N (trunkN nx (lsI N i++[N+1+(i+1)]))).put 0 (rootN (N+1) ((flat (trI N (i+1))).length+1) z60)) z60 _ h1.prg h1.heap h1.mem (fun b hb=>h1.prg.lt hb) hL h1.busy (by omega) (by omega) (by omega) hK (fun W g cap hP hH hg hr=>?_)).mono ?_
  ·exact give_more hb g cap _ (N+1+(i+1)) N nx (lsI N i) z60 hP hH h1.mem hg hr (by omega) h1.busy (by omega) (by omega) (by omega) (by omega) (by omega) (by omega) c6 (by rw [lsI_len];omega) (by simp [trI];omega)
  ·rintro e w' ⟨he,hP,hk⟩
   have hm:=hL.more (n:=N+1+(i+1)) c5 c7 (by rw [lsI_len];omega) (by omega) (by omega) (fun hm=>by have:=trI_mem (i:=i+1) hm;omega)
   refine ⟨he,_,⟨hP.up (by simp [trI]),h1.heap.rok hk h1.mem,h1.mem,?_,h1.busy,h1.sur⟩,?_,?_,?_,h5.then hk (fun b hb=>hb)⟩
   ·show Lay _ [(N+1,lsI N (i+1))] z60
    rw [lsI_succ,show N+2+i=N+1+(i+1) by omega]
    exact hm
   ·show ((t'.now.set _ _).set 0 _).length=_
    simp [h2]
   ·exact (h3.set (Jrn.trunkN_bytes _ _)).set (Jrn.rootN_bytes _ _ _)
   ·intro j j0 jN
    show ((t'.now.set N _).set 0 _).getD j []=_
    rw [set_other (fun e=>j0 e.symm),set_other (fun e=>jN e.symm)]
    exact h4 j j0 jN
def pgL(N c:Nat):List Nat:=(List.range c).map (fun j=>N+1+j)
theorem pgL_len(N c:Nat):(pgL N c).length=c:=by simp [pgL]
variable {c:Nat}
theorem pgL_get{k:Nat}(h:k<c):(pgL N c).getD k 0=N+1+k:=by simp [pgL,List.getD,List.getElem?_map,List.getElem?_range h]
theorem give_all{g cp:Nat}(h:HeapS arm room croom K w hb p q R t [] z60)(hA:AllB t.now)(hrow:w.ownsRow 0 3 1 (.slice (some ⟨g,0,none⟩) c cp) c (zI (pgL N c)))(hg:R g)(hN:1≤N)(hc:c≤100)(hl:N+c≤t.now.length)(hn4:t.now.length≤4000)(hK:K+6000≤500000) :
  Calls Tryz.prog 29 #[.pointer (some ⟨hb,0,none⟩),.slice (some ⟨g,0,none⟩) c cp] w fun e w'=>e=.returned (.int .i64 0)∧Gave arm room croom (K+6*c) p q R t hb N c w w':=by
 have G0:Hid (Gave arm room croom (K+6*0) p q R t hb N 0 w w):=hid ⟨t,h,rfl,hA,fun _ _ _=>rfl,Rok.of_below (Below.refl _ _)⟩
 have HRow:=hid hrow;have HG:=hid hg
 clear h hA hrow hg
 go_enter Tryz.func29,Tryz.ntmps29
 go_wp2
 go_loopw [10] (fun cc W=>∃ i:Nat,i≤c∧cc=.int .i64 (i:Int)∧Hid (Gave arm room croom (K+6*i) p q R t hb N i w W)) (fun cc _=>c - (Lib.intOf cc).toNat)
 case atStart=>exact ⟨0,by omega,rfl,G0⟩
 case round=>
  obtain ⟨i,hi,rfl,GG⟩:=hrel
  by_cases hiL:i<c
  ·have hiI:(i:Int)<(c:Int):=by omega
   have hR:Rok R w wr:=by obtain ⟨_,_,_,_,_,h5⟩:=GG.out;exact h5
   have hO:=own_fr HRow.out hR (fun k hk e=>by cases hk;exact e.1 HG.out)
   have c0:=(hO.cellAt i (by omega)).trans (zI_get (by rw [pgL_len];exact hiL))
   rw [pgL_get hiL]at c0
   have CN:=hid (give_next GG.out hN (by omega) (by omega) hn4 (by omega))
   obtain ⟨V,hV⟩:∃ V:Int,V=((N+1+i:Nat):Int):=⟨_,rfl⟩
   rw [←hV]at c0 CN
   clear hV hR hO G0
   go_wp2_with (go_at_call 45;refine CN.out.mono ?_;rintro e w2 ⟨rfl,hg2⟩;have G2:=hid hg2;clear hg2)
   exact ⟨⟨i+1,by omega,by go_num,G2⟩,by simp [Lib.intOf];omega⟩
  ·obtain rfl:i=c:=by omega
   go_wp2
   go_ret
   exact ⟨rfl,GG.out⟩
end
end Spl
namespace Spl
open Go.RowKit Go.Maps
open Dsk (gt hid undrew keep_old keep_cell lt_cell newD)
open Jrn (Rd bs bs_length bs_one bs_get bs_get' bs_append rd_own Row5 putN putN_length numAt rootN trunkN Pv2)
open Cch (Fr hd_cell hd_frozen blk_set wpAnyK wpAnyK_done wp_region_K)
theorem Chn.pgv{P:List Pg}{N c:Nat}{xs:List Nat}(h:Chn P N c xs):pgV P ((N+1:Nat):Int) c=zI (pgL N c):=by
 unfold pgV zI pgL
 rw [List.map_map]
 apply List.map_congr_left
 intro k hk
 rw [h.pg k (List.mem_range.1 hk)]
 rfl
theorem pgL_nodup(N c:Nat):(pgL N c).Nodup:=List.Pairwise.map _ (fun a b h e=>h (by omega)) List.nodup_range
section
variable {arm:Prop} {room croom K:Nat} {p q:Nat} {R:Nat→Prop} {t:RS} {w:World}
theorem free1_yes(b0 b1 hb N c g cp:Nat)(h:HeapS arm room croom K w hb p q R t [] z60)(hA:AllB t.now)(x0:w.heap[b0]? = some (.cells #[.pointer (some ⟨hb,0,none⟩)] 25 (0,0)))(x1:w.heap[b1]? = some (.cells #[.slice (some ⟨g,0,none⟩) c cp] 28 (0,0)))(hrow:w.ownsRow 0 3 1 (.slice (some ⟨g,0,none⟩) c cp) c (zI (pgL N c)))(hg:R g)(hN:1≤N)(hc:c≤100)(hl:N+c≤t.now.length)(hn4:t.now.length≤4000)(hK:K+6000≤500000) :
  Calls Tryz.prog 28 #[.pointer (some ⟨b0,0,none⟩),.pointer (some ⟨b1,0,none⟩)] w fun e w'=>e=.returned (.int .i64 0)∧Gave arm room croom (K+6*c) p q R t hb N c w w':=by
 have C:=hid (give_all h hA hrow hg hN hc hl hn4 hK)
 have y0:=(boxed_cell x0).1;have y1:=(boxed_cell x1).1
 clear h hA x0 x1 hrow hg
 go_enter Tryz.func28,Tryz.ntmps28
 go_wp2_with (go_at_call 29;refine C.out.mono ?_;rintro e w1 ⟨rfl,hG⟩;have G1:=hid hG;clear hG)
 go_ret
 exact ⟨rfl,G1.out⟩
variable {w':World} {hb N i:Nat}
theorem Gave.less{R':Nat→Prop}{w0:World}(h:Gave arm room croom K p q R t hb N i w w')(hR:∀ b,R' b→R b)(hm:R' hb)(hk:Rok R' w0 w):Gave arm room croom K p q R' t hb N i w0 w':=by
 obtain ⟨t',h1,h2,h3,h4,h5⟩:=h
 exact ⟨t',⟨h1.prg.less hR,h1.heap,hm,h1.lay,h1.busy,h1.sur⟩,h2,h3,h4,hk.then h5 hR⟩
theorem Gave.up{K':Nat}(h:Gave arm room croom K p q R t hb N i w w')(hk:K≤K'):Gave arm room croom K' p q R t hb N i w w':=by
 obtain ⟨t',h1,h2⟩:=h
 exact ⟨t',⟨h1.prg.up hk,h1.heap,h1.mem,h1.lay,h1.busy,h1.sur⟩,h2⟩
theorem Free_yes(hb N c n:Nat)(xs:List Nat)(h:HeapS arm room croom K w hb p q R t [] z60)(hA:AllB t.now)(hC:Chn t.now N c xs)(hn:n=xs.length)(hn2:n≤20000)(hn4:t.now.length≤4000)(hK:K+20000≤500000) :
  Calls Tryz.prog 11 #[.pointer (some ⟨hb,0,none⟩),.int .i64 ((N+1:Nat):Int),.int .i64 (n:Int)] w fun e w'=>e=.returned (.int .i64 0)∧Gave arm room croom (K+3+7*c) p q R t hb N c w w':=by
 have hc1:=hC.c1;have hm1:=hC.m1;have hm2:=hC.m2
 have hn1:1≤n:=by omega
 have hcn:c=(n - 1)/508+1:=by omega
 have hc40:c≤40:=by omega
 obtain ⟨WA,hWA⟩:∃ WA,WA=w.alloc (.cells #[.pointer (some ⟨hb,0,none⟩)] 25):=⟨_,rfl⟩
 have BA:Below w.heap.size w WA:=by rw [hWA];exact Below.alloc (Below.refl _ _) (Nat.le_refl _) _
 have a0:WA.heap[w.heap.size]? = some (.cells #[.pointer (some ⟨hb,0,none⟩)] 25 (0,0)):=by rw [hWA];exact al_last w _ rfl
 have hsA:w.heap.size<WA.heap.size:=(Array.getElem?_eq_some_iff.1 a0).1
 have PA:=h.prg.new BA (g:=w.heap.size) (Nat.le_refl _) hsA
 have hHA:=h.heap.keep BA
 have SA:=HeapS.moved h PA hHA (Or.inl h.mem)
 have CA:=hid (asked_yes hHA (n:Int))
 rw [show askN (n:Int)=0 from if_neg (by omega)]at CA
 have CL:=hid (listed_yes SA (by omega) (by omega) (by simp [flat]))
 rw [show flat ([]:List (Nat×List Nat)) = [] from rfl]at CL
 simp only [List.length_nil,Nat.mul_zero,Nat.add_zero]at CL
 have hpb:t.pages=t.now:=RS.pages_busy h.busy
 have CP:=hid (fun W R' (hP:PrgAt arm room croom (K+2) W p q R' t) (hH:HeapAt W hb p) (hR:R' hb)=>Pages_any hb n c ((N+1:Nat):Int) hP hH hR (fun b hb=>hP.lt hb) hn1 hn2 hcn (by rw [hpb];exact h.lay.ln) (by rw [hpb];exact hA.page _) (by omega))
 rw [hpb]at CP
 have HS:=hid h;have HSA:=hid SA;have HBA:=hid BA;have HA0:=hid a0;have HAb:=hid hA;have HCh:=hid hC;have HsA:=hid hsA
 have HWA:=hid hWA
 have y0:=(boxed_cell a0).1
 clear h BA a0 PA hHA SA hWA hA hC hpb hcn hm1 hm2 hn hsA
 obtain ⟨F,hF⟩:∃ F:Int,F=((N+1:Nat):Int):=⟨_,rfl⟩
 rw [←hF]at CP ⊢
 have HF:=hid hF
 clear hF
 go_enter Tryz.func11,Tryz.ntmps11
 go_upto_region 1 with fail
 rw [←HWA.out]
 clear HWA
 go_upto_region 7 with (first
  | (go_at_call 20;refine CA.out.mono ?_;rintro e w0 ⟨rfl,hw⟩;obtain rfl:=hw.symm)
  | (go_at_call 21;refine CL.out.mono ?_;rintro e w1 ⟨ao,cp,rfl,ho,hP,hk⟩;have O1:=hid ho;have P1:=hid hP;have K1:=hid hk;clear ho hP hk))
 obtain ⟨R1,hR1⟩:∃ R1,R1=Own2 (Plus R w.heap.size) (.slice ao 0 cp):=⟨_,rfl⟩
 rw [←hR1]at P1
 have rr:R1 w.heap.size∧(∀ b,R b→R1 b)∧(∀ b,(Value.slice ao 0 cp).ownBlock=some b→R1 b):=by rw [hR1];exact ⟨Or.inl (Or.inr rfl),fun b hb=>Or.inl (Or.inl hb),fun b hb=>Or.inr hb⟩
 have b0:=(K1.out.at_ (Or.inr rfl) HsA.out).trans HA0.out
 have HB0:=hid b0
 have z0:=(boxed_cell b0).1
 have H1:=hid (HSA.out.heap.rok K1.out (Or.inl HS.out.mem))
 have RR:=hid rr
 have HRa:=hid (show ∀ b,Plus R w.heap.size b→R1 b by rw [hR1];exact fun b hb=>Or.inl hb)
 clear y0 b0 rr hR1
 have CPP:=hid (CP.out w1 R1 P1.out H1.out (RR.out.2.1 hb HS.out.mem))
 clear CP CA CL
 have hPO:PgOk t.now F c:=by rw [HF.out];exact HCh.out.pgok
 have hpv:pgV t.now F c=zI (pgL N c):=by rw [HF.out];exact HCh.out.pgv
 have HPV:=hid hpv;have HPO:=hid hPO
 clear hpv hPO
 go_upto_region 8 with (go_at_call 9;refine CPP.out.mono ?_;rintro e w2 ⟨hk2,⟨_,a2,c2,rfl,ho2,hp2⟩ | ⟨hno,_⟩⟩;rotate_left;exact absurd HPO.out hno;have K2:=hid hk2;have O2:=hid ho2;have P2:=hid hp2;clear hk2 ho2 hp2)
 obtain ⟨g,cg,hv,hg1,hg2⟩:=O2.out.form (by omega)
 cases hv
 obtain ⟨W3,hW3⟩:∃ W3,W3=w2.alloc (.cells #[.slice (some ⟨g,0,none⟩) c c2] 28):=⟨_,rfl⟩
 have HW3:=hid hW3
 clear hW3
 go_upto_region 10 with fail
 have hW3:=HW3.out
 rw [←hW3]
 have B3:Below w2.heap.size w2 W3:=by rw [hW3];exact Below.alloc (Below.refl _ _) (Nat.le_refl _) _
 have X3:W3.heap[w2.heap.size]? = some (.cells #[.slice (some ⟨g,0,none⟩) c c2] 28 (0,0)):=by rw [hW3];exact heap_alloc_new _ _
 have hS3:w2.heap.size<W3.heap.size:=(Array.getElem?_eq_some_iff.1 X3).1
 clear hW3 HW3 z0
 have hw1:w.heap.size<w1.heap.size:=(Array.getElem?_eq_some_iff.1 HB0.out).1
 have B3d:Below w2.heap.size w2 W3.drew:=gt B3 ((Below.refl _ _).drew)
 obtain ⟨R3,hR3⟩:∃ R3,R3=Plus (Own2 R1 (.slice (some ⟨g,0,none⟩) c c2)) w2.heap.size:=⟨_,rfl⟩
 have P3:=hid (show PrgAt arm room croom (K+2+c) W3.drew p q R3 t by rw [hR3];exact P2.out.new B3d (g:=w2.heap.size) (Nat.le_refl _) hS3)
 have rr:R3 w.heap.size∧R3 w2.heap.size∧R3 g∧(∀ b,R b→R3 b)∧(∀ b,(Value.slice ao 0 cp).ownBlock=some b→R3 b):=by
  rw [hR3]
  exact ⟨Or.inl (Or.inl RR.out.1),Or.inr rfl,Or.inl (Or.inr rfl),fun b hb=>Or.inl (Or.inl (RR.out.2.1 b hb)),fun b hb=>Or.inl (Or.inl (RR.out.2.2 b hb))⟩
 have R3R:=hid rr
 have E0:=hid (((B3d.block _ (Nat.lt_of_lt_of_le hw1 K2.out.size)).trans (K2.out.at_ RR.out.1 hw1)).trans HB0.out)
 have E3:=hid ((((Below.refl W3.heap.size W3).drew).block _ hS3).trans X3)
 have H3:=hid ((H1.out.rok K2.out (RR.out.2.1 hb HS.out.mem)).keep B3d)
 have S3:=hid (HeapS.moved HS.out P3.out H3.out (rr.2.2.2.1 hb HS.out.mem))
 have O3:=hid (own_fr (E:=fun _=>False) O2.out (Fr.of_below B3d) (fun _ _ h=>h))
 have O1b:=hid (own_fr (own_fr O1.out K2.out (fun k hk e=>e.1 (RR.out.2.2 k hk))) (Fr.of_below (S:=fun _=>False) B3d) (fun _ _ h=>h))
 have K3:=hid (show Rok R w W3.drew from (((Rok.of_below HBA.out).then K1.out (fun b hb=>Or.inl hb)).then K2.out RR.out.2.1).below B3d)
 rw [HPV.out]at O3
 clear rr hR3 B3 B3d X3
 have C5:=hid (steady_yes (R:=R3) hb [] z60 ao cp (some ⟨g,0,none⟩) c c2 (pgL N c) S3.out (src_own O1b.out) (src_own O3.out) (fun a ha=>R3R.out.2.2.2.2 _ (by rw [ha];rfl)) (fun a ha=>by cases ha;exact R3R.out.2.2.1) (by simpa [flat] using pgL_nodup N c) (by simp [flat]) (by omega) hn4 (by omega))
 rw [show (flat ([]:List (Nat×List Nat))).length=0 from rfl]at C5
 refine wp_region_K (S:=fun W=>W.cell? ⟨w.heap.size,0,none⟩=some (.pointer (some ⟨hb,0,none⟩))∧W.cell? ⟨w2.heap.size,0,none⟩=some (.slice (some ⟨g,0,none⟩) c c2)) (fun _=>false) (by kernel_rfl) ⟨(boxed_cell E0.out).1,(boxed_cell E3.out).1⟩ (fun hHeld=>?_)
 refine gkt 0 ?_ (h:=by intro W hSw;obtain ⟨x0,x1⟩:=hSw;go_simp;first |done |with_reducible rfl)
 refine gkt 1 ?_ (h:=by intro W hSw;obtain ⟨x0,x1⟩:=hSw;go_simp;first |done |with_reducible rfl)
 refine gkp 2 ?_
 refine gkt 3 ?_ (h:=by intro W hSw;obtain ⟨x0,x1⟩:=hSw;go_simp;first |done |with_reducible rfl)
 refine gkp 5 ?_
 refine gk1 4 (fun K hK=>?_)
 go_simp
 go_at_call 23;refine C5.out.mono ?_;rintro e w5 ⟨rfl,hp5,hk5⟩;have P5:=hid hp5;have K5:=hid hk5;have F0:=hid ((hk5.at_ R3R.out.1 (Array.getElem?_eq_some_iff.1 E0.out).1).trans E0.out);have F3:=hid ((hk5.at_ R3R.out.2.1 (Array.getElem?_eq_some_iff.1 E3.out).1).trans E3.out);have hR:=And.intro (boxed_cell F0.out).1 (boxed_cell F3.out).1;clear hp5 hk5
 refine hK.out _ _ hR (fun hHeld=>?_)
 clear hK K hR
 (try simp only [Act.put,sA,sZ,sS])
 have S5:=HeapS.moved S3.out P5.out (H3.out.rok K5.out (R3R.out.2.2.2.1 hb HS.out.mem)) (R3R.out.2.2.2.1 hb HS.out.mem)
 have C6:=hid (free1_yes w.heap.size w2.heap.size hb N c g c2 S5 HAb.out F0.out F3.out (rr_base (own_fr O3.out K5.out (fun k hk e=>by cases hk;exact e.1 R3R.out.2.2.1)) (Nat.zero_le _)) R3R.out.2.2.1 HCh.out.n1 (by omega) HCh.out.len hn4 (by omega))
 clear S5
 refine gk1 6 (fun K hK=>?_)
 go_simp
 go_at_call 22;refine whole28 _ _ _ (C6.out.mono ?_)
 rintro e w6 ⟨rfl,hg6⟩
 refine ⟨0,rfl,?_⟩
 have G6:=hid hg6
 have hk6:Rok R3 w5 w6:=by obtain ⟨_,_,_,_,_,h5⟩:=hg6;exact h5
 have hR:=And.intro (boxed_cell ((hk6.at_ R3R.out.1 (Array.getElem?_eq_some_iff.1 F0.out).1).trans F0.out)).1 (boxed_cell ((hk6.at_ R3R.out.2.1 (Array.getElem?_eq_some_iff.1 F3.out).1).trans F3.out)).1
 clear hg6 hk6
 refine hK.out _ _ hR (fun hHeld=>?_)
 clear hK K hR
 (try simp only [Act.put,sA,sZ,sS])
 refine gkp 7 ?_
 refine wpAnyK_done (by kernel_rfl) ?_ _
 clear hHeld
 go_wp2
 go_ret
 exact ⟨rfl,(G6.out.less R3R.out.2.2.2.1 HS.out.mem (K3.out.then K5.out R3R.out.2.2.2.1)).up (by omega)⟩
end
end Spl
end Go.Proofs.YtneemfbnjkcflaaGreatDoor
