/- Open on a disk without a journal; no statement of the seat is proved here. -/
import Derived.Test.YtadhdedjdgjboaaGreatDoorH30
import Derived.Test.YtadhdedjdgjboaaGreatDoorH23
import Derived.Test.YtadhdedjdgjboaaGreatDoorH42
import Derived.Test.YtadhdedjdgjboaaGreatDoorH17
set_option maxHeartbeats 16000000
set_option maxRecDepth 20000
namespace Go.Proofs.YtadhdedjdgjboaaGreatDoor
section
open Go.RowKit Go.Maps
open Dsk (gt hid undrew keep_old keep_cell lt_cell Rd DS FS Sec DiskP DFrame Grew From lenD readD newD known)
open Cch (CS CP Fr)
structure Clean (d:DS) (l:List Pg):Prop where
 f0:d.f0.now=secsOf l
 f1:d.f1.now = []
 on:d.off=false
theorem hot_nil:Jrn.hotN []=false:=by decide
variable {l:List Pg} {d:DS}
theorem Clean.len(h:Clean d l):lenD d 0=l.length*4∧lenD d 1=0:=by
 constructor
 ·show d.f0.now.length=_
  rw [h.f0,secsOf_length]
 ·show d.f1.now.length=_
  rw [h.f1];rfl
theorem Clean.read(h:Clean d l):readD d 1 0 0=([],0):=by
 have hk:known 1=true:=rfl
 have hf:(d.file 1)=d.f1:=rfl
 unfold readD
 rw [h.on,hk,hf,h.f1]
 simp
theorem Clean.cut(h:Clean d l):firstD [.ct 1 0] d=(0,d):=by
 simp [firstD,Stp.go,h.len.2]
theorem recovered_clean(q:Nat)(P:Dsk.Parts)(d:DS)(l:List Pg)(w:World)(h:DiskP w q P d)(hc:Clean d l)(hl:l.length≤4000)(hT:Jrn.Tab w)(hop:d.ops≤900000000) :
  Calls Tryz.prog 43 #[.pointer (some ⟨q,0,none⟩)] w fun e w'=>e=.returned (.tuple #[.int .i64 0,.int .i64 0])∧DiskTo w w' q P d:=by
 obtain ⟨hl0,hl1⟩:=hc.len
 have cs1:=Dsk.sectors_call q P d 1 w h
 rw [hl1]at cs1
 have cr:=Dsk.read_call q P d 0 0 0 w h (by omega) (by omega)
 have cr1:=Dsk.read_call q P d 1 0 0 w h (by omega) (by omega)
 rw [hc.read]at cr1
 have C1:=hid cs1;have C2:=hid cr1;have H:=hid h;have HT:=hid hT;have HC:=hid hc
 have HC0:Hid (∀ W,DiskP W q P d→Calls Tryz.prog 29 #[.pointer (some ⟨q,0,none⟩),.int .i64 0] W fun e w'=>e=.returned (.int .i64 ((l.length*4:Nat):Int))∧w'=W):=hid (fun W hW=>by have:=Dsk.sectors_call q P d 0 W hW;rw [hl0]at this;exact this)
 obtain ⟨N,hN⟩:∃ N,l.length*4=N:=⟨_,rfl⟩
 rw [hN]at HC0
 have hm:(N:Int) % 4=0:=by omega
 have hq:(N:Int)/4≤4000:=by omega
 have hN0:(0:Int)≤(N:Int):=by omega
 have htm:(N:Int).tmod 4=0:=by rw [Int.tmod_eq_emod_of_nonneg hN0];exact hm
 have htd:(N:Int).tdiv 4≤4000:=by rw [Int.tdiv_eq_ediv_of_nonneg hN0];exact hq
 clear cs1 cr cr1 h hT hc hl0 hl1 hN
 go_enter Tryz.func43,Tryz.ntmps43
 have t1:Hid True:=hid trivial
 go_wp2_with (first
  | (go_at_call 29;clear t1;refine C1.out.mono ?_;rintro e w1 ⟨rfl,hw⟩;obtain rfl:=hw.symm)
  | (go_at_call 77;refine C2.out.mono ?_;rintro e w2 ⟨ro,rc,rfl,hr,_,hb⟩;have R2:Hid (Rd w2 ro 0 rc []):=hid hr;have B2:=hid hb;clear hr hb)
  | (go_at_call 29;refine (HC0.out w2 (H.out.later B2.out)).mono ?_;rintro e w3 ⟨rfl,hw⟩;obtain rfl:=hw.symm)
  | (go_at_call 78;refine (cut_make q 1 0 (DN q P) w2 (fun k hk=>Nat.lt_of_lt_of_le (DN.lt H.out hk) B2.out.size)).mono ?_;rintro e w4 ⟨x4,rfl,s4,hb4⟩;obtain ⟨n4,cs4,rfl⟩:=step_func s4;have hb5:Below w4.heap.size w4 (w4.alloc (.cells #[.func (.func n4) #[] cs4] 115)):=Below.alloc (Below.refl _ _) (Nat.le_refl _) _;have S5:=hid (s4.later hb5);have B4:Hid (w2.heap.size≤w4.heap.size):=hid hb4.size;have B5:=hid (gt (gt B2.out hb4) hb5);have R5:=hid ((R2.out.keep hb4).keep hb5);clear s4 hb4 hb5)
  | (go_at_call 79;refine (Jrn.hot_any ro 0 rc [] _ R5.out (by intro x hx;cases hx) (by omega) (HT.out.keep B5.out)).mono ?_;rw [hot_nil];rintro e w6 ⟨rfl,hb6⟩;have B6:=hid (gt B5.out hb6);have ST6:Hid (StepsAt w6 q (DN q P) (some ⟨w4.heap.size,0,none⟩) [.ct 1 0]):=hid (StepsAt.later (steps_lit (us:=[.func (.func n4) #[] cs4]) 115 (fun k hk=>Nat.lt_of_lt_of_le (DN.lt H.out hk) B2.out.size) B4.out (fun j s hs=>by match j with | 0=>simp at hs;subst hs;exact ⟨_,rfl,S5.out⟩ | j+1=>simp at hs)) hb6);clear hb6)
  | (go_at_call 83;refine (show Calls Tryz.prog 83 #[.slice (some ⟨w4.heap.size,0,none⟩) 1 1] w6 _ from first_call q P d (some ⟨w4.heap.size,0,none⟩) 1 [.ct 1 0] w6 (H.out.later B6.out) (by simp;omega) ST6.out).mono ?_;rw [HC.out.cut];rintro e w7 ⟨rfl,hto⟩;have T7:=hid hto;clear hto))
 go_ret2
 exact ⟨rfl,DiskTo.first B6.out T7.out⟩
theorem end_gen(p:Nat)(T:Int)(w:World)(a4:w.cell? ⟨p,4,none⟩=some (.int .i64 T))(a5:w.cell? ⟨p,5,none⟩=some (.bool false))(a6:w.cell? ⟨p,6,none⟩=some (.int .i64 0))(a7:w.cell? ⟨p,7,none⟩=some (.map none))(a8:w.cell? ⟨p,8,none⟩=some (.slice none 0 0))(a9:w.cell? ⟨p,9,none⟩=some (.int .i64 0))(hf:∀ i,w.frozen? ⟨p,i,none⟩=false) :
  Calls Tryz.prog 44 #[.pointer (some ⟨p,0,none⟩)] w fun e w'=>e=.returned (.tuple #[])∧w'=(((((w.setCell ⟨p,5,none⟩ (.bool false)).setCell ⟨p,6,none⟩ (.int .i64 T)).setCell ⟨p,7,none⟩ (.map (some w.heap.size))).setCell ⟨p,8,none⟩ (.slice none 0 0)).setCell ⟨p,9,none⟩ (.int .i64 0)).alloc (.map #[] 0):=by
 have f5:=hf 5;have f6:=hf 6;have f7:=hf 7;have f8:=hf 8;have f9:=hf 9
 have hp:p<w.heap.size:=lt_cell a4
 have hne:¬p=w.heap.size:=by omega
 have mk:=fun W=>run_makeMap (P:=Tryz.prog) 71 W
 clear hf
 go_enter Tryz.func44,Tryz.ntmps44
 go_wp2
 go_end0
 exact ⟨rfl,rfl⟩
def rawP(q k:Nat)(T:Int)(rep:Int):List Value:=[.bool true,.int .i64 0,.pointer (some ⟨q,0,none⟩),.pointer (some ⟨k,0,none⟩),.int .i64 T,.bool false,.int .i64 0,.map none,.slice none 0 0,.int .i64 0,.int .i64 0,.int .i64 rep]
structure OpenTo (w w':World) (q:Nat) (P:Dsk.Parts) (d:DS) (room:Nat) (l:List Pg) (p:Nat) (x:PC):Prop where
 is:∃ P' C s,Rest w' p x P' C d s l∧s.hit=0∧s.miss=0∧s.room=room∧(∀ b,NC p x P' C b→DN q P b∨w.heap.size≤b)
 xq:x.q=q
 com:x.com=0
 rep:x.rep=0
 busy:x.busy=false
 new:w.heap.size≤p
 mnew:w.heap.size≤x.m
 mks:x.mo=none∧x.ml=0∧x.mc=0∧x.last=0
 fr:Fr (DN q P) w w'
theorem tx_open{w w':World}{p q k T:Nat}{P:Dsk.Parts}{C:Cch.Parts}{s:CS}(hd:w.heap[p]? = some (.cells (rawP q k (T:Int) 0).toArray 76 (0,0)))(dk:DiskP w q P d)(ck:CP w k C s)(dc:∀ b,DN q P b→¬C.S k b)(dp:¬DN q P p)(cp:¬C.S k p)(hf:Fits s l)(hT:T=l.length)(ws:Whole l)(bs:l.length≤4000)(tab:Jrn.Tab w)(t0:0<w.heap.size∧¬DN q P 0∧¬C.S k 0∧0≠p)
  (hw:w'=(((((w.setCell ⟨p,5,none⟩ (.bool false)).setCell ⟨p,6,none⟩ (.int .i64 (T:Int))).setCell ⟨p,7,none⟩ (.map (some w.heap.size))).setCell ⟨p,8,none⟩ (.slice none 0 0)).setCell ⟨p,9,none⟩ (.int .i64 0)).alloc (.map #[] 0)) :
  Rest w' p ⟨q,k,T,false,T,w.heap.size,none,0,0,0,0,0⟩ P C d s l∧Fr (fun b=>b=p) w w':=by
 have hpl:p<w.heap.size:=(Array.getElem?_eq_some_iff.1 hd).1
 obtain ⟨W,hW⟩:∃ W,W=((((w.setCell ⟨p,5,none⟩ (.bool false)).setCell ⟨p,6,none⟩ (.int .i64 (T:Int))).setCell ⟨p,7,none⟩ (.map (some w.heap.size))).setCell ⟨p,8,none⟩ (.slice none 0 0)).setCell ⟨p,9,none⟩ (.int .i64 0):=⟨_,rfl⟩
 have hWs:W.heap.size=w.heap.size:=by rw [hW];simp
 have hWo:∀ b,b≠p→W.heap[b]? = w.heap[b]?:=fun b hb=>by
  rw [hW,heap_setCell_other _ _ _ _ hb,heap_setCell_other _ _ _ _ hb,heap_setCell_other _ _ _ _ hb,heap_setCell_other _ _ _ _ hb,heap_setCell_other _ _ _ _ hb]
 rw [←hW]at hw
 have hs':w'.heap.size=w.heap.size+1:=by rw [hw];simp [hWs]
 have ho:∀ b,b<w.heap.size→b≠p→w'.heap[b]? = w.heap[b]?:=fun b hb hbp=>by
  rw [hw,hao _ _ _ (by rw [hWs];exact hb)];exact hWo b hbp
 have hPg:PgAt w' p ⟨q,k,T,false,T,w.heap.size,none,0,0,0,0,0⟩:=by
  have h1:=Cch.blk_set (Cch.blk_set (Cch.blk_set (Cch.blk_set (Cch.blk_set hd (i:=5) (v:=.bool false)) (i:=6) (v:=.int .i64 (T:Int))) (i:=7) (v:=.map (some w.heap.size))) (i:=8) (v:=.slice none 0 0)) (i:=9) (v:=.int .i64 0)
  rw [←hW]at h1
  unfold PgAt
  rw [hw,hao _ _ _ (by rw [hWs];exact hpl),h1]
  rfl
 have hmap:w'.ownsMap Tryz.prog 3 slR w.heap.size 0 (Dsk.dirtD (false::List.replicate l.length false) (List.replicate (l.length+1) [])):=by
  rw [dirt_none,hw]
  have:=World.ownsMap_made W Tryz.prog 3 slR (H:=Unit)
  rw [hWs]at this;exact this
 have hcore:Core w' p ⟨q,k,T,false,T,w.heap.size,none,0,0,0,0,0⟩ P C d s:=
  ⟨hPg,dk.stay (by omega) (fun b hb hdd=>ho b hb (fun e=>dp (by rcases hdd with h1 |h1;exact Or.inr (e▸h1);exact Or.inl (e▸h1)))),ck.stay (fun b hb hS=>ho b hb (fun e=>cp (e▸hS))),dc,dp,cp⟩
 have hfr:Fr (fun b=>b=p) w w':=by rw [hw,hW];exact alloc_frame (set_frame (set_frame (set_frame (set_frame (set_frame (Fr.refl _ _))))))
 have hcf:∀ i,(List.replicate l.length false).getD i false=false:=fun i=>by
  rw [List.getD,List.getElem?_replicate];split<;>rfl
 have hlt:∀ b,NC p ⟨q,k,T,false,T,w.heap.size,none,0,0,0,0,0⟩ P C b→b<w.heap.size:=fun b hb=>by
  rcases hb with hb |hb |rfl
  ·exact DN.lt dk hb
  ·exact ck.lt hb
  ·exact hpl
 refine ⟨⟨hcore,⟨hmap,by simp,by simp,fun i hi=>?_⟩,⟨by show w.heap.size<_;omega,fun hk=>by have:=hlt _ hk;simp only at this;omega⟩,hf,hT,hT,ws,ws,bs,bs,tab_of tab (ho 0 t0.1 t0.2.2.2),⟨by have:=t0.1;omega,fun hk=>?_⟩,?_,fun i hi _=>⟨hi,rfl⟩⟩,hfr⟩
 ·rw [hcf i]at hi;cases hi
 ·rcases hk with hk |hk |hk
  ·exact t0.2.1 hk
  ·exact t0.2.2.1 hk
  ·exact t0.2.2.2 hk
 ·show w.heap.size≠0
  have:=t0.1;omega
theorem open_clean(q room:Nat)(P:Dsk.Parts)(d:DS)(l:List Pg)(w:World)(h:DiskP w q P d)(hc:Clean d l)(hw:Whole l)(hl:l.length≤4000)(hr1:8≤room)(hr2:room≤4096)(hT:Jrn.Tab w)(h0:Out w (DN q P) 0)(hop:d.ops≤900000000) :
  Calls Tryz.prog 10 #[.pointer (some ⟨q,0,none⟩),.int .i64 (room:Int)] w fun e w'=>∃ p x,e=.returned (.tuple #[.pointer (some ⟨p,0,none⟩),.int .i64 0])∧OpenTo w w' q P d room l p x:=by
 have c41:=hid (Dsk.room_any q P d w h)
 have hrm:¬(d.room:Int)=0:=by have:=h.ok.r1;omega
 have c42:=hid (Cch.new_yes room w (by omega) hr2)
 have HR:=hid (fun W (hb:Below w.heap.size w W)=>recovered_clean q P d l W (h.later hb) hc hl (hT.keep hb) hop)
 have H:=hid h;have HC:=hid hc;have HW:=hid hw;have HT:=hid hT;have H0:=hid h0
 have hl0:=hc.len.1
 have C29:Hid (∀ W P',DiskP W q P' d→Calls Tryz.prog 29 #[.pointer (some ⟨q,0,none⟩),.int .i64 0] W fun e w'=>e=.returned (.int .i64 ((l.length*4:Nat):Int))∧w'=W):=hid (fun W P' hW=>by have:=Dsk.sectors_call q P' d 0 W hW;rw [hl0]at this;exact this)
 obtain ⟨T,hTl⟩:∃ T,T=l.length:=⟨_,rfl⟩
 rw [←hTl]at C29 hl
 have HTL:=hid hTl
 obtain ⟨N,hN⟩:∃ N,T*4=N:=⟨_,rfl⟩
 rw [hN]at C29
 have hdiv:(N:Int).tdiv 4=(T:Int):=by rw [Int.tdiv_eq_ediv_of_nonneg (by omega)];omega
 have hr8:¬(room:Int)<8:=by omega
 clear h hc hw hT h0 hl0 hTl hN
 go_enter Tryz.func10,Tryz.ntmps10
 go_upto_region 10 with (first
  | (go_at_call 41;refine c41.out.mono ?_;rintro e w1 ⟨rfl,hw1⟩;obtain rfl:=hw1.symm)
  | (go_at_call 42;refine c42.out.mono ?_;rintro e w2 ⟨k,rfl,C,hcp,hks,hCS,hb2⟩;have CP2:=hid hcp;have CS2:=hid hCS;have B2:=hid hb2;clear hcp hks hCS hb2)
  | (go_at_call 43;refine (HR.out w2 B2.out).mono ?_;rintro e w3 ⟨rfl,hto⟩;have T3:=hid hto;clear hto))
 obtain ⟨P3,hd3,hg3⟩:=T3.out.is
 obtain ⟨pp,hpp⟩:∃ pp,pp=w3.heap.size:=⟨_,rfl⟩
 obtain ⟨W4,hW4⟩:∃ W4,W4=w3.alloc (.cells (rawP q k 0 0).toArray 76):=⟨_,rfl⟩
 have hb4:Below w3.heap.size w3 W4:=by rw [hW4];exact Below.alloc (Below.refl _ _) (Nat.le_refl _) _
 have hr4:W4.heap[pp]? = some (.cells (rawP q k 0 0).toArray 76 (0,0)):=by rw [hW4,hpp];exact heap_alloc_new w3 _
 obtain ⟨W5,hW5⟩:∃ W5,W5=W4.setCell ⟨pp,4,none⟩ (.int .i64 (T:Int)):=⟨_,rfl⟩
 have hr5:W5.heap[pp]? = some (.cells (rawP q k (T:Int) 0).toArray 76 (0,0)):=by rw [hW5,Cch.blk_set hr4];rfl
 have h5o:∀ b,b≠pp→W5.heap[b]? = W4.heap[b]?:=fun b hb=>by rw [hW5,heap_setCell_other _ _ _ _ hb]
 have h5s:W5.heap.size=W4.heap.size:=by rw [hW5];simp
 have h4s:W4.heap.size=pp+1:=by rw [hW4,hpp];simp
 have h45:∀ b,b<pp→W5.heap[b]? = w3.heap[b]?:=fun b hb=>(h5o b (by omega)).trans (hb4.block b (by omega))
 have hdk5:DiskP W5 q P3 d:=hd3.stay (by omega) (fun b hb _=>h45 b (by omega))
 have hf3:=fr_df T3.out.fr
 have hDN:∀ b,DN q P b→b<w.heap.size:=fun b hb=>DN.lt H.out hb
 have hck5:CP W5 k C ⟨room,[],0,0⟩:=CP2.out.stay (fun b hb hS=>(h45 b (by have:=hf3.size;omega)).trans (hf3.blk b hb (fun hk=>by have h1:=hDN b hk;have h2:=CS2.out b hS;omega)))
 have hDN3:∀ b,DN q P3 b→DN q P b∨w2.heap.size≤b:=fun b hb=>by
  rcases hb with hb |hb
  ·exact Or.inl (Or.inl hb)
  ·rcases hg3 b hb with h1 |h1
   ·exact Or.inl (Or.inr h1)
   ·exact Or.inr h1
 have hdc:∀ b,DN q P3 b→¬C.S k b:=fun b hb hS=>by
  have h1:=CP2.out.lt hS
  rcases hDN3 b hb with h2 |h2
  ·have h3:=hDN b h2;have h4:=CS2.out b hS;omega
  ·omega
 have hdp:¬DN q P3 pp:=fun hk=>by have h1:=DN.lt hd3 hk;omega
 have hcp:¬C.S k pp:=fun hk=>by have h1:=CP2.out.lt hk;have:=hf3.size;omega
 have hsz:w.heap.size≤w3.heap.size:=Nat.le_trans B2.out.size hf3.size
 have h00:=H0.out.1
 have hD0:¬DN q P3 0:=fun hk=>by
  rcases hDN3 0 hk with h1 |h1
  ·exact H0.out.2 h1
  ·have:=B2.out.size;omega
 have hC0:¬C.S k 0:=fun hS=>by have:=CS2.out 0 hS;omega
 have htab:Jrn.Tab W5:=tab_of HT.out ((h45 0 (by omega)).trans ((hf3.blk 0 (by have:=B2.out.size;omega) (fun hk=>H0.out.2 hk)).trans (B2.out.block 0 h00)))
 have hfit:Fits (⟨room,[],0,0⟩:CS) l:=⟨fun r hr=>(by cases hr),Nat.zero_le _,hr1⟩
 have FF:Hid (∀ w',w'=(((((W5.setCell ⟨pp,5,none⟩ (.bool false)).setCell ⟨pp,6,none⟩ (.int .i64 (T:Int))).setCell ⟨pp,7,none⟩ (.map (some W5.heap.size))).setCell ⟨pp,8,none⟩ (.slice none 0 0)).setCell ⟨pp,9,none⟩ (.int .i64 0)).alloc (.map #[] 0)→_):=
  hid (fun w' hw=>tx_open hr5 hdk5 hck5 hdc hdp hcp hfit HTL.out HW.out (by rw [←HTL.out];exact hl) htab ⟨by omega,hD0,hC0,by omega⟩ hw)
 have CE:=hid (end_gen pp (T:Int) W5 ((Cch.hd_cell hr5 4).trans rfl) ((Cch.hd_cell hr5 5).trans rfl) ((Cch.hd_cell hr5 6).trans rfl) ((Cch.hd_cell hr5 7).trans rfl) ((Cch.hd_cell hr5 8).trans rfl) ((Cch.hd_cell hr5 9).trans rfl) (fun i=>Cch.hd_frozen hr5 i))
 have CS4:=hid (C29.out W4 P3 (hd3.later hb4))
 have k4:W4.cell? ⟨pp,4,none⟩=some (.int .i64 0):=(Cch.hd_cell hr4 4).trans rfl
 have f4:W4.frozen? ⟨pp,4,none⟩=false:=Cch.hd_frozen hr4 4
 have HW5:=hid hW5
 have FIN:Hid (Fr (DN q P) w W5∧w.heap.size≤pp∧(∀ b,DN q P3 b∨C.S k b∨b=pp→DN q P b∨w.heap.size≤b)):=hid ⟨⟨by rw [hW5,hW4];exact hf3.os.trans B2.out.os,by rw [hW5,hW4];exact hf3.tape.trans B2.out.tape,by rw [hW5,hW4];exact hf3.output.trans B2.out.output,by omega,fun b hb hn=>(h45 b (by omega)).trans ((hf3.blk b (Nat.lt_of_lt_of_le hb B2.out.size) hn).trans (B2.out.block b hb))⟩,by omega,fun b hb=>by
  rcases hb with hb |hb |hb
  ·rcases hDN3 b hb with h1 |h1
   ·exact Or.inl h1
   ·exact Or.inr (Nat.le_trans B2.out.size h1)
  ·exact Or.inr (CS2.out b hb)
  ·right;omega⟩
 have hw4:w3.alloc (.cells #[.bool true,.int .i64 0,.pointer (some ⟨q,0,none⟩),.pointer (some ⟨k,0,none⟩),.int .i64 0,.bool false,.int .i64 0,.map none,.slice none 0 0,.int .i64 0,.int .i64 0,.int .i64 0] 76)=W4:=by rw [hW4];rfl
 rw [hw4,←hpp]
 clear hw4 hW4 hpp hb4 hr4 hr5 h5o h5s h4s h45 hdk5 hf3 hDN hck5 hDN3 hdc hdp hcp hsz h00 hD0 hC0 htab hfit hW5 hd3 hg3
 go_wp2_with (first
  | (go_at_call 29;refine CS4.out.mono ?_;rintro e w5 ⟨rfl,hw5⟩;obtain rfl:=hw5.symm)
  | (go_at_call 44;rw [←HW5.out];refine CE.out.mono ?_;rintro e w6 ⟨rfl,hw6⟩;have HW6:=hid hw6;clear hw6))
 go_ret2
 obtain ⟨t1,t2⟩:=FF.out w6 HW6.out
 obtain ⟨g1,g2,g3⟩:=FIN.out
 exact ⟨pp,_,rfl,⟨⟨P3,C,_,t1,rfl,rfl,rfl,g3⟩,rfl,rfl,rfl,rfl,g2,g1.size,⟨rfl,rfl,rfl,rfl⟩,fr_trans g1 t2 (fun b hb=>by right;rw [hb];exact g2)⟩⟩
end
section
open Go.RowKit Go.Maps
open Dsk (gt hid undrew keep_old keep_cell lt_cell Rd DS FS Sec DiskP DFrame Grew From lenD readD newD known)
open Cch (CS CP Fr)
def pgF(x k:Nat):Nat:=(x+k/97) % 256
def pageS(x:Nat):Pg:=(List.range 512).map (pgF x)
theorem pageS_length(x:Nat):(pageS x).length=512:=by rw [pageS,List.length_map,List.length_range]
theorem pageS_bytes(x:Nat):∀ b∈pageS x,b<256:=by
 intro b hb
 obtain ⟨k,_,rfl⟩:=List.mem_map.1 hb
 exact Nat.mod_lt _ (by omega)
theorem pageS_get(x:Nat){k:Nat}(h:k<512):(pageS x).getD k 0=pgF x k:=by
 rw [pageS,List.getD,List.getElem?_map,List.getElem?_range h];rfl
def RowB(W:World)(g:Nat)(xs:List Nat):Prop:=W.heap[g]? = some (.cells (Dsk.bs xs).toArray 5 (0,0))
variable {xs:List Nat} {g:Nat} {W:World}
theorem RowB.set{i v:Nat}(h:RowB W g xs):RowB (W.setCell ⟨g,i,none⟩ (.int .u8 (v:Int))) g (xs.set i v):=by
 unfold RowB
 rw [Cch.blk_set h]
 simp [Dsk.bs]
theorem RowB.rd{n:Nat}(h:RowB W g xs)(hl:xs.length=n):Rd W (some ⟨g,0,none⟩) n n xs:=
 ⟨hl,Nat.le_refl _,fun h=>(by cases h),fun _=>⟨g,0,rfl,fun t ht=>by rw [Cch.hd_cell h,Nat.zero_add,Dsk.bs_get xs t (by omega)]⟩⟩
theorem page_any(x:Nat)(w:World):Calls Tryz.prog 33 #[.int .u8 (x:Int)] w fun e w'=>∃ g,e=.returned (.slice (some ⟨g,0,none⟩) 512 512)∧Rd w' (some ⟨g,0,none⟩) 512 512 (pageS x)∧w.heap.size≤g∧g<w'.heap.size∧Below w.heap.size w w':=by
 obtain ⟨NN,hNN⟩:∃ NN,NN=Array.replicate 512 (Value.int .u8 0):=⟨_,rfl⟩
 have mk:∀ W,(Instr.makeSlice 60 (.int .i64 512) (.int .i64 512)).run Tryz.prog W=.ok (.slice (some ⟨W.heap.size,0,none⟩) 512 512) (W.alloc (.cells NN 5)):=fun W=>by rw [hNN];exact Dsk.make_any 512 512 (Nat.le_refl _) (by omega) W
 obtain ⟨W1,hW1⟩:∃ W1,W1=w.alloc (.cells NN 5):=⟨_,rfl⟩
 obtain ⟨g,hg⟩:∃ g,g=w.heap.size:=⟨_,rfl⟩
 have R1:Hid (RowB W1 g (List.replicate 512 0)):=hid (by
  unfold RowB
  rw [hW1,hg,heap_alloc_new,hNN]
  unfold Dsk.bs
  rw [List.map_replicate,←List.toArray_replicate];rfl)
 have B1:Hid (Below w.heap.size w W1):=hid (by rw [hW1];exact Below.alloc (Below.refl _ _) (Nat.le_refl _) _)
 have HG:=hid hg
 clear hNN
 go_enter Tryz.func33,Tryz.ntmps33
 go_upto_region 2 with fail
 rw [←hW1,←hg]
 clear hW1 hg mk
 go_wp2
 go_loopw [8] (fun cc W=>∃ (i:Nat) (xs:List Nat),i≤512∧cc=.int .i64 (i:Int)∧Hid (RowB W g xs)∧Hid (xs.length=512∧∀ k,k<i→xs.getD k 0=pgF x k)∧Hid (Below w.heap.size w W)) (fun cc _=>512 - (Lib.intOf cc).toNat)
 case atStart=>exact ⟨0,_,by omega,rfl,R1,hid ⟨List.length_replicate ..,fun k hk=>by omega⟩,B1⟩
 case round=>
  obtain ⟨i,xs,hi,rfl,R,E,B⟩:=hrel
  by_cases hiL:i<512
  ·have c0:wr.cell? ⟨g,i,none⟩=some (.int .u8 ((xs.getD i 0:Nat):Int)):=by rw [Cch.hd_cell R.out,Dsk.bs_get xs i (by rw [E.out.1];exact hiL)]
   have f0:wr.frozen? ⟨g,i,none⟩=false:=Cch.hd_frozen R.out i
   have hiI:(i:Int)<512:=by omega
   have hi0:(0:Int)≤(i:Int):=by omega
   obtain ⟨q,hq,hq2⟩:∃ q:Nat,(i:Int).tdiv 97=(q:Int)∧q=i/97:=⟨i/97,by rw [Int.tdiv_eq_ediv_of_nonneg hi0];omega,rfl⟩
   have HQ:=hid hq2
   have hqb:q≤5:=by omega
   clear hq2
   have hv:((x:Int)+(q:Int)) % 256=((pgF x i:Nat):Int):=by unfold pgF;rw [←HQ.out];omega
   have HV:=hid hv
   clear hv
   go_wp2
   rw [HV.out]
   refine ⟨⟨i+1,xs.set i (pgF x i),by omega,by go_num,hid R.out.set,hid ⟨by rw [List.length_set];exact E.out.1,fun k hk=>?_⟩,hid (B.out.setCell (by rw [HG.out];exact Nat.le_refl _) _)⟩,by simp [Lib.intOf];omega⟩
   by_cases hki:k=i
   ·subst hki
    rw [List.getD,List.getElem?_set_self (by rw [E.out.1];omega)];rfl
   ·rw [List.getD,List.getElem?_set_ne (fun e=>hki e.symm)]
    exact E.out.2 k (by omega)
  ·obtain rfl:i=512:=by omega
   have hxs:xs=pageS x:=by
    apply List.ext_getElem (by rw [E.out.1,pageS_length])
    intro k h1 h2
    have h3:=E.out.2 k (by rw [E.out.1]at h1;exact h1)
    rw [←pageS_get x (by rw [E.out.1]at h1;exact h1),List.getD,List.getD,List.getElem?_eq_getElem h1,List.getElem?_eq_getElem h2]at h3
    exact h3
   have HX:=hid hxs
   clear hxs
   go_wp2
   go_ret
   have hr:=R.out.rd E.out.1
   rw [HX.out]at hr
   exact ⟨g,rfl,hr,by rw [HG.out];exact Nat.le_refl _,(Array.getElem?_eq_some_iff.1 R.out).1,B.out⟩
end
section
open Go.RowKit Go.Maps
open Dsk (gt hid undrew keep_old keep_cell lt_cell Rd)
def ActAt(w:World)(b:Nat)(k n:Int)(s:Nat)(sh:Bool):Prop:=w.cell? ⟨b,0,none⟩=some (.int .i64 k)∧w.cell? ⟨b,1,none⟩=some (.int .i64 n)∧w.cell? ⟨b,2,none⟩=some (.int .u8 (s:Int))∧w.cell? ⟨b,3,none⟩=some (.bool sh)
theorem ActAt.keep{w w':World}{b:Nat}{k n:Int}{s:Nat}{sh:Bool}(h:ActAt w b k n s sh)(hb:Below w.heap.size w w'):ActAt w' b k n s sh:=⟨keep_old hb h.1,keep_old hb h.2.1,keep_old hb h.2.2.1,keep_old hb h.2.2.2⟩
abbrev NS(w:World)(b:Nat)(k n:Int)(s:Nat)(sh:Bool)(v:Value)(f:Int)(W:World):Prop:=ActAt W b k n s sh∧Bad W v f∧Below w.heap.size w W
end
section
open Go.RowKit Go.Maps
open Dsk (gt hid undrew keep_old keep_cell lt_cell Rd DS FS Sec DiskP DFrame Grew From op_at idx dirtD was secD sureF sureF_ok crashD)
open Cch (CS CP Fr)
section
variable {arm:Prop} {room croom K:Nat} {p q:Nat} {R:Nat→Prop} {t:RS} {w w':World}
theorem PrgAt.more{R':Nat→Prop}(h:PrgAt arm room croom K w p q R t)(hb:Below w.heap.size w w')(hR:∀ b,R' b→R b∨(w.heap.size≤b∧b<w'.heap.size)):PrgAt arm room croom K w' p q R' t:=by
 obtain ⟨x,P,C,d,s,n,enc,ms,h⟩:=h
 refine ⟨x,P,C,d,s,n,enc,ms,h.live.later hb,h.q,h.busy,h.com,h.mb,h.mr,fun b hS hb'=>?_,h.sure,h.env,h.ops,h.hm,h.rm,h.nk,h.nm,fun b hb'=>?_⟩
 ·rcases hR b hb' with h1 |h1
  ·exact h.off b hS h1
  ·have:=h.live.lt b hS;omega
 ·rcases hR b hb' with h1 |h1
  ·exact Nat.lt_of_lt_of_le (h.rl b h1) hb.size
  ·exact h1.2
theorem PrgAt.later0(h:PrgAt arm room croom K w p q R t)(hb:Below w.heap.size w w'):PrgAt arm room croom K w' p q R t:=h.more hb (fun _ h=>Or.inl h)
theorem prg_begin2(h:PrgAt arm room croom K w p q R t):Calls Tryz.prog 30 #[.pointer (some ⟨p,0,none⟩)] w (POk arm room croom K p q R w (.int .i64 t.aBegin.1) t.aBegin.2):=by
 have:=prg_begin h
 unfold RS.aBegin
 cases hb:t.busy<;>(rw [hb]at this;exact this)
theorem prg_roll(h:PrgAt arm room croom K w p q R t):Calls Tryz.prog 39 #[.pointer (some ⟨p,0,none⟩)] w (POk arm room croom K p q R w (.int .i64 t.aRoll.1) t.aRoll.2):=prg_rollback h
theorem prg_grow(h:PrgAt arm room croom K w p q R t)(hT:TB K t)(hK:K≤100):Calls Tryz.prog 31 #[.pointer (some ⟨p,0,none⟩)] w (POk arm room croom K p q R w (.tuple #[.int .i64 t.aGrow.1,.int .i64 t.aGrow.2.1]) t.aGrow.2.2):=by
 unfold RS.aGrow
 cases hb:t.busy with
 | false=>exact prg_grow_no h hb
 | true=>exact prg_grow_yes h hb hT hK
theorem prg_mark(h:PrgAt arm room croom K w p q R t)(hT:TB K t)(hK:K≤100):Calls Tryz.prog 35 #[.pointer (some ⟨p,0,none⟩)] w (POk arm room croom K p q R w (.tuple #[.int .i64 t.aMark.1,.int .i64 t.aMark.2.1]) t.aMark.2.2):=by
 unfold RS.aMark
 cases hb:t.busy with
 | false=>exact prg_mark_no h hb
 | true=>exact prg_mark_yes h hb hT hK
theorem prg_shrink(h:PrgAt arm room croom K w p q R t)(z:Int):Calls Tryz.prog 37 #[.pointer (some ⟨p,0,none⟩),.int .i64 z] w (POk arm room croom K p q R w (.int .i64 (t.aShrink z).1) (t.aShrink z).2):=by
 unfold RS.aShrink
 cases hb:t.busy with
 | false=>exact prg_shrink_no z h hb
 | true=>
  rw [if_pos rfl]
  by_cases hz:z<0∨(t.now.length:Int)<z
  ·rw [if_pos hz];exact prg_shrink_range z h hb hz
  ·rw [if_neg hz]
   obtain ⟨n,hn⟩:∃ n:Nat,z=(n:Int):=⟨z.toNat,by omega⟩
   subst hn
   rw [Int.toNat_natCast]
   exact prg_shrink_yes n h hb (by omega)
theorem prg_undo(h:PrgAt arm room croom K w p q R t)(hT:TB K t)(hK:K≤100)(z:Int):Calls Tryz.prog 38 #[.pointer (some ⟨p,0,none⟩),.int .i64 z] w (POk arm room croom K p q R w (.int .i64 (t.aUndo z).1) (t.aUndo z).2):=by
 unfold RS.aUndo
 cases hb:t.busy with
 | false=>exact prg_undo_no z h hb
 | true=>
  rw [if_pos rfl]
  by_cases hi:t.ix z<t.marks.length
  ·rw [if_pos hi]
   refine prg_undo_yes z (t.ix z) h hb hT hK hi ?_
   have h1:decide (((t.marks[t.ix z]).id:Int)=z)=true:=List.findIdx_getElem (p:=fun m:RM=>decide ((m.id:Int)=z)) (w:=hi)
   rw [List.getD,List.getElem?_eq_getElem hi]
   simpa using h1
  ·rw [if_neg hi]
   refine prg_undo_none z h hb hT hK (fun m hm e=>hi ?_)
   exact List.findIdx_lt_length_of_exists ⟨m,hm,by simpa using e⟩
theorem prg_put(h:PrgAt arm room croom K w p q R t)(hK:K≤100)(z:Int)(sb so l cap:Nat)(b:Pg)(hr:Rd w (some ⟨sb,so,none⟩) l cap b)(hbb:∀ y∈b,y<256):Calls Tryz.prog 32 #[.pointer (some ⟨p,0,none⟩),.int .i64 z,.slice (some ⟨sb,so,none⟩) l cap] w (POk arm room croom K p q R w (.int .i64 (t.aPut z l b).1) (t.aPut z l b).2):=by
 unfold RS.aPut
 cases hb:t.busy with
 | false=>exact prg_put_no z _ h hb
 | true=>
  rw [if_pos rfl]
  by_cases hz:z<1∨(t.now.length:Int)<z
  ·rw [if_pos hz];exact prg_put_range z _ h hb (by rcases hz with h |h<;>simp<;>omega)
  ·rw [if_neg hz]
   by_cases hl:l=512
   ·rw [if_pos hl]
    subst hl
    obtain ⟨i,hi⟩:∃ i:Nat,z=((i+1:Nat):Int):=⟨(z - 1).toNat,by omega⟩
    subst hi
    have hi:(((i+1:Nat):Int) - 1).toNat=i:=by omega
    rw [hi]
    exact prg_put_yes i sb so cap b h hb (by omega) hK hr hbb
   ·rw [if_neg hl]
    exact prg_put_arg z _ l cap h hb (by simp;omega) hl
end
def RO(r:Nat)(S O:Nat→Prop):Nat→Prop:=fun b=>b=r∨S b∨O b
def Stay(O:Nat→Prop)(w w':World):Prop:=Fr (fun b=>¬O b∧b≠0) w w'
variable {w w':World} {O:Nat→Prop}
theorem Stay.at_(h:Stay O w w'){b:Nat}(hb:O b)(hl:b<w.heap.size):w'.heap[b]? = w.heap[b]?:=h.blk b hl (fun k=>k.1 hb)
structure AS (arm:Prop) (room croom K K2:Nat) (w:World) (p q r:Nat) (S:Nat→Prop) (V:RV) (O:Nat→Prop) (t t2:RS):Prop where
 ref:RefP w r S V t
 prg:PrgAt arm room croom K2 w p q (RO r S O) t2
 tb:TB K t
 o:∀ b,O b→b≠r∧¬S b∧b<w.heap.size
def Both(arm:Prop)(room croom K:Nat)(w:World)(p q r:Nat)(O:Nat→Prop)(t:RS):Prop:=∃ S V,AS arm room croom K K w p q r S V O t t
section
variable {arm:Prop} {room croom K K2:Nat} {p q r:Nat} {S O:Nat→Prop} {V:RV} {t t2:RS} {w w':World}
theorem AS.later(h:AS arm room croom K K2 w p q r S V O t t2)(hb:Below w.heap.size w w'):AS arm room croom K K2 w' p q r S V O t t2:=
 ⟨h.ref.later hb,h.prg.later0 hb,h.tb,fun b hO=>⟨(h.o b hO).1,(h.o b hO).2.1,Nat.lt_of_lt_of_le (h.o b hO).2.2 hb.size⟩⟩
theorem AS.more(h:AS arm room croom K K2 w p q r S V O t t2)(hb:Below w.heap.size w w'){O':Nat→Prop}(hO:∀ b,O' b→O b∨(w.heap.size≤b∧b<w'.heap.size)):AS arm room croom K K2 w' p q r S V O' t t2:=by
 refine ⟨h.ref.later hb,h.prg.more hb (fun b hR=>?_),h.tb,fun b hb'=>?_⟩
 ·rcases hR with h1 |h1 |h1
  ·exact Or.inl (Or.inl h1)
  ·exact Or.inl (Or.inr (Or.inl h1))
  ·rcases hO b h1 with h2 |h2
   ·exact Or.inl (Or.inr (Or.inr h2))
   ·exact Or.inr h2
 ·rcases hO b hb' with h2 |h2
  ·exact ⟨(h.o b h2).1,(h.o b h2).2.1,Nat.lt_of_lt_of_le (h.o b h2).2.2 hb.size⟩
  ·have:=h.ref.rlt
   exact ⟨by omega,fun hS=>by have:=h.ref.lt b hS;omega,h2.2⟩
theorem AS.box(h:AS arm room croom K K2 w p q r S V O t t2)(o:Obj):AS arm room croom K K2 (w.alloc o) p q r S V (fun b=>O b∨b=w.heap.size) t t2:=
 h.more ((Below.refl _ _).alloc (Nat.le_refl _) _) (fun b hb=>by
  rcases hb with hb |hb
  ·exact Or.inl hb
  ·right;rw [hb];simp)
theorem AS.did(h:AS arm room croom K K w p q r S V O t t){t':RS}(hp:PrgAt arm room croom (K+1) w' p q (RO r S O) t')(hr:Rok (RO r S O) w w'):AS arm room croom K (K+1) w' p q r S V O t t'∧Stay O w w':=
 ⟨⟨h.ref.stay hr.size (fun k hl hk=>hr.at_ (show RO r S O k from (by rcases hk with hk |hk;exact Or.inr (Or.inl hk);exact Or.inl hk)) hl),hp,h.tb,fun b hO=>⟨(h.o b hO).1,(h.o b hO).2.1,Nat.lt_of_lt_of_le (h.o b hO).2.2 hr.size⟩⟩,fr_imp hr (fun b hb=>⟨fun hO=>hb.1 (Or.inr (Or.inr hO)),hb.2⟩)⟩
theorem AS.done(h:AS arm room croom K K2 w p q r S V O t t2)(hd:RTo w w' r S t2)(hT:TB K2 t2):Both arm room croom K2 w' p q r O t2∧Stay O w w':=by
 obtain ⟨⟨S',V',h1,h2⟩,h3⟩:=hd
 obtain ⟨x,P,C,d,s,n,enc,ms,k⟩:=h.prg
 have ho:∀ b,O b→¬(b=r∨S b):=fun b hb e=>by
  rcases e with e |e
  ·exact (h.o b hb).1 e
  ·exact (h.o b hb).2.1 e
 refine ⟨⟨S',V',h1,⟨x,P,C,d,s,n,enc,ms,k.live.off h3 (fun b hS e=>k.off b hS (by rcases e with e |e;exact Or.inl e;exact Or.inr (Or.inl e))),k.q,k.busy,k.com,k.mb,k.mr,fun b hb hR=>?_,k.sure,k.env,k.ops,k.hm,k.rm,k.nk,k.nm,fun b hb=>?_⟩,hT,fun b hO=>⟨(h.o b hO).1,fun hS=>?_,Nat.lt_of_lt_of_le (h.o b hO).2.2 h3.size⟩⟩,fr_imp h3 (fun b hb=>⟨fun hO=>ho b hO hb,fun e=>k.off 0 (Or.inr (Or.inr (Or.inl rfl))) (by rw [e]at hb;rcases hb with hb |hb;exact Or.inl hb;exact Or.inr (Or.inl hb))⟩)⟩
 ·rcases hR with hR |hR |hR
  ·exact k.off b hb (Or.inl hR)
  ·rcases h2 b hR with h4 |h4
   ·exact k.off b hb (Or.inr (Or.inl h4))
   ·have:=k.live.lt b hb;omega
  ·exact k.off b hb (Or.inr (Or.inr hR))
 ·rcases hb with rfl |hb |hb
  ·exact h1.rlt
  ·exact h1.lt b hb
  ·exact Nat.lt_of_lt_of_le (h.o b hb).2.2 h3.size
 ·rcases h2 b hS with h4 |h4
  ·exact (h.o b hO).2.1 h4
  ·have:=(h.o b hO).2.2;omega
variable {O':Nat→Prop}
theorem Both.less(h:Both arm room croom K w p q r O t)(hO:∀ b,O' b→O b):Both arm room croom K w p q r O' t:=by
 obtain ⟨S,V,h⟩:=h
 exact ⟨S,V,h.more (Below.refl _ _) (fun b hb=>Or.inl (hO b hb))⟩
theorem Stay.trans{w1 w2 w3:World}(h:Stay O w1 w2)(k:Stay O w2 w3):Stay O w1 w3:=fr_trans h k (fun _ h=>Or.inl h)
theorem Stay.less(h:Stay O w w')(hO:∀ b,O' b→O b):Stay O' w w':=fr_imp h (fun b hb=>⟨fun h1=>hb.1 (hO b h1),hb.2⟩)
theorem Stay.below(hb:Below w.heap.size w w')(_hO:∀ b,O b→b<w.heap.size):Stay O w w':=fr_below hb
end
def Acted(arm:Prop)(room croom K:Nat)(w:World)(p q r:Nat)(O:Nat→Prop)(t':RS)(e:Ending)(w':World):Prop:=e=.returned (.bool true)∧Both arm room croom (K+1) w' p q r O t'∧Stay O w w'
theorem acted{arm:Prop}{room croom K:Nat}{w1 w3 w4:World}{p q r xb:Nat}{S:Nat→Prop}{V:RV}{t t':RS}(hO:∀ b,O b→b<w.heap.size)(h1:Below w.heap.size w w1)(k1:Stay (fun b=>O b∨b=xb) w1 w3)(h:AS arm room croom K (K+1) w3 p q r S V (fun b=>O b∨b=xb) t t')(hd:RTo w3 w4 r S t')(hT:TB (K+1) t'):Acted arm room croom K w p q r O t' (.returned (.bool true)) w4:=by
 obtain ⟨a1,a2⟩:=h.done hd hT
 exact ⟨rfl,a1.less (fun _ h=>Or.inl h),(Stay.below h1 hO).trans ((k1.trans a2).less (fun _ h=>Or.inl h))⟩
theorem ActAt.stay{b:Nat}{k n:Int}{s:Nat}{sh:Bool}(h:ActAt w b k n s sh)(hb:w'.heap[b]? = w.heap[b]?):ActAt w' b k n s sh:=⟨(World.cell?_of_block hb).trans h.1,(World.cell?_of_block hb).trans h.2.1,(World.cell?_of_block hb).trans h.2.2.1,(World.cell?_of_block hb).trans h.2.2.2⟩
theorem ActAt.new(w:World)(k n:Int)(s:Nat)(sh:Bool):ActAt (w.alloc (.cells #[.int .i64 k,.int .i64 n,.int .u8 (s:Int),.bool sh] 37)) w.heap.size k n s sh:=by
 have h:=heap_alloc_new w (.cells #[.int .i64 k,.int .i64 n,.int .u8 (s:Int),.bool sh] 37)
 exact ⟨Cch.hd_cell h 0,Cch.hd_cell h 1,Cch.hd_cell h 2,Cch.hd_cell h 3⟩
end
section
open Go.RowKit Go.Maps
open Dsk (gt hid undrew keep_old keep_cell lt_cell Rd DS FS Sec DiskP DFrame Grew From op_at idx dirtD was secD sureF sureF_ok crashD)
open Cch (CS CP Fr wpAnyK wpAnyK_take wpAnyK_pure wpAnyK_ready wpAnyK_done wp_region_K AllReadyK.cons AllReadyK.nil AllReadyK.late)
variable {t:RS} {O:Nat→Prop} {p q r room croom K:Nat} {w:World} {arm:Prop}
theorem act_begin(h:Both arm room croom K w p q r O t)(hK:K≤100)(n:Int)(sd:Nat)(sh:Bool) :
  Calls Tryz.prog 11 #[.pointer (some ⟨p,0,none⟩),.pointer (some ⟨r,0,none⟩),.agg #[.int .i64 0,.int .i64 n,.int .u8 (sd:Int),.bool sh]] w (Acted arm room croom K w p q r O t.aBegin.2):=by
 obtain ⟨S,V,h⟩:=h
 obtain ⟨w1,hw1⟩:∃ w1,w1=w.alloc (.cells #[.int .i64 0,.int .i64 n,.int .u8 (sd:Int),.bool sh] 37):=⟨_,rfl⟩
 obtain ⟨xb,hxb⟩:∃ xb,xb=w.heap.size:=⟨_,rfl⟩
 have h1:AS arm room croom K K w1 p q r S V (fun b=>O b∨b=xb) t t:=by rw [hw1,hxb];exact h.box _
 have hx1:ActAt w1 xb 0 n sd sh:=by rw [hw1,hxb];exact ActAt.new w _ n sd sh
 have hO:∀ b,O b→b<w.heap.size:=fun b hb=>(h.o b hb).2.2
 have hb1:Below w.heap.size w w1:=by rw [hw1];exact (Below.refl _ _).alloc (Nat.le_refl _) _
 have hT:=h1.tb
 have H1:=hid h1;have HX:=hid hx1;have HO:=hid hO;have B1:=hid hb1;have HT:=hid hT;have HW:=hid hw1;have HXB:=hid hxb;have HK:=hid hK
 have CP:=hid (prg_begin2 h1.prg)
 have CD:=hid (fun W (hm:AS arm room croom K (K+1) W p q r S V (fun b=>O b∨b=xb) t t.aBegin.2)=>doc_begin hm.ref hm.tb HK.out)
 obtain ⟨v,hv⟩:∃ v,v=t.aBegin.1:=⟨_,rfl⟩
 rw [←hv]at CP CD
 clear h h1 hx1 hO hb1 hT hK hv hxb hw1
 go_enter Tryz.func11,Tryz.ntmps11
 go_wp2_with (first
  | (go_at_call 30;rw [←HW.out];refine CP.out.mono ?_;rintro e w3 ⟨rfl,hp,hr⟩;have M3:=hid (H1.out.did hp hr);clear hp hr)
  | (go_at_call 45;refine (CD.out w3 M3.out.1).mono ?_;rintro e w4 ⟨rfl,hd⟩;have D4:=hid hd;clear hd))
 go_ret
 (try rw [decide_eq_true rfl])
 exact acted HO.out B1.out M3.out.2 M3.out.1 D4.out HT.out.begin
theorem act_roll(h:Both arm room croom K w p q r O t)(hK:K≤100)(n:Int)(sd:Nat)(sh:Bool) :
  Calls Tryz.prog 11 #[.pointer (some ⟨p,0,none⟩),.pointer (some ⟨r,0,none⟩),.agg #[.int .i64 6,.int .i64 n,.int .u8 (sd:Int),.bool sh]] w (Acted arm room croom K w p q r O t.aRoll.2):=by
 obtain ⟨S,V,h⟩:=h
 obtain ⟨w1,hw1⟩:∃ w1,w1=w.alloc (.cells #[.int .i64 6,.int .i64 n,.int .u8 (sd:Int),.bool sh] 37):=⟨_,rfl⟩
 obtain ⟨xb,hxb⟩:∃ xb,xb=w.heap.size:=⟨_,rfl⟩
 have h1:AS arm room croom K K w1 p q r S V (fun b=>O b∨b=xb) t t:=by rw [hw1,hxb];exact h.box _
 have hx1:ActAt w1 xb 6 n sd sh:=by rw [hw1,hxb];exact ActAt.new w _ n sd sh
 have hO:∀ b,O b→b<w.heap.size:=fun b hb=>(h.o b hb).2.2
 have hb1:Below w.heap.size w w1:=by rw [hw1];exact (Below.refl _ _).alloc (Nat.le_refl _) _
 have hT:=h1.tb
 have H1:=hid h1;have HX:=hid hx1;have HO:=hid hO;have B1:=hid hb1;have HT:=hid hT;have HW:=hid hw1;have HXB:=hid hxb;have HK:=hid hK
 have CP:=hid (prg_roll h1.prg)
 have CD:=hid (fun W (hm:AS arm room croom K (K+1) W p q r S V (fun b=>O b∨b=xb) t t.aRoll.2)=>doc_roll hm.ref)
 obtain ⟨v,hv⟩:∃ v,v=t.aRoll.1:=⟨_,rfl⟩
 rw [←hv]at CP CD
 clear h h1 hx1 hO hb1 hT hK hv hxb hw1
 go_enter Tryz.func11,Tryz.ntmps11
 go_wp2_with (first
  | (go_at_call 39;rw [←HW.out];refine CP.out.mono ?_;rintro e w3 ⟨rfl,hp,hr⟩;have M3:=hid (H1.out.did hp hr);clear hp hr)
  | (go_at_call 51;refine (CD.out w3 M3.out.1).mono ?_;rintro e w4 ⟨rfl,hd⟩;have D4:=hid hd;clear hd))
 go_ret
 (try rw [decide_eq_true rfl])
 exact acted HO.out B1.out M3.out.2 M3.out.1 D4.out HT.out.roll
theorem act_grow(h:Both arm room croom K w p q r O t)(hK:K≤100)(n:Int)(sd:Nat)(sh:Bool) :
  Calls Tryz.prog 11 #[.pointer (some ⟨p,0,none⟩),.pointer (some ⟨r,0,none⟩),.agg #[.int .i64 2,.int .i64 n,.int .u8 (sd:Int),.bool sh]] w (Acted arm room croom K w p q r O t.aGrow.2.2):=by
 obtain ⟨S,V,h⟩:=h
 obtain ⟨w1,hw1⟩:∃ w1,w1=w.alloc (.cells #[.int .i64 2,.int .i64 n,.int .u8 (sd:Int),.bool sh] 37):=⟨_,rfl⟩
 obtain ⟨xb,hxb⟩:∃ xb,xb=w.heap.size:=⟨_,rfl⟩
 have h1:AS arm room croom K K w1 p q r S V (fun b=>O b∨b=xb) t t:=by rw [hw1,hxb];exact h.box _
 have hx1:ActAt w1 xb 2 n sd sh:=by rw [hw1,hxb];exact ActAt.new w _ n sd sh
 have hO:∀ b,O b→b<w.heap.size:=fun b hb=>(h.o b hb).2.2
 have hb1:Below w.heap.size w w1:=by rw [hw1];exact (Below.refl _ _).alloc (Nat.le_refl _) _
 have hT:=h1.tb
 have H1:=hid h1;have HX:=hid hx1;have HO:=hid hO;have B1:=hid hb1;have HT:=hid hT;have HW:=hid hw1;have HXB:=hid hxb;have HK:=hid hK
 have CP:=hid (prg_grow h1.prg hT hK)
 have CD:=hid (fun W (hm:AS arm room croom K (K+1) W p q r S V (fun b=>O b∨b=xb) t t.aGrow.2.2)=>doc_grow hm.ref hm.tb HK.out)
 obtain ⟨v,hv⟩:∃ v,v=t.aGrow.1:=⟨_,rfl⟩
 obtain ⟨u,hu⟩:∃ u,u=t.aGrow.2.1:=⟨_,rfl⟩
 rw [←hv,←hu]at CP CD
 clear h h1 hx1 hO hb1 hT hK hv hu hxb hw1
 go_enter Tryz.func11,Tryz.ntmps11
 go_wp2_with (first
  | (go_at_call 31;rw [←HW.out];refine CP.out.mono ?_;rintro e w3 ⟨rfl,hp,hr⟩;have M3:=hid (H1.out.did hp hr);clear hp hr)
  | (go_at_call 47;refine (CD.out w3 M3.out.1).mono ?_;rintro e w4 ⟨rfl,hd⟩;have D4:=hid hd;clear hd))
 go_ret
 exact acted HO.out B1.out M3.out.2 M3.out.1 D4.out HT.out.grow
theorem act_mark(h:Both arm room croom K w p q r O t)(hK:K≤100)(n:Int)(sd:Nat)(sh:Bool) :
  Calls Tryz.prog 11 #[.pointer (some ⟨p,0,none⟩),.pointer (some ⟨r,0,none⟩),.agg #[.int .i64 4,.int .i64 n,.int .u8 (sd:Int),.bool sh]] w (Acted arm room croom K w p q r O t.aMark.2.2):=by
 obtain ⟨S,V,h⟩:=h
 obtain ⟨w1,hw1⟩:∃ w1,w1=w.alloc (.cells #[.int .i64 4,.int .i64 n,.int .u8 (sd:Int),.bool sh] 37):=⟨_,rfl⟩
 obtain ⟨xb,hxb⟩:∃ xb,xb=w.heap.size:=⟨_,rfl⟩
 have h1:AS arm room croom K K w1 p q r S V (fun b=>O b∨b=xb) t t:=by rw [hw1,hxb];exact h.box _
 have hx1:ActAt w1 xb 4 n sd sh:=by rw [hw1,hxb];exact ActAt.new w _ n sd sh
 have hO:∀ b,O b→b<w.heap.size:=fun b hb=>(h.o b hb).2.2
 have hb1:Below w.heap.size w w1:=by rw [hw1];exact (Below.refl _ _).alloc (Nat.le_refl _) _
 have hT:=h1.tb
 have H1:=hid h1;have HX:=hid hx1;have HO:=hid hO;have B1:=hid hb1;have HT:=hid hT;have HW:=hid hw1;have HXB:=hid hxb;have HK:=hid hK
 have CP:=hid (prg_mark h1.prg hT hK)
 have CD:=hid (fun W (hm:AS arm room croom K (K+1) W p q r S V (fun b=>O b∨b=xb) t t.aMark.2.2)=>doc_mark hm.ref hm.tb HK.out)
 obtain ⟨v,hv⟩:∃ v,v=t.aMark.1:=⟨_,rfl⟩
 obtain ⟨u,hu⟩:∃ u,u=t.aMark.2.1:=⟨_,rfl⟩
 rw [←hv,←hu]at CP CD
 clear h h1 hx1 hO hb1 hT hK hv hu hxb hw1
 go_enter Tryz.func11,Tryz.ntmps11
 go_wp2_with (first
  | (go_at_call 35;rw [←HW.out];refine CP.out.mono ?_;rintro e w3 ⟨rfl,hp,hr⟩;have M3:=hid (H1.out.did hp hr);clear hp hr)
  | (go_at_call 49;refine (CD.out w3 M3.out.1).mono ?_;rintro e w4 ⟨rfl,hd⟩;have D4:=hid hd;clear hd))
 go_ret
 exact acted HO.out B1.out M3.out.2 M3.out.1 D4.out HT.out.mark
end
section
open Go.RowKit Go.Maps
open Dsk (gt hid undrew keep_old keep_cell lt_cell Rd DS FS Sec DiskP DFrame Grew From op_at idx dirtD was secD sureF sureF_ok crashD)
open Cch (CS CP Fr wpAnyK wpAnyK_take wpAnyK_pure wpAnyK_ready wpAnyK_done wp_region_K AllReadyK.cons AllReadyK.nil AllReadyK.late)
variable {t:RS} {O:Nat→Prop} {p q r room croom K:Nat} {w:World} {arm:Prop}
theorem act_shrink(h:Both arm room croom K w p q r O t)(hK:K≤100)(n:Int)(sd:Nat)(sh:Bool) :
  Calls Tryz.prog 11 #[.pointer (some ⟨p,0,none⟩),.pointer (some ⟨r,0,none⟩),.agg #[.int .i64 3,.int .i64 n,.int .u8 (sd:Int),.bool sh]] w (Acted arm room croom K w p q r O (t.aShrink n).2):=by
 obtain ⟨S,V,h⟩:=h
 obtain ⟨w1,hw1⟩:∃ w1,w1=w.alloc (.cells #[.int .i64 3,.int .i64 n,.int .u8 (sd:Int),.bool sh] 37):=⟨_,rfl⟩
 obtain ⟨xb,hxb⟩:∃ xb,xb=w.heap.size:=⟨_,rfl⟩
 have h1:AS arm room croom K K w1 p q r S V (fun b=>O b∨b=xb) t t:=by rw [hw1,hxb];exact h.box _
 have hx1:ActAt w1 xb 3 n sd sh:=by rw [hw1,hxb];exact ActAt.new w _ n sd sh
 have hO:∀ b,O b→b<w.heap.size:=fun b hb=>(h.o b hb).2.2
 have hb1:Below w.heap.size w w1:=by rw [hw1];exact (Below.refl _ _).alloc (Nat.le_refl _) _
 have hT:=h1.tb
 have H1:=hid h1;have HX:=hid hx1;have HO:=hid hO;have B1:=hid hb1;have HT:=hid hT;have HW:=hid hw1;have HXB:=hid hxb;have HK:=hid hK
 have h2:AS arm room croom K K w1.drew p q r S V (fun b=>O b∨b=xb) t t:=h1.later (Below.refl _ _).drew
 have CP:=hid (prg_shrink h2.prg n)
 have CD:=hid (fun W (hm:AS arm room croom K (K+1) W p q r S V (fun b=>O b∨b=xb) t (t.aShrink n).2)=>doc_shrink hm.ref hm.tb HK.out n)
 obtain ⟨v,hv⟩:∃ v,v=(t.aShrink n).1:=⟨_,rfl⟩
 rw [←hv]at CP CD
 have H1:=hid h2
 clear h h1 h2 hx1 hO hb1 hT hK hv hxb hw1
 go_enter Tryz.func11,Tryz.ntmps11
 go_upto_region 11 with fail
 rw [←HW.out,←HXB.out]
 refine wp_region_K (S:=fun W=>ActAt W xb 3 n sd sh) (fun _=>false) (by kernel_rfl) (HX.out) (fun hHeld=>?_)
 refine gkp 0 ?_
 refine gkp 1 ?_
 refine gkt 2 ?_ (h:=by intro W hSw;obtain ⟨a0,a1,a2,a3⟩:=(show ActAt W xb 3 n sd sh from hSw);go_simp;first |done |with_reducible rfl)
 refine gkp 4 ?_
 refine gkp 5 ?_
 refine gkt 6 ?_ (h:=by intro W hSw;obtain ⟨a0,a1,a2,a3⟩:=(show ActAt W xb 3 n sd sh from hSw);go_simp;first |done |with_reducible rfl)
 refine gk1 3 (fun K hK=>?_)
 go_simp
 go_at_call 37;(with_reducible refine CP.out.mono ?_);rintro e w3 ⟨rfl,hp,hr⟩;have M3:=hid (H1.out.did hp hr);have hR:ActAt w3 xb 3 n sd sh:=hHeld.stay (M3.out.2.at_ (Or.inr rfl) (H1.out.o xb (Or.inr rfl)).2.2);clear hp hr
 refine hK.out _ _ hR (fun hHeld=>?_)
 clear hK K
 (try simp only [Act.put,sA,sZ,sS])
 refine gk1 7 (fun K hK=>?_)
 go_simp
 go_at_call 48;(with_reducible refine (CD.out w3 M3.out.1).mono ?_);rintro e w4 ⟨rfl,hd⟩;have D4:=hid hd;have hR:ActAt w4 xb 3 n sd sh:=hHeld.stay (hd.2.blk xb (M3.out.1.o xb (Or.inr rfl)).2.2 (fun e=>e.elim (M3.out.1.o xb (Or.inr rfl)).1 (M3.out.1.o xb (Or.inr rfl)).2.1));clear hd
 refine hK.out _ _ hR (fun hHeld=>?_)
 clear hK K
 (try simp only [Act.put,sA,sZ,sS])
 refine gkp 8 ?_
 refine gkp 9 ?_
 refine wpAnyK_done (by kernel_rfl) ?_ _
 go_wp2
 go_ret
 exact acted HO.out B1.out ((show Stay (fun b=>O b∨b=xb) w1 w1.drew from fr_below (Below.refl _ _).drew).trans M3.out.2) M3.out.1 D4.out (HT.out.shrink n)
theorem act_undo(h:Both arm room croom K w p q r O t)(hK:K≤100)(n:Int)(sd:Nat)(sh:Bool) :
  Calls Tryz.prog 11 #[.pointer (some ⟨p,0,none⟩),.pointer (some ⟨r,0,none⟩),.agg #[.int .i64 5,.int .i64 n,.int .u8 (sd:Int),.bool sh]] w (Acted arm room croom K w p q r O (t.aUndo n).2):=by
 obtain ⟨S,V,h⟩:=h
 obtain ⟨w1,hw1⟩:∃ w1,w1=w.alloc (.cells #[.int .i64 5,.int .i64 n,.int .u8 (sd:Int),.bool sh] 37):=⟨_,rfl⟩
 obtain ⟨xb,hxb⟩:∃ xb,xb=w.heap.size:=⟨_,rfl⟩
 have h1:AS arm room croom K K w1 p q r S V (fun b=>O b∨b=xb) t t:=by rw [hw1,hxb];exact h.box _
 have hx1:ActAt w1 xb 5 n sd sh:=by rw [hw1,hxb];exact ActAt.new w _ n sd sh
 have hO:∀ b,O b→b<w.heap.size:=fun b hb=>(h.o b hb).2.2
 have hb1:Below w.heap.size w w1:=by rw [hw1];exact (Below.refl _ _).alloc (Nat.le_refl _) _
 have hT:=h1.tb
 have H1:=hid h1;have HX:=hid hx1;have HO:=hid hO;have B1:=hid hb1;have HT:=hid hT;have HW:=hid hw1;have HXB:=hid hxb;have HK:=hid hK
 have h2:AS arm room croom K K w1.drew p q r S V (fun b=>O b∨b=xb) t t:=h1.later (Below.refl _ _).drew
 have CP:=hid (prg_undo h2.prg hT hK n)
 have CD:=hid (fun W (hm:AS arm room croom K (K+1) W p q r S V (fun b=>O b∨b=xb) t (t.aUndo n).2)=>doc_undo hm.ref hm.tb HK.out n)
 obtain ⟨v,hv⟩:∃ v,v=(t.aUndo n).1:=⟨_,rfl⟩
 rw [←hv]at CP CD
 have H1:=hid h2
 clear h h1 h2 hx1 hO hb1 hT hK hv hxb hw1
 go_enter Tryz.func11,Tryz.ntmps11
 go_upto_region 17 with fail
 rw [←HW.out,←HXB.out]
 refine wp_region_K (S:=fun W=>ActAt W xb 5 n sd sh) (fun _=>false) (by kernel_rfl) (HX.out) (fun hHeld=>?_)
 refine gkp 0 ?_
 refine gkp 1 ?_
 refine gkt 2 ?_ (h:=by intro W hSw;obtain ⟨a0,a1,a2,a3⟩:=(show ActAt W xb 5 n sd sh from hSw);go_simp;first |done |with_reducible rfl)
 refine gkp 4 ?_
 refine gkp 5 ?_
 refine gkt 6 ?_ (h:=by intro W hSw;obtain ⟨a0,a1,a2,a3⟩:=(show ActAt W xb 5 n sd sh from hSw);go_simp;first |done |with_reducible rfl)
 refine gk1 3 (fun K hK=>?_)
 go_simp
 go_at_call 38;(with_reducible refine CP.out.mono ?_);rintro e w3 ⟨rfl,hp,hr⟩;have M3:=hid (H1.out.did hp hr);have hR:ActAt w3 xb 5 n sd sh:=hHeld.stay (M3.out.2.at_ (Or.inr rfl) (H1.out.o xb (Or.inr rfl)).2.2);clear hp hr
 refine hK.out _ _ hR (fun hHeld=>?_)
 clear hK K
 (try simp only [Act.put,sA,sZ,sS])
 refine gk1 7 (fun K hK=>?_)
 go_simp
 go_at_call 50;(with_reducible refine (CD.out w3 M3.out.1).mono ?_);rintro e w4 ⟨rfl,hd⟩;have D4:=hid hd;have hR:ActAt w4 xb 5 n sd sh:=hHeld.stay (hd.2.blk xb (M3.out.1.o xb (Or.inr rfl)).2.2 (fun e=>e.elim (M3.out.1.o xb (Or.inr rfl)).1 (M3.out.1.o xb (Or.inr rfl)).2.1));clear hd
 refine hK.out _ _ hR (fun hHeld=>?_)
 clear hK K
 (try simp only [Act.put,sA,sZ,sS])
 refine gkp 8 ?_
 refine gkp 9 ?_
 refine wpAnyK_done (by kernel_rfl) ?_ _
 go_wp2
 go_ret
 exact acted HO.out B1.out ((show Stay (fun b=>O b∨b=xb) w1 w1.drew from fr_below (Below.refl _ _).drew).trans M3.out.2) M3.out.1 D4.out (HT.out.undo n)
end
end Go.Proofs.YtadhdedjdgjboaaGreatDoor
