/- What a pager's calls are held against; no statement of the seat is proved here. -/
import Derived.Test.YtfcikkechphmaaaGreatDoorW36
set_option maxHeartbeats 16000000
set_option maxRecDepth 20000
namespace Go.Proofs.YtfcikkechphmaaaGreatDoor
section
open Go.RowKit Go.Maps
open Dsk (gt hid undrew keep_old keep_cell lt_cell Rd bs bs_length bs_one op_at idx)
open Cch (Fr wpAnyK wpAnyK_take wpAnyK_pure wpAnyK_ready wpAnyK_done wp_region_K AllReadyK.cons AllReadyK.nil AllReadyK.late)
structure RM where
 id:Nat
 l:List Pg
 c:List Bool
structure RS where
 sure:List Pg
 now:List Pg
 c:List Bool
 busy:Bool
 marks:List RM
 last:Nat
 n:Nat
def RS.pages(t:RS):List Pg:=if t.busy then t.now else t.sure
variable {xs:List Value} {v:Value} {e:TypeId} {B n sz:Nat} {w:World}
theorem rr_base{B':Nat}(h:w.ownsRow B e sz v n xs)(hB:B'≤B):w.ownsRow B' e sz v n xs:=by
 refine ⟨h.1,?_⟩
 rcases h.2 with hn | ⟨g,cap,cur,rfl,hb',hr⟩
 ·exact .inl hn
 ·exact .inr ⟨g,cap,cur,rfl,Nat.le_trans hB hb',hr⟩
theorem rr_up(h:w.ownsRow 0 e sz v n xs)(hB:∀ k,v.ownBlock=some k→B≤k):w.ownsRow B e sz v n xs:=by
 refine ⟨h.1,?_⟩
 rcases h.2 with hn | ⟨g,cap,cur,rfl,_,hr⟩
 ·exact .inl hn
 ·exact .inr ⟨g,cap,cur,rfl,hB g rfl,hr⟩
theorem rr_blk(h:w.ownsRow B e sz v n xs){k:Nat}(hk:v.ownBlock=some k):B≤k∧k<w.heap.size:=by
 rcases h.2 with ⟨rfl,_⟩ | ⟨g,cap,cur,rfl,hb',hg,_⟩
 ·cases hk
 ·cases hk;exact ⟨hb',(Array.getElem?_eq_some_iff.1 hg).1⟩
theorem rr_fr{E:Nat→Prop}{w':World}(h:w.ownsRow B e sz v n xs)(hf:Fr E w w')(hE:∀ k,v.ownBlock=some k→¬E k):w'.ownsRow B e sz v n xs:=by
 refine ⟨h.1,?_⟩
 rcases h.2 with hn | ⟨g,cap,cur,rfl,hb',hg,hr⟩
 ·exact .inl hn
 ·exact .inr ⟨g,cap,cur,rfl,hb',(hf.blk g (Array.getElem?_eq_some_iff.1 hg).1 (hE g rfl)).trans hg,hr⟩
def RS.begin(t:RS):RS:={ t with busy:=true,now:=t.sure,c:=List.replicate t.sure.length false,marks:=[],last:=0 }
theorem rr_kind(h:w.ownsRow B e sz v n xs){k:Nat}(hk:v.ownBlock=some k):∃ cur,w.heap[k]? = some (.cells cur e (0,0)):=by
 rcases h.2 with ⟨rfl,_⟩ | ⟨g,cap,cur,rfl,_,hg,_⟩
 ·cases hk
 ·cases hk;exact ⟨cur,hg⟩
def RS.put(t:RS)(i:Nat)(b:Pg):RS:={ t with now:=t.now.set i b,c:=t.c.set i true }
def RS.grow(t:RS):RS:={ t with now:=t.now++[zeros],c:=t.c++[true] }
end
section
open Go.RowKit Go.Maps
open Dsk (gt hid undrew keep_old keep_cell lt_cell Rd DS FS Sec DiskP DFrame Grew From op_at idx dirtD was secD)
open Cch (CS CP Fr wpAnyK wpAnyK_take wpAnyK_pure wpAnyK_ready wpAnyK_done wp_region_K AllReadyK.cons AllReadyK.nil AllReadyK.late)
structure MK where
 id:Nat
 m:Nat
 n:Nat
 now:List Pg
 c:List Bool
 enc:List Sec
def mkC:List MK→List Value
 | []=>[]
 | k::r=>.int .i64 (k.id:Int)::.int .i64 (k.now.length:Int)::.map (some k.m)::mkC r
structure MkAt (w:World) (N:Nat→Prop) (sure:List Pg) (k:MK):Prop where
 chg:Chg w N k.m k.n k.now k.c k.enc
 out:Out w N k.m
 n0:k.m≠0
 wn:Whole k.now
 bn:k.now.length≤4000
 sm:∀ i,i<k.now.length→k.c.getD i false=false→i<sure.length∧k.now.getD i []=sure.getD i []
def PC.mv(x:PC):Value:=.slice x.mo x.ml x.mc
structure Mks (w:World) (p:Nat) (x:PC) (P:Dsk.Parts) (C:Cch.Parts) (sure:List Pg) (ms:List MK):Prop where
 row:w.ownsRow 0 165 3 x.mv ms.length (mkC ms)
 ml:x.ml=ms.length
 out:∀ b,x.mv.ownBlock=some b→Out w (NC p x P C) b
 each:∀ k∈ms,MkAt w (NC p x P C) sure k∧k.m≠x.m
 rise:(ms.map MK.id).Pairwise (· < ·)
 ids:∀ k∈ms,1≤k.id∧k.id≤x.last
theorem Mks.nil(w:World)(p:Nat)(x:PC)(P:Dsk.Parts)(C:Cch.Parts)(sure:List Pg)(h:x.mo=none∧x.ml=0∧x.mc=0):Mks w p x P C sure []:=
 ⟨⟨rfl,Or.inl ⟨by unfold PC.mv;rw [h.1,h.2.1,h.2.2],rfl⟩⟩,h.2.1,(fun b hb=>by unfold PC.mv at hb;rw [h.1]at hb;cases hb),fun k hk=>(by cases hk),List.Pairwise.nil,fun k hk=>(by cases hk)⟩
variable {x:PC} {w:World}
theorem Mks.move{w':World}{p:Nat}{x':PC}{P P':Dsk.Parts}{C C':Cch.Parts}{sure:List Pg}{ms:List MK}(h:Mks w p x P C sure ms)(hx:x'.mo=x.mo∧x'.ml=x.ml∧x'.mc=x.mc∧x'.last=x.last)(hm:∀ k∈ms,k.m≠x'.m)
  (ho:∀ b,Out w (NC p x P C) b→Out w' (NC p x' P' C') b) (hb:∀ b,Out w (NC p x P C) b→(∀ o v,w.cell? ⟨b,o,none⟩=some v→w'.cell? ⟨b,o,none⟩=some v)∧(b≠x.m→w'.heap[b]? = w.heap[b]?)) (hxm:∀ b,x.mv.ownBlock=some b→b≠x.m):Mks w' p x' P' C' sure ms:=by
 have ev:x'.mv=x.mv:=by unfold PC.mv;rw [hx.1,hx.2.1,hx.2.2.1]
 refine ⟨?_,hx.2.1.trans h.ml,fun b hb=>ho b (h.out b (by rw [←ev];exact hb)),fun k hk=>⟨?_,hm k hk⟩,h.rise,fun k hk=>by rw [hx.2.2.2];exact h.ids k hk⟩
 ·rw [ev]
  refine ⟨h.row.1,?_⟩
  rcases h.row.2 with hn | ⟨g,cap,cur,e,hb',hg,hr⟩
  ·exact .inl hn
  ·have hown:x.mv.ownBlock=some g:=by rw [e];rfl
   exact .inr ⟨g,cap,cur,e,hb',((hb g (h.out g hown)).2 (hxm g hown)).trans hg,hr⟩
 ·obtain ⟨⟨h1,h2,h3,h4,h5,h6⟩,h7⟩:=h.each k hk
  exact ⟨h1.turn ((hb k.m h2).2 h7) ho (fun b o v hob hc=>(hb b hob).1 o v hc),ho _ h2,h3,h4,h5,h6⟩
theorem mv_ne{n m N:Nat}{xs:List Value}{D:DataW Unit}(h:w.ownsRow 0 165 3 x.mv n xs)(hm:w.ownsMap Tryz.prog 3 slR m N D):∀ b,x.mv.ownBlock=some b→b≠m:=fun b hb e=>by
 obtain ⟨cur,hc⟩:=rr_kind h hb
 obtain ⟨es,cl,h1,_⟩:=hm
 subst e
 rw [h1]at hc;cases hc
end
section
open Go.RowKit Go.Maps
open Dsk (gt hid undrew keep_old keep_cell lt_cell Rd DS FS Sec DiskP DFrame Grew From op_at idx dirtD was secD)
open Cch (CS CP Fr)
def EncOff(E:Nat→Prop)(enc:List Sec):Prop:=∀ b o l c,[b,o,l,c]∈enc→¬E b
variable {enc:List Sec}
theorem was_mem{i:Nat}(h:i<enc.length):was enc i∈enc:=by
 unfold was;rw [List.getD,List.getElem?_eq_getElem h];exact List.getElem_mem h
variable {c:List Bool} {now:List Pg} {m n:Nat} {E N:Nat→Prop} {w w':World}
theorem Chg.off{N':Nat→Prop}(h:Chg w N m n now c enc)(hf:Fr E w w')(hm:¬E m)(he:EncOff E enc)(ho:∀ b,Out w N b→Out w' N' b):Chg w' N' m n now c enc:=
 ⟨map_df h.map (hf.blk m h.map.lt hm),h.len,h.el,fun i hi=>by
  obtain ⟨b,o,cap,e,hr,hob⟩:=h.at_ i hi
  have hil:i<c.length:=by
   rcases Nat.lt_or_ge i c.length with h1 |h1
   ·exact h1
   ·rw [List.getD,List.getElem?_eq_none h1]at hi;cases hi
  have hb:¬E b:=he b o 512 cap (by rw [←e];exact was_mem (by rw [h.el];omega))
  refine ⟨b,o,cap,e,⟨hr.1,hr.2.1,hr.2.2.1,fun hp=>?_⟩,ho _ hob⟩
  obtain ⟨b',o',e',h2⟩:=hr.2.2.2 hp
  simp only [Option.some.injEq,Addr.mk.injEq,and_true]at e'
  obtain ⟨rfl,rfl⟩:=e'
  exact ⟨b,o,rfl,fun t ht=>fr_cell hf (h2 t ht) hb⟩⟩
variable {s:CS} {d:DS} {x:PC} {p:Nat}
theorem Core.off{P:Dsk.Parts}{C:Cch.Parts}(h:Core w p x P C d s)(hf:Fr E w w')(hN:∀ b,NC p x P C b→¬E b):Core w' p x P C d s:=
 ⟨h.hd.stay (hf.blk p h.hd.lt (hN p (Or.inr (Or.inr rfl)))),h.dk.stay hf.size (fun b hb hd=>hf.blk b hb (hN b (Or.inl (by rcases hd with h1 |h1;exact Or.inr h1;exact Or.inl h1)))),h.ck.stay (fun b hb hS=>hf.blk b hb (hN b (Or.inr (Or.inl hS)))),h.dc,h.dp,h.cp⟩
variable {sure:List Pg}
theorem Tx.off{P:Dsk.Parts}{C:Cch.Parts}(h:Tx w p x P C d s sure n now c enc)(hf:Fr E w w')(hN:∀ b,NC p x P C b→¬E b)(hm:¬E x.m)(h0:¬E 0)(he:EncOff E enc):Tx w' p x P C d s sure n now c enc:=
 ⟨h.core.off hf hN,h.chg.off hf hm he (fun _ ho=>ho.later hf.size),h.mo.later hf.size,h.fits,h.pages,h.np,h.ws,h.wn,h.bs,h.bn,tab_of h.tab (hf.blk 0 h.t0.1 h0),h.t0.later hf.size,h.tm,h.sm⟩
variable {x':PC}
theorem Tx.reset{P:Dsk.Parts}{C:Cch.Parts}(h:Tx w p x P C d s sure n now c enc)(hP:PgAt w' p x')(e:x'.q=x.q∧x'.k=x.k∧x'.pages=x.pages∧x'.np=x.np∧x'.m=x.m)(hf:Fr (fun b=>b=p) w w'):Tx w' p x' P C d s sure n now c enc:=by
 obtain ⟨e1,e2,e3,e4,e5⟩:=e
 have hnc:∀ b,NC p x' P C b↔NC p x P C b:=fun b=>by unfold NC;rw [e1,e2]
 have ho:∀ b,Out w (NC p x P C) b→Out w' (NC p x' P C) b:=fun b hb=>⟨Nat.lt_of_lt_of_le hb.1 hf.size,fun h1=>hb.2 ((hnc b).1 h1)⟩
 have hop:∀ b,Out w (NC p x P C) b→b≠p:=fun b hb e=>hb.2 (Or.inr (Or.inr e))
 refine ⟨⟨hP,by rw [e1];exact h.core.dk.stay hf.size (fun b hb hd=>hf.blk b hb (fun e=>h.core.dp (by rcases hd with h1 |h1;exact Or.inr (e▸h1);exact Or.inl (e▸h1)))),by rw [e2];exact h.core.ck.stay (fun b hb hS=>hf.blk b hb (fun e=>h.core.cp (e▸hS))),by rw [e1,e2];exact h.core.dc,by rw [e1];exact h.core.dp,by rw [e2];exact h.core.cp⟩,?_,?_,h.fits,e3.trans h.pages,e4.trans h.np,h.ws,h.wn,h.bs,h.bn,tab_of h.tab (hf.blk 0 h.t0.1 (hop 0 h.t0)),ho 0 h.t0,by rw [e5];exact h.tm,h.sm⟩
 ·rw [e5];exact h.chg.turn (hf.blk _ h.mo.1 (hop _ h.mo)) ho (fun b o v hb hc=>fr_cell hf hc (hop b hb))
 ·rw [e5];exact ho _ h.mo
def Sup(p:Nat)(x:PC)(P:Dsk.Parts)(C:Cch.Parts)(enc:List Sec)(ms:List MK):Nat→Prop:=fun b=>NC p x P C b∨b=x.m∨b=0∨x.mv.ownBlock=some b∨(∃ o l c,[b,o,l,c]∈enc)∨∃ k∈ms,b=k.m∨∃ o l c,[b,o,l,c]∈k.enc
structure Live (w:World) (p:Nat) (x:PC) (P:Dsk.Parts) (C:Cch.Parts) (d:DS) (s:CS) (sure:List Pg) (n:Nat) (now:List Pg) (c:List Bool) (enc:List Sec) (ms:List MK):Prop where
 tx:Tx w p x P C d s sure n now c enc
 mks:Mks w p x P C sure ms
 sep:∀ b,x.mv.ownBlock=some b→EncOff (fun k=>k=b) enc∧(∀ k∈ms,EncOff (fun k=>k=b) k.enc)∧b≠0
 eb:∀ b o l cc,[b,o,l,cc]∈enc→Out w (NC p x P C) b
 ek:∀ k∈ms,∀ b o l cc,[b,o,l,cc]∈k.enc→Out w (NC p x P C) b
variable {ms:List MK}
theorem Live.lt{P:Dsk.Parts}{C:Cch.Parts}(h:Live w p x P C d s sure n now c enc ms):∀ b,Sup p x P C enc ms b→b<w.heap.size:=fun b hb=>by
 rcases hb with hb |rfl |rfl |hb | ⟨o,l,cc,hb⟩ | ⟨k,hk,rfl | ⟨o,l,cc,hb⟩⟩
 ·exact h.tx.core.lt hb
 ·exact h.tx.mo.1
 ·exact h.tx.t0.1
 ·exact (h.mks.out b hb).1
 ·exact (h.eb b o l cc hb).1
 ·exact (h.mks.each k hk).1.out.1
 ·exact (h.ek k hk b o l cc hb).1
theorem Live.off{P:Dsk.Parts}{C:Cch.Parts}(h:Live w p x P C d s sure n now c enc ms)(hf:Fr E w w')(hE:∀ b,Sup p x P C enc ms b→¬E b):Live w' p x P C d s sure n now c enc ms:=by
 have hN:∀ b,NC p x P C b→¬E b:=fun b hb=>hE b (Or.inl hb)
 refine ⟨h.tx.off hf hN (hE _ (Or.inr (Or.inl rfl))) (hE _ (Or.inr (Or.inr (Or.inl rfl)))) (fun b o l cc hb=>hE b (Or.inr (Or.inr (Or.inr (Or.inr (Or.inl ⟨o,l,cc,hb⟩)))))),⟨rr_fr h.mks.row hf (fun k hk=>hE k (Or.inr (Or.inr (Or.inr (Or.inl hk))))),h.mks.ml,fun b hb=>(h.mks.out b hb).later hf.size,fun k hk=>?_,h.mks.rise,h.mks.ids⟩,h.sep,fun b o l cc hb=>(h.eb b o l cc hb).later hf.size,fun k hk b o l cc hb=>(h.ek k hk b o l cc hb).later hf.size⟩
 obtain ⟨⟨h1,h2,h3,h4,h5,h6⟩,h7⟩:=h.mks.each k hk
 exact ⟨⟨h1.off hf (hE _ (Or.inr (Or.inr (Or.inr (Or.inr (Or.inr ⟨k,hk,Or.inl rfl⟩)))))) (fun b o l cc hb=>hE b (Or.inr (Or.inr (Or.inr (Or.inr (Or.inr ⟨k,hk,Or.inr ⟨o,l,cc,hb⟩⟩)))))) (fun _ ho=>ho.later hf.size),h2.later hf.size,h3,h4,h5,h6⟩,h7⟩
theorem Live.later{P:Dsk.Parts}{C:Cch.Parts}(h:Live w p x P C d s sure n now c enc ms)(hb:Below w.heap.size w w'):Live w' p x P C d s sure n now c enc ms:=
 h.off (fr_below (S:=fun _=>False) hb) (fun _ _ h=>h)
def Own(p:Nat)(x:PC)(P:Dsk.Parts)(C:Cch.Parts):Nat→Prop:=fun b=>NC p x P C b∨b=x.m∨x.mv.ownBlock=some b
theorem Own.sup{P:Dsk.Parts}{C:Cch.Parts}{b:Nat}(h:Own p x P C b):Sup p x P C enc ms b:=by
 rcases h with h |h |h
 ·exact Or.inl h
 ·exact Or.inr (Or.inl h)
 ·exact Or.inr (Or.inr (Or.inr (Or.inl h)))
theorem Live.own0{P:Dsk.Parts}{C:Cch.Parts}(h:Live w p x P C d s sure n now c enc ms):¬Own p x P C 0:=fun hb=>by
 rcases hb with hb |hb |hb
 ·exact h.tx.t0.2 hb
 ·exact h.tx.tm hb.symm
 ·exact (h.sep 0 hb).2.2 rfl
structure LTo (w w':World) (p:Nat) (x x':PC) (P:Dsk.Parts) (C:Cch.Parts) (d d':DS) (s:CS) (sure sure':List Pg) (N n':Nat) (now':List Pg) (c':List Bool) (enc:List Sec) (ms:List MK) (ms':List MK):Prop where
 is:∃ P' C' s' enc',Live w' p x' P' C' d' s' sure' n' now' c' enc' ms'∧(∀ b,Sup p x' P' C' enc' ms' b→Sup p x P C enc ms b∨w.heap.size≤b)∧s'.hit+s'.miss≤s.hit+s.miss+N∧s'.room=s.room
 fr:Fr (Own p x P C) w w'
theorem enc_nil(n:Nat):∀ b o l c,[b,o,l,c]∈List.replicate n ([]:Sec)→False:=fun b o l c h=>by
 have:=List.eq_of_mem_replicate h;cases this
theorem Rest.live{P:Dsk.Parts}{C:Cch.Parts}(h:Rest w p x P C d s sure)(hx:x.mo=none∧x.ml=0∧x.mc=0):Live w p x P C d s sure 0 sure (List.replicate sure.length false) (List.replicate (sure.length+1) []) []:=
 ⟨h,Mks.nil w p x P C sure hx,(fun b hb=>by unfold PC.mv at hb;rw [hx.1]at hb;cases hb),fun b o l cc hb=>(enc_nil _ b o l cc hb).elim,(fun k hk=>by cases hk)⟩
def clean(c:List Bool)(enc:List Sec):List Sec:=(List.range (c.length+1)).map fun j=>if (false::c).getD j false=true then was enc j else []
theorem clean_was{j:Nat}(h:(false::c).getD j false=true):was (clean c enc) j=was enc j:=by
 have hj:j<c.length+1:=by
  rcases Nat.lt_or_ge j (false::c).length with h1 |h1
  ·simpa using h1
  ·rw [List.getD,List.getElem?_eq_none h1]at h;cases h
 unfold was clean
 rw [List.getD,List.getElem?_map,List.getElem?_range hj]
 simp only [Option.map_some,Option.getD_some,h,if_true]
 rfl
theorem clean_dirt(c:List Bool)(enc:List Sec):dirtD (false::c) (clean c enc)=dirtD (false::c) enc:=by
 unfold dirtD
 congr 1
 apply List.map_congr_left
 intro i hi
 unfold Dsk.entry
 rw [clean_was (Dsk.mem_idx.1 hi)]
theorem Tx.clean{P:Dsk.Parts}{C:Cch.Parts}(h:Tx w p x P C d s sure n now c enc):Tx w p x P C d s sure n now c (clean c enc):=
 ⟨h.core,⟨by rw [clean_dirt];exact h.chg.map,h.chg.len,by unfold YtfcikkechphmaaaGreatDoor.clean;simp,fun i hi=>by
  obtain ⟨b,o,cap,e,r⟩:=h.chg.at_ i hi
  exact ⟨b,o,cap,by rw [clean_was (by simpa using hi)];exact e,r⟩⟩,h.mo,h.fits,h.pages,h.np,h.ws,h.wn,h.bs,h.bn,h.tab,h.t0,h.tm,h.sm⟩
theorem clean_mem(h:Chg w N m n now c enc){b o l cc:Nat}(hb:[b,o,l,cc]∈clean c enc):[b,o,l,cc]∈enc∧Out w N b:=by
 obtain ⟨j,hj,e⟩:=List.mem_map.1 hb
 split at e
 ·rename_i hc
  cases j with
  | zero=>simp at hc
  | succ i=>
   have hci:c.getD i false=true:=by simpa using hc
   obtain ⟨b',o',cap,e2,_,h3⟩:=h.at_ i hci
   rw [e2]at e
   simp only [List.cons.injEq,and_true]at e
   have:=List.mem_range.1 hj
   refine ⟨?_,by rw [←e.1];exact h3⟩
   rw [show [b,o,l,cc]=was enc (i+1) by rw [e2,e.1,e.2.1,e.2.2.1,e.2.2.2]]
   exact was_mem (by rw [h.el];omega)
 ·cases e
theorem Live.put{P:Dsk.Parts}{C:Cch.Parts}{n':Nat}{now':List Pg}{c':List Bool}(h:Live w p x P C d s sure n now c enc ms)(hx:x'.q=x.q∧x'.k=x.k∧x'.m=x.m∧x'.mo=x.mo∧x'.ml=x.ml∧x'.mc=x.mc∧x'.last=x.last)(k:PutE w w' p x x' P C d s sure n' now' c' enc):LTo w w' p x x' P C d d s sure sure 0 n' now' c' enc ms ms:=by
 obtain ⟨enc',hT,hE⟩:=k.is
 have hf:=k.fr
 obtain ⟨e1,e2,e3,e4,e5,e6,e7⟩:=hx
 have ev:x'.mv=x.mv:=by unfold PC.mv;rw [e4,e5,e6]
 have hnc:∀ b,NC p x' P C b↔NC p x P C b:=fun b=>by unfold NC;rw [e1,e2]
 have hxm:=mv_ne h.mks.row h.tx.chg.map
 have hmk:Mks w' p x' P C sure ms:=h.mks.move ⟨e4,e5,e6,e7⟩ (fun k hk=>by rw [e3];exact (h.mks.each k hk).2) (fun b ho=>⟨Nat.lt_of_lt_of_le ho.1 hf.size,fun h1=>ho.2 ((hnc b).1 h1)⟩) (fun b ho=>⟨fun o v hc=>fr_cell hf hc (fun e=>by
  rcases e with e |e
  ·exact ho.2 (Or.inr (Or.inr e))
  ·subst e;exact cell_no_map h.tx.chg.map hc),fun hb=>hf.blk b ho.1 (fun e=>by
  rcases e with e |e
  ·exact ho.2 (Or.inr (Or.inr e))
  ·exact hb e)⟩) hxm
 have key:∀ b o l cc,[b,o,l,cc]∈clean c' enc'→[b,o,l,cc]∈enc∨w.heap.size≤b:=fun b o l cc hb=>by
  rcases hE _ (clean_mem hT.chg hb).1 with h1 | ⟨g,l',c2,e,h1⟩
  ·exact Or.inl h1
  ·simp only [List.cons.injEq,and_true]at e
   rw [e.1];exact Or.inr h1
 have hlt:∀ b o l cc,[b,o,l,cc]∈clean c' enc'→Out w' (NC p x' P C) b:=fun b o l cc hb=>(clean_mem hT.chg hb).2
 refine ⟨⟨P,C,s,clean c' enc',⟨hT.clean,hmk,fun b hb=>?_,hlt,fun k hk b o l cc hb=>⟨Nat.lt_of_lt_of_le (h.ek k hk b o l cc hb).1 hf.size,fun h1=>(h.ek k hk b o l cc hb).2 ((hnc b).1 h1)⟩⟩,fun b hb=>?_,by omega,rfl⟩,fr_imp hf (fun b hb=>by rcases hb with rfl |rfl;exact Or.inl (Or.inr (Or.inr rfl));exact Or.inr (Or.inl rfl))⟩
 ·rw [ev]at hb
  refine ⟨fun b2 o l cc h2 e=>?_,(h.sep b hb).2⟩
  subst e
  rcases key _ o l cc h2 with h1 |h1
  ·exact (h.sep _ hb).1 _ o l cc h1 rfl
  ·have:=(h.mks.out _ hb).1;omega
 ·rcases hb with hb |hb |rfl |hb | ⟨o,l,cc,hb⟩ |hb
  ·exact Or.inl (Or.inl ((hnc b).1 hb))
  ·rw [e3]at hb;exact Or.inl (Or.inr (Or.inl hb))
  ·exact Or.inl (Or.inr (Or.inr (Or.inl rfl)))
  ·rw [ev]at hb;exact Or.inl (Or.inr (Or.inr (Or.inr (Or.inl hb))))
  ·rcases key b o l cc hb with h1 |h1
   ·exact Or.inl (Or.inr (Or.inr (Or.inr (Or.inr (Or.inl ⟨o,l,cc,h1⟩)))))
   ·exact Or.inr h1
  ·exact Or.inl (Or.inr (Or.inr (Or.inr (Or.inr (Or.inr hb)))))
end
end Go.Proofs.YtfcikkechphmaaaGreatDoor
