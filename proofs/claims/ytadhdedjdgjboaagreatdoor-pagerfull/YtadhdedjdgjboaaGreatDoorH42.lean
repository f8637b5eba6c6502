/- The program's pager against the document's state: what each call leaves; no statement of the seat is proved here. -/
import Derived.Test.YtadhdedjdgjboaaGreatDoorH36
import Derived.Test.YtadhdedjdgjboaaGreatDoorH38
import Derived.Test.YtadhdedjdgjboaaGreatDoorH40
import Derived.Test.YtadhdedjdgjboaaGreatDoorH41
import Derived.Test.YtadhdedjdgjboaaGreatDoorH27
set_option maxHeartbeats 16000000
set_option maxRecDepth 20000
namespace Go.Proofs.YtadhdedjdgjboaaGreatDoor
section
open Go.RowKit Go.Maps
open Dsk (gt hid undrew keep_old keep_cell lt_cell Rd DS FS Sec DiskP DFrame Grew From op_at idx dirtD was secD sureF sureF_ok crashD)
open Cch (CS CP Fr)
def RS.ch(t:RS):List Bool:=if t.busy then t.c else List.replicate t.sure.length false
def mkR(k:MK):RM:=⟨k.id,k.now,k.c⟩
structure TB (K:Nat) (t:RS):Prop where
 ls:t.sure.length≤K
 ln:t.now.length≤K
 lc:t.c.length=t.now.length
 mks:∀ m∈t.marks,m.l.length≤K∧m.c.length=m.l.length∧m.id≤K
 lm:t.marks.length≤K
 la:t.last≤K
 n:t.n≤K
structure PA (arm:Prop) (room croom K:Nat) (w:World) (p q:Nat) (R:Nat→Prop) (t:RS) (x:PC) (P:Dsk.Parts) (C:Cch.Parts) (d:DS) (s:CS) (n:Nat) (enc:List Sec) (ms:List MK):Prop where
 live:Live w p x P C d s t.sure n t.pages t.ch enc ms
 q:x.q=q
 busy:x.busy=t.busy
 com:x.com=t.n
 mb:t.busy=true→ms.map mkR=t.marks∧x.last=t.last
 mr:t.busy=false→ms = []∧x.last=0
 off:∀ b,Sup p x P C enc ms b→¬R b
 sure:Sured d t.sure
 env:Env arm room d
 ops:d.ops≤K*1000
 hm:s.hit+s.miss≤K*1000
 rm:s.room=croom
 nk:n≤K
 nm:∀ k∈ms,k.n≤K
 rl:∀ b,R b→b<w.heap.size
def PrgAt(arm:Prop)(room croom K:Nat)(w:World)(p q:Nat)(R:Nat→Prop)(t:RS):Prop:=∃ x P C d s n enc ms,PA arm room croom K w p q R t x P C d s n enc ms
def Rok(R:Nat→Prop)(w w':World):Prop:=Fr (fun b=>¬R b∧b≠0) w w'
variable {w w':World} {R:Nat→Prop}
theorem Rok.at_(h:Rok R w w'){b:Nat}(hb:R b)(hl:b<w.heap.size):w'.heap[b]? = w.heap[b]?:=h.blk b hl (fun k=>k.1 hb)
variable {K:Nat}
theorem up1000{a b:Nat}(h:a≤K*1000)(hb:b≤a+1000):b≤(K+1)*1000:=by omega
variable {ms:List MK} {enc:List Sec} {n p q room croom:Nat} {s:CS} {d:DS} {x:PC} {t:RS} {arm:Prop}
theorem PA.later{P:Dsk.Parts}{C:Cch.Parts}(h:PA arm room croom K w p q R t x P C d s n enc ms)(hb:Below w.heap.size w w'):PrgAt arm room croom (K+1) w' p q R t∧Rok R w w':=
 ⟨⟨x,P,C,d,s,n,enc,ms,h.live.later hb,h.q,h.busy,h.com,h.mb,h.mr,h.off,h.sure,h.env,up1000 h.ops (by omega),up1000 h.hm (by omega),h.rm,by have:=h.nk;omega,fun k hk=>by have:=h.nm k hk;omega,fun b hb'=>Nat.lt_of_lt_of_le (h.rl b hb') hb.size⟩,fr_below hb⟩
theorem PA.to{t':RS}{x':PC}{P:Dsk.Parts}{C:Cch.Parts}{d':DS}{n' N:Nat}{ms':List MK}{now':List Pg}{c':List Bool}{sure':List Pg}(h:PA arm room croom K w p q R t x P C d s n enc ms)(k:LTo w w' p x x' P C d d' s t.sure sure' N n' now' c' enc ms ms')
  (es:sure'=t'.sure) (en:now'=t'.pages) (ec:c'=t'.ch) (hq:x'.q=x.q) (hb:x'.busy=t'.busy) (hc:x'.com=t'.n) (hm:t'.busy=true→ms'.map mkR=t'.marks∧x'.last=t'.last) (hr:t'.busy=false→ms' = []∧x'.last=0) (hs:Sured d' t'.sure) (he:Env arm room d') (ho:d'.ops≤d.ops+1000) (hN:N≤1000) (hn:n'≤K+1) (hnm:∀ k∈ms',k.n≤K+1) :
  PrgAt arm room croom (K+1) w' p q R t'∧Rok R w w':=by
 obtain ⟨P',C',s',enc',h1,h2,h3,h4⟩:=k.is
 subst es;subst en;subst ec
 refine ⟨⟨x',P',C',d',s',n',enc',ms',h1,hq.trans h.q,hb,hc,hm,hr,fun b hb' hR=>?_,hs,he,up1000 h.ops ho,up1000 h.hm (by omega),h4.trans h.rm,hn,hnm,fun b hb'=>Nat.lt_of_lt_of_le (h.rl b hb') k.fr.size⟩,fr_imp k.fr (fun b hb'=>⟨fun hR=>h.off b hb'.sup hR,fun e=>h.live.own0 (e▸hb')⟩)⟩
 rcases h2 b hb' with h5 |h5
 ·exact h.off b h5 hR
 ·have:=h.rl b hR;omega
theorem begin_live{P:Dsk.Parts}{C:Cch.Parts}{sure:List Pg}{now:List Pg}{c:List Bool}(h:Live w p x P C d s sure n now c enc ms)(hP:PgAt w' p { x with busy:=true })(hf:Fr (fun b=>b=p) w w'):LTo w w' p x { x with busy:=true } P C d d s sure sure 0 n now c enc ms ms:=by
 have hT:Tx w' p { x with busy:=true } P C d s sure n now c enc:=h.tx.reset hP ⟨rfl,rfl,rfl,rfl,rfl⟩ hf
 have ho:∀ b,Out w (NC p x P C) b→Out w' (NC p x P C) b:=fun b hb=>hb.later hf.size
 have hop:∀ b,Out w (NC p x P C) b→b≠p:=fun b hb e=>hb.2 (Or.inr (Or.inr e))
 have hmk:Mks w' p { x with busy:=true } P C sure ms:=h.mks.move ⟨rfl,rfl,rfl,rfl⟩ (fun k hk=>(h.mks.each k hk).2) ho (fun b hb=>⟨fun o v hc=>fr_cell hf hc (hop b hb),fun _=>hf.blk b hb.1 (hop b hb)⟩) (mv_ne h.mks.row h.tx.chg.map)
 exact ⟨⟨P,C,s,enc,⟨hT,hmk,h.sep,fun b o l cc hb=>ho b (h.eb b o l cc hb),fun k hk b o l cc hb=>ho b (h.ek k hk b o l cc hb)⟩,fun b hb=>Or.inl hb,by omega,rfl⟩,fr_imp hf (fun b hb=>Or.inl (Or.inr (Or.inr hb)))⟩
section
variable {arm:Prop} {room croom K:Nat} {p q:Nat} {R:Nat→Prop} {t:RS} {w:World}
def POk(arm:Prop)(room croom K:Nat)(p q:Nat)(R:Nat→Prop)(w:World)(v:Value)(t':RS)(e:Ending)(w':World):Prop:=e=.returned v∧PrgAt arm room croom (K+1) w' p q R t'∧Rok R w w'
theorem prg_begin(h:PrgAt arm room croom K w p q R t):Calls Tryz.prog 30 #[.pointer (some ⟨p,0,none⟩)] w (POk arm room croom K p q R w (.int .i64 (if t.busy then 6 else 0)) (if t.busy then t else t.begin)):=by
 obtain ⟨x,P,C,d,s,n,enc,ms,h⟩:=h
 cases hb:t.busy with
 | true=>
  refine (begin_state p x w h.live.tx.core.hd (h.busy.trans hb)).mono ?_
  rintro e w' ⟨rfl,hb1⟩
  exact ⟨rfl,h.later hb1⟩
 | false=>
  refine (begin_call p x w h.live.tx.core.hd (h.busy.trans hb)).mono ?_
  rintro e w' ⟨rfl,hP,hf⟩
  have e1:t.begin.pages=t.pages:=by unfold RS.pages RS.begin;rw [hb];rfl
  have e2:t.begin.ch=t.ch:=by unfold RS.ch RS.begin;rw [hb];rfl
  exact ⟨rfl,h.to (begin_live h.live hP hf) rfl e1.symm e2.symm rfl rfl h.com (fun _=>by rw [(h.mr hb).1];exact ⟨rfl,(h.mr hb).2⟩) (fun e=>by cases e) h.sure h.env (by omega) (by omega) (by have:=h.nk;omega) (fun k hk=>by have:=h.nm k hk;omega)⟩
theorem prg_rollback(h:PrgAt arm room croom K w p q R t):Calls Tryz.prog 39 #[.pointer (some ⟨p,0,none⟩)] w (POk arm room croom K p q R w (.int .i64 (if t.busy then 0 else 6)) { t with busy:=false }):=by
 obtain ⟨x,P,C,d,s,n,enc,ms,h⟩:=h
 cases hb:t.busy with
 | false=>
  refine (rollback_no p x w h.live.tx.core.hd (h.busy.trans hb)).mono ?_
  rintro e w' ⟨rfl,hb1⟩
  have e:({ t with busy:=false }:RS)=t:=by cases t;simp at hb;subst hb;rfl
  rw [e]
  exact ⟨rfl,h.later hb1⟩
 | true=>
  refine (rollback_yes p x P C d s t.sure n t.pages t.ch enc w h.live.tx (h.busy.trans hb)).mono ?_
  rintro e w' ⟨rfl,m,hr,hf,hm⟩
  have k:LTo w w' p x (x.ended m) P C d d s t.sure t.sure 0 0 t.sure (List.replicate t.sure.length false) enc ms []:=rest_lto hr ⟨rfl,rfl,rfl⟩ ⟨rfl,rfl⟩ hm (More.refl _ _ _ _ _) (fr_imp hf (fun b hb=>Or.inr (Or.inr hb))) (by omega) rfl
  exact ⟨rfl,h.to k rfl rfl rfl rfl rfl h.com (fun e=>by cases e) (fun _=>⟨rfl,rfl⟩) h.sure h.env (by omega) (by omega) (by omega) (fun k hk=>by cases hk)⟩
end
end
section
open Go.RowKit Go.Maps
open Dsk (gt hid undrew keep_old keep_cell lt_cell Rd DS FS Sec DiskP DFrame Grew From op_at idx dirtD was secD sureF sureF_ok crashD)
open Cch (CS CP Fr)
theorem Live.moved{w w':World}{p:Nat}{x:PC}{P P':Dsk.Parts}{C C':Cch.Parts}{d d':DS}{s s':CS}{sure:List Pg}{n N:Nat}{now:List Pg}{c:List Bool}{enc:List Sec}{ms:List MK}(h:Live w p x P C d s sure n now c enc ms)(hT:Tx w' p x P' C' d' s' sure n now c enc)(hM:More p x P P' C C' w)(hf:Fr (NC p x P C) w w')(hs:s'.hit+s'.miss≤s.hit+s.miss+N)(hr:s'.room=s.room) :
  LTo w w' p x x P C d d' s sure sure N n now c enc ms ms:=by
 have ho:∀ b,Out w (NC p x P C) b→Out w' (NC p x P' C') b:=fun b hb=>hM.out hf.size hb
 refine ⟨⟨P',C',s',enc,⟨hT,h.mks.move ⟨rfl,rfl,rfl,rfl⟩ (fun k hk=>(h.mks.each k hk).2) ho (fun b hb=>⟨fun o v hc=>fr_cell hf hc hb.2,fun _=>hf.blk b hb.1 hb.2⟩) (mv_ne h.mks.row h.tx.chg.map),h.sep,fun b o l cc hb=>ho b (h.eb b o l cc hb),fun k hk b o l cc hb=>ho b (h.ek k hk b o l cc hb)⟩,fun b hb=>?_,hs,hr⟩,fr_imp hf (fun b hb=>Or.inl hb)⟩
 rcases hb with hb |hb
 ·rcases hM b hb with h1 |h1
  ·exact Or.inl (Or.inl h1)
  ·exact Or.inr h1
 ·exact Or.inl (Or.inr hb)
variable {t:RS}
theorem RS.pages_busy(hb:t.busy=true):t.pages=t.now:=by unfold RS.pages;rw [if_pos hb]
theorem RS.ch_busy(hb:t.busy=true):t.ch=t.c:=by unfold RS.ch;rw [if_pos hb]
section
variable {arm:Prop} {room croom K:Nat} {p q:Nat} {R:Nat→Prop} {t:RS} {w:World}
variable {ms:List MK} {enc:List Sec} {n:Nat} {s:CS} {d:DS} {x:PC}
theorem PA.put{w':World}{x':PC}{P:Dsk.Parts}{C:Cch.Parts}{n':Nat}{now':List Pg}{c':List Bool}(h:PA arm room croom K w p q R t x P C d s n enc ms)(hb:t.busy=true)(k:PutE w w' p x x' P C d s t.sure n' now' c' enc)(hx:x'.q=x.q∧x'.k=x.k∧x'.m=x.m∧x'.mo=x.mo∧x'.ml=x.ml∧x'.mc=x.mc∧x'.last=x.last)(hx2:x'.busy=x.busy∧x'.com=x.com)(hn:n'≤K+1) :
  PrgAt arm room croom (K+1) w' p q R { t with now:=now',c:=c' }∧Rok R w w':=
 h.to (t':={ t with now:=now',c:=c' }) (h.live.put hx k) rfl (RS.pages_busy (t:={ t with now:=now',c:=c' }) hb).symm (RS.ch_busy (t:={ t with now:=now',c:=c' }) hb).symm hx.1 (hx2.1.trans h.busy) (hx2.2.trans h.com) (fun e=>⟨(h.mb e).1,hx.2.2.2.2.2.2.trans (h.mb e).2⟩) (fun e=>by have e':t.busy=false:=e;rw [hb]at e';cases e') h.sure h.env (by omega) (by omega) hn (fun k hk=>by have:=h.nm k hk;omega)
theorem PA.tx{P:Dsk.Parts}{C:Cch.Parts}(h:PA arm room croom K w p q R t x P C d s n enc ms)(hb:t.busy=true):Tx w p x P C d s t.sure n t.now t.c enc:=by
 have:=h.live.tx
 rw [RS.pages_busy hb,RS.ch_busy hb]at this
 exact this
theorem prg_grow_no(h:PrgAt arm room croom K w p q R t)(hb:t.busy=false):Calls Tryz.prog 31 #[.pointer (some ⟨p,0,none⟩)] w (POk arm room croom K p q R w (.tuple #[.int .i64 0,.int .i64 6]) t):=by
 obtain ⟨x,P,C,d,s,n,enc,ms,h⟩:=h
 refine (grow_state p x w h.live.tx.core.hd (h.busy.trans hb)).mono ?_
 rintro e w' ⟨rfl,hb1⟩
 exact ⟨rfl,h.later hb1⟩
theorem prg_grow_yes(h:PrgAt arm room croom K w p q R t)(hb:t.busy=true)(hT:TB K t)(hK:K≤100):Calls Tryz.prog 31 #[.pointer (some ⟨p,0,none⟩)] w (POk arm room croom K p q R w (.tuple #[.int .i64 ((t.now.length+1:Nat):Int),.int .i64 0]) t.grow):=by
 obtain ⟨x,P,C,d,s,n,enc,ms,h⟩:=h
 refine (grow_calle p x P C d s t.sure n t.now t.c enc w (h.tx hb) (h.busy.trans hb) (by have:=hT.ln;omega) (by have:=h.nk;omega)).mono ?_
 rintro e w' ⟨rfl,k⟩
 exact ⟨rfl,h.put hb k ⟨rfl,rfl,rfl,rfl,rfl,rfl,rfl⟩ ⟨rfl,rfl⟩ (by have:=h.nk;omega)⟩
theorem prg_shrink_no(z:Int)(h:PrgAt arm room croom K w p q R t)(hb:t.busy=false):Calls Tryz.prog 37 #[.pointer (some ⟨p,0,none⟩),.int .i64 z] w (POk arm room croom K p q R w (.int .i64 6) t):=by
 obtain ⟨x,P,C,d,s,n,enc,ms,h⟩:=h
 refine (shrink_state p x z w h.live.tx.core.hd (h.busy.trans hb)).mono ?_
 rintro e w' ⟨rfl,hb1⟩
 exact ⟨rfl,h.later hb1⟩
theorem prg_shrink_range(z:Int)(h:PrgAt arm room croom K w p q R t)(hb:t.busy=true)(hz:z<0∨(t.now.length:Int)<z):Calls Tryz.prog 37 #[.pointer (some ⟨p,0,none⟩),.int .i64 z] w (POk arm room croom K p q R w (.int .i64 11) t):=by
 obtain ⟨x,P,C,d,s,n,enc,ms,h⟩:=h
 refine (shrink_range p x z w h.live.tx.core.hd (h.busy.trans hb) (by rw [(h.tx hb).np];exact hz)).mono ?_
 rintro e w' ⟨rfl,hb1⟩
 exact ⟨rfl,h.later hb1⟩
theorem prg_shrink_yes(m:Nat)(h:PrgAt arm room croom K w p q R t)(hb:t.busy=true)(hm:m≤t.now.length):Calls Tryz.prog 37 #[.pointer (some ⟨p,0,none⟩),.int .i64 (m:Int)] w (POk arm room croom K p q R w (.int .i64 0) (t.shrink m)):=by
 obtain ⟨x,P,C,d,s,n,enc,ms,h⟩:=h
 refine (shrink_yes p m x P C d s t.sure n t.now t.c enc w (h.tx hb) (h.busy.trans hb) hm).mono ?_
 rintro e w' ⟨rfl,k⟩
 exact ⟨rfl,h.put hb k ⟨rfl,rfl,rfl,rfl,rfl,rfl,rfl⟩ ⟨rfl,rfl⟩ (by have:=h.nk;omega)⟩
theorem prg_put_no(z:Int)(v:Value)(h:PrgAt arm room croom K w p q R t)(hb:t.busy=false):Calls Tryz.prog 32 #[.pointer (some ⟨p,0,none⟩),.int .i64 z,v] w (POk arm room croom K p q R w (.int .i64 6) t):=by
 obtain ⟨x,P,C,d,s,n,enc,ms,h⟩:=h
 refine (put_state p x z v w h.live.tx.core.hd (h.busy.trans hb)).mono ?_
 rintro e w' ⟨rfl,hb1⟩
 exact ⟨rfl,h.later hb1⟩
theorem prg_put_range(z:Int)(v:Value)(h:PrgAt arm room croom K w p q R t)(hb:t.busy=true)(hz:(decide (1≤z)&&decide (z≤(t.now.length:Int)))=false):Calls Tryz.prog 32 #[.pointer (some ⟨p,0,none⟩),.int .i64 z,v] w (POk arm room croom K p q R w (.int .i64 11) t):=by
 obtain ⟨x,P,C,d,s,n,enc,ms,h⟩:=h
 refine (put_range p x z v w h.live.tx.core.hd (h.busy.trans hb) (by rw [(h.tx hb).np];exact hz)).mono ?_
 rintro e w' ⟨rfl,hb1⟩
 exact ⟨rfl,h.later hb1⟩
theorem prg_put_arg(z:Int)(ao:Option Addr)(l cap:Nat)(h:PrgAt arm room croom K w p q R t)(hb:t.busy=true)(hz:(decide (1≤z)&&decide (z≤(t.now.length:Int)))=true)(hl:l≠512):Calls Tryz.prog 32 #[.pointer (some ⟨p,0,none⟩),.int .i64 z,.slice ao l cap] w (POk arm room croom K p q R w (.int .i64 2) t):=by
 obtain ⟨x,P,C,d,s,n,enc,ms,h⟩:=h
 refine (put_arg p x z ao l cap w h.live.tx.core.hd (h.busy.trans hb) (by rw [(h.tx hb).np];exact hz) hl).mono ?_
 rintro e w' ⟨rfl,hb1⟩
 exact ⟨rfl,h.later hb1⟩
theorem prg_put_yes(i sb so cap:Nat)(b:Pg)(h:PrgAt arm room croom K w p q R t)(hb:t.busy=true)(hi:i<t.now.length)(hK:K≤100)(hr:Rd w (some ⟨sb,so,none⟩) 512 cap b)(hbb:∀ y∈b,y<256):Calls Tryz.prog 32 #[.pointer (some ⟨p,0,none⟩),.int .i64 ((i+1:Nat):Int),.slice (some ⟨sb,so,none⟩) 512 cap] w (POk arm room croom K p q R w (.int .i64 0) (t.put i b)):=by
 obtain ⟨x,P,C,d,s,n,enc,ms,h⟩:=h
 refine (put_pagee p (i+1) sb so cap b x P C d s t.sure n t.now t.c enc w (h.tx hb) (h.busy.trans hb) (by omega) (by omega) (by have:=h.nk;omega) hr hbb).mono ?_
 rintro e w' ⟨rfl,k⟩
 exact ⟨rfl,h.put hb k ⟨rfl,rfl,rfl,rfl,rfl,rfl,rfl⟩ ⟨rfl,rfl⟩ (by have:=h.nk;omega)⟩
theorem prg_mark_no(h:PrgAt arm room croom K w p q R t)(hb:t.busy=false):Calls Tryz.prog 35 #[.pointer (some ⟨p,0,none⟩)] w (POk arm room croom K p q R w (.tuple #[.int .i64 0,.int .i64 6]) t):=by
 obtain ⟨x,P,C,d,s,n,enc,ms,h⟩:=h
 refine (mark_state p x w h.live.tx.core.hd (h.busy.trans hb)).mono ?_
 rintro e w' ⟨rfl,hb1⟩
 exact ⟨rfl,h.later hb1⟩
theorem prg_mark_yes(h:PrgAt arm room croom K w p q R t)(hb:t.busy=true)(hT:TB K t)(hK:K≤100):Calls Tryz.prog 35 #[.pointer (some ⟨p,0,none⟩)] w (POk arm room croom K p q R w (.tuple #[.int .i64 ((t.last+1:Nat):Int),.int .i64 0]) t.mark):=by
 obtain ⟨x,P,C,d,s,n,enc,ms,h⟩:=h
 obtain ⟨h1,h2⟩:=h.mb hb
 have hl:ms.length=t.marks.length:=by rw [←h1,List.length_map]
 refine (mark_yes p x P C d s t.sure n t.pages t.ch enc ms w h.live (h.busy.trans hb) (by have:=hT.lm;omega) (by have:=hT.la;omega)).mono ?_
 rintro e w' ⟨rfl,mo,mc,m3,k⟩
 refine ⟨by rw [h2],h.to (t':=t.mark) k rfl rfl rfl rfl (h.busy) h.com (fun _=>⟨?_,?_⟩) (fun e=>by have e':t.busy=false:=e;rw [hb]at e';cases e') h.sure h.env (by omega) (by omega) (by have:=h.nk;omega) (fun k hk=>?_)⟩
 ·rw [List.map_append,h1,RS.pages_busy hb,RS.ch_busy hb,h2];rfl
 ·show x.last+1=t.last+1;rw [h2]
 ·rcases List.mem_append.1 hk with hk |hk
  ·have:=h.nm k hk;omega
  ·rw [List.mem_singleton.1 hk];have:=h.nk;show n≤_;omega
theorem prg_undo_no(z:Int)(h:PrgAt arm room croom K w p q R t)(hb:t.busy=false):Calls Tryz.prog 38 #[.pointer (some ⟨p,0,none⟩),.int .i64 z] w (POk arm room croom K p q R w (.int .i64 6) t):=by
 obtain ⟨x,P,C,d,s,n,enc,ms,h⟩:=h
 refine (undo_state p x z w h.live.tx.core.hd (h.busy.trans hb)).mono ?_
 rintro e w' ⟨rfl,hb1⟩
 exact ⟨rfl,h.later hb1⟩
theorem prg_undo_none(z:Int)(h:PrgAt arm room croom K w p q R t)(hb:t.busy=true)(hT:TB K t)(hK:K≤100)(hz:∀ m∈t.marks,(m.id:Int)≠z):Calls Tryz.prog 38 #[.pointer (some ⟨p,0,none⟩),.int .i64 z] w (POk arm room croom K p q R w (.int .i64 5) t):=by
 obtain ⟨x,P,C,d,s,n,enc,ms,h⟩:=h
 obtain ⟨h1,h2⟩:=h.mb hb
 have hl:ms.length=t.marks.length:=by rw [←h1,List.length_map]
 refine (undo_none p x P C d s t.sure n t.pages t.ch enc ms z w h.live (h.busy.trans hb) (by have:=hT.lm;omega) (by have:=hT.la;omega) (fun k hk=>hz (mkR k) (by rw [←h1];exact List.mem_map_of_mem hk))).mono ?_
 rintro e w' ⟨rfl,hb1⟩
 exact ⟨rfl,h.later hb1⟩
theorem prg_undo_yes(z:Int)(j:Nat)(h:PrgAt arm room croom K w p q R t)(hb:t.busy=true)(hT:TB K t)(hK:K≤100)(hj:j<t.marks.length)(hz:((t.marks.getD j ⟨0,[],[]⟩).id:Int)=z):Calls Tryz.prog 38 #[.pointer (some ⟨p,0,none⟩),.int .i64 z] w (POk arm room croom K p q R w (.int .i64 0) (t.undo j)):=by
 obtain ⟨x,P,C,d,s,n,enc,ms,h⟩:=h
 obtain ⟨h1,h2⟩:=h.mb hb
 have hl:ms.length=t.marks.length:=by rw [←h1,List.length_map]
 have hjm:j<ms.length:=by omega
 have e1:t.marks.getD j ⟨0,[],[]⟩=mkR ms[j]:=by
  rw [←h1,List.getD,List.getElem?_map,List.getElem?_eq_getElem hjm];rfl
 rw [e1]at hz
 refine (undo_yes p x P C d s t.sure n t.pages t.ch enc ms z w h.live (h.busy.trans hb) (by have:=hT.lm;omega) (by have:=hT.la;omega) j ms[j] (List.getElem?_eq_getElem hjm) hz).mono ?_
 rintro e w' ⟨rfl,m3,k⟩
 have hb':(t.undo j).busy=true:=hb
 refine ⟨rfl,h.to (t':=t.undo j) k rfl ?_ ?_ rfl h.busy h.com (fun _=>⟨?_,h2⟩) (fun e=>by have e':t.busy=false:=e;rw [hb]at e';cases e') h.sure h.env (by omega) (by omega) (by have:=h.nm _ (List.getElem_mem hjm);omega) (fun k hk=>by have:=h.nm k (List.mem_of_mem_take hk);omega)⟩
 ·rw [RS.pages_busy hb'];show _=(t.marks.getD j ⟨0,[],[]⟩).l;rw [e1];rfl
 ·rw [RS.ch_busy hb'];show _=(t.marks.getD j ⟨0,[],[]⟩).c;rw [e1];rfl
 ·show _=t.marks.take (j+1);rw [←h1,List.map_take]
theorem prg_get_range(z:Int)(h:PrgAt arm room croom K w p q R t)(hz:(decide (1≤z)&&decide (z≤(t.pages.length:Int)))=false):Calls Tryz.prog 34 #[.pointer (some ⟨p,0,none⟩),.int .i64 z] w (POk arm room croom K p q R w (.tuple #[.slice none 0 0,.int .i64 11]) t):=by
 obtain ⟨x,P,C,d,s,n,enc,ms,h⟩:=h
 refine (get_range p x z w h.live.tx.core.hd (by rw [h.live.tx.np];exact hz)).mono ?_
 rintro e w' ⟨rfl,hb1⟩
 exact ⟨rfl,h.later hb1⟩
theorem prg_get_yes(i:Nat)(h:PrgAt arm room croom K w p q R t)(hi:i<t.pages.length)(hK:K≤800):Calls Tryz.prog 34 #[.pointer (some ⟨p,0,none⟩),.int .i64 ((i+1:Nat):Int)] w fun e w'=>∃ a cap,Rd w' (some a) 512 cap (t.pages.getD i [])∧w.heap.size≤a.block∧a.block<w'.heap.size∧POk arm room croom K p q R w (.tuple #[.slice (some a) 512 cap,.int .i64 0]) t e w':=by
 obtain ⟨x,P,C,d,s,n,enc,ms,h⟩:=h
 refine (get_yes p i x P C d s t.sure n t.pages t.ch enc w h.live.tx hi (by rw [h.sure.f0];rfl) h.env.on (by have:=h.hm;have:K*1000≤800*1000:=Nat.mul_le_mul_right _ hK;omega)).mono ?_
 rintro e w' ⟨a,cap,rfl,hr,ha,⟨C',s',hT,hO,hM,hs,hrm⟩,hf⟩
 exact ⟨a,cap,hr,ha,hO.1,rfl,h.to (t':=t) (h.live.moved hT hM hf hs hrm) rfl rfl rfl rfl h.busy h.com h.mb h.mr h.sure h.env (by omega) (by omega) (by have:=h.nk;omega) (fun k hk=>by have:=h.nm k hk;omega)⟩
end
end
section
open Go.RowKit Go.Maps
open Dsk (gt hid undrew keep_old keep_cell lt_cell Rd DS FS Sec DiskP DFrame Grew From op_at idx dirtD was secD sureF sureF_ok crashD)
open Cch (CS CP Fr)
variable {T:Nat}
theorem rising_length:∀ (l:List Nat) (a:Nat),l.Pairwise (· < ·)→(∀ z∈l,a<z∧z≤T)→l.length≤T - a
 | [],_,_,_=>Nat.zero_le _
 | b::r,a,hp,h=>by
  have h1:=h b List.mem_cons_self
  have h2:=rising_length r b (List.pairwise_cons.1 hp).2 (fun z hz=>⟨(List.pairwise_cons.1 hp).1 z hz,(h z (List.mem_cons_of_mem _ hz)).2⟩)
  simp only [List.length_cons];omega
variable {c:List Bool}
theorem jL_sure{np:Nat}(h:c.length≤np):jL c np T≤T:=
 rising_length _ 0 (pastL_rising h) (fun z hz=>⟨by have:=(pastL_mem hz).1;omega,(pastL_mem hz).2⟩)
theorem ops_store(d:DS)(A B:List Pg)(c:List Bool)(np:Nat):(storeD d A B c np).2.ops≤d.ops+(11+(chL c).length+jL c np A.length):=by
 unfold storeD
 have h1:=(ops_first (recL (jL c np A.length) A.length d.ops (jP c np A.length) (jD A c np A.length)) d).1
 have e1:(recL (jL c np A.length) A.length d.ops (jP c np A.length) (jD A c np A.length)).length=4:=rfl
 rw [e1]at h1
 obtain ⟨r1,hr1⟩:∃ r1,firstD (recL (jL c np A.length) A.length d.ops (jP c np A.length) (jD A c np A.length)) d=r1:=⟨_,rfl⟩
 rw [hr1]at h1 ⊢
 simp only
 split
 ·have h2:=(ops_first (writtenL B (chL c) np) r1.2).1
  have e2:(writtenL B (chL c) np).length=(chL c).length+3:=by unfold writtenL;rw [List.length_append,wrL_length _ _ (Nat.le_refl _)];rfl
  rw [e2]at h2
  obtain ⟨r2,hr2⟩:∃ r2,firstD (writtenL B (chL c) np) r1.2=r2:=⟨_,rfl⟩
  rw [hr2]at h2 ⊢
  split
  ·show r2.2.ops≤_;omega
  ·have h3:=ops_undone r2.1 (replayL (A.length:Int) (jP c np A.length) (jD A c np A.length) (jL c np A.length)) r2.2
   have e3:(replayL (A.length:Int) (jP c np A.length) (jD A c np A.length) (jL c np A.length)).length=jL c np A.length+3:=by unfold replayL;rw [List.length_append,backL_length];rfl
   rw [e3]at h3
   omega
 ·have h3:=ops_undone r1.1 [.ct 1 0] r1.2
  have e3:([.ct 1 0]:List Stp).length=1:=rfl
  rw [e3]at h3
  omega
variable {A:List Pg}
theorem secsOf_128(hA:Whole A):∀ x∈secsOf A,x.length=128:=fun x hx=>by
 obtain ⟨b,hb,hx⟩:=List.mem_flatMap.1 hx
 obtain ⟨i,hi,e⟩:=List.mem_iff_getElem.1 hb
 refine chunks_each 4 b ?_ x hx
 have:=(hA i hi).1
 rw [List.getD,List.getElem?_eq_getElem hi]at this
 rw [←e];exact this
theorem store_any{arm tight:Prop}{room:Nat}{B:List Pg}{M:Nat}{d:DS}(hA:Whole A)(hB:Whole B)(he:Env arm room d)(hs:Sured d A)(hc:c.length=B.length)(hMA:A.length≤M)(hMB:B.length≤M)
  (hsm:∀ i,i<B.length→c.getD i false=false→i<A.length∧B.getD i []=A.getD i []) (ht:tight∨M*9+1≤room) :
  Res (fun d'=>Env arm room d'∧Sured d' B) (RDead arm room A (KB A B) M (1+5*M) (fun i=>i+1∈pastL c B.length A.length) (jS A c B.length d.ops)) (fun d'=>tight∧Env arm room d'∧Sured d' A) (storeD d A B c B.length):=by
 have hL:jL c B.length A.length≤A.length:=jL_sure (by omega)
 have hD:∀ j,j<jL c B.length A.length→(jD A c B.length A.length j).length=512∧∀ b∈jD A c B.length A.length j,b<256:=fun j hj=>by
  have hm:=pastL_mem (c:=c) (np:=B.length) (T:=A.length) (z:=(pastL c B.length A.length).getD j 0) (by
   have:j<(pastL c B.length A.length).length:=hj
   rw [List.getD,List.getElem?_eq_getElem this];exact List.getElem_mem this)
  exact hA _ (by omega)
 refine store_res hA hB he hs hc hMA hMB hsm (sureF_ok (fun x hx=>?_)) ?_ (fun wh=>Jrn.headN_bytes _ _ _ _) (Jrn.recsN_bytes _ _ _ _ 0 (fun j hj=>(hD j (by omega)).2)) (by omega) (by rcases ht with h |h;exact Or.inl h;right;omega)
 ·exact secsOf_128 hA x hx
 ·rw [Jrn.recsN_length _ 0 (fun j _ hj=>(hD j (by omega)).1)];omega
section
variable {arm:Prop} {room croom K:Nat} {p q:Nat} {R:Nat→Prop} {t:RS} {w:World}
theorem prg_commit_no(h:PrgAt arm room croom K w p q R t)(hb:t.busy=false):Calls Tryz.prog 27 #[.pointer (some ⟨p,0,none⟩)] w (POk arm room croom K p q R w (.int .i64 6) t):=by
 obtain ⟨x,P,C,d,s,n,enc,ms,h⟩:=h
 refine (commit_state p x w h.live.tx.core.hd (h.busy.trans hb)).mono ?_
 rintro e w' ⟨rfl,hb1⟩
 exact ⟨rfl,h.later hb1⟩
end
end
section
open Go.RowKit Go.Maps
open Dsk (gt hid undrew keep_old keep_cell lt_cell Rd DS FS Sec DiskP DFrame Grew From op_at idx dirtD was secD sureF sureF_ok crashD)
open Cch (CS CP Fr)
def RS.aBegin(t:RS):Int×RS:=if t.busy then (6,t) else (0,t.begin)
def RS.aPut(t:RS)(z:Int)(l:Nat)(b:Pg):Int×RS:=if t.busy then if z<1∨(t.now.length:Int)<z then (11,t) else if l=512 then (0,t.put (z - 1).toNat b) else (2,t) else (6,t)
def RS.aGrow(t:RS):Int×Int×RS:=if t.busy then (((t.now.length+1:Nat):Int),0,t.grow) else (0,6,t)
def RS.aShrink(t:RS)(z:Int):Int×RS:=if t.busy then if z<0∨(t.now.length:Int)<z then (11,t) else (0,t.shrink z.toNat) else (6,t)
def RS.aMark(t:RS):Int×Int×RS:=if t.busy then (((t.last+1:Nat):Int),0,t.mark) else (0,6,t)
def RS.ix(t:RS)(z:Int):Nat:=t.marks.findIdx fun m=>decide ((m.id:Int)=z)
def RS.aUndo(t:RS)(z:Int):Int×RS:=if t.busy then if t.ix z<t.marks.length then (0,t.undo (t.ix z)) else (5,t) else (6,t)
def RS.aRoll(t:RS):Int×RS:=(if t.busy then 0 else 6,{ t with busy:=false })
def RS.aCommit(t:RS):Int×RS:=if t.busy then (0,t.commit) else (6,t)
variable {t:RS} {K:Nat}
theorem TB.up(h:TB K t):TB (K+1) t:=
 ⟨by have:=h.ls;omega,by have:=h.ln;omega,h.lc,fun m hm=>by have:=h.mks m hm;omega,by have:=h.lm;omega,by have:=h.la;omega,by have:=h.n;omega⟩
theorem TB.begin(h:TB K t):TB (K+1) t.aBegin.2:=by
 unfold RS.aBegin;split
 ·exact h.up
 ·exact ⟨by have:=h.ls;show t.sure.length≤_;omega,by have:=h.ls;show t.sure.length≤_;omega,List.length_replicate ..,(fun m hm=>by cases hm),Nat.zero_le _,Nat.zero_le _,by have:=h.n;show t.n≤_;omega⟩
theorem TB.put(h:TB K t)(z:Int)(l:Nat)(b:Pg):TB (K+1) (t.aPut z l b).2:=by
 have k:=h.up
 unfold RS.aPut;split
 ·split
  ·exact k
  ·split
   ·exact ⟨k.ls,by show (t.now.set _ _).length≤_;rw [List.length_set];exact k.ln,by show (t.c.set _ _).length=(t.now.set _ _).length;rw [List.length_set,List.length_set];exact k.lc,k.mks,k.lm,k.la,k.n⟩
   ·exact k
 ·exact k
theorem TB.grow(h:TB K t):TB (K+1) t.aGrow.2.2:=by
 have k:=h.up
 unfold RS.aGrow;split
 ·exact ⟨k.ls,by show (t.now++[zeros]).length≤_;rw [List.length_append];have:=h.ln;show t.now.length+1≤_;omega,by show (t.c++[true]).length=(t.now++[zeros]).length;rw [List.length_append,List.length_append];have:=h.lc;show t.c.length+1=t.now.length+1;omega,k.mks,k.lm,k.la,k.n⟩
 ·exact k
theorem TB.shrink(h:TB K t)(z:Int):TB (K+1) (t.aShrink z).2:=by
 have k:=h.up
 unfold RS.aShrink;split
 ·split
  ·exact k
  ·exact ⟨k.ls,by show (t.now.take _).length≤_;rw [List.length_take];have:=k.ln;omega,by show (t.c.take _).length=(t.now.take _).length;rw [List.length_take,List.length_take];have:=h.lc;omega,k.mks,k.lm,k.la,k.n⟩
 ·exact k
theorem TB.mark(h:TB K t):TB (K+1) t.aMark.2.2:=by
 have k:=h.up
 unfold RS.aMark;split
 ·refine ⟨k.ls,k.ln,k.lc,fun m hm=>?_,by show (t.marks++[_]).length≤_;rw [List.length_append];have:=h.lm;show t.marks.length+1≤_;omega,by show t.last+1≤_;have:=h.la;omega,k.n⟩
  rcases List.mem_append.1 hm with hm |hm
  ·exact k.mks m hm
  ·rw [List.mem_singleton.1 hm];exact ⟨k.ln,k.lc,by show t.last+1≤_;have:=h.la;omega⟩
 ·exact k
theorem TB.undo(h:TB K t)(z:Int):TB (K+1) (t.aUndo z).2:=by
 have k:=h.up
 unfold RS.aUndo;split
 ·split
  ·rename_i _ hi
   have hm:t.marks.getD (t.ix z) ⟨0,[],[]⟩∈t.marks:=by rw [List.getD,List.getElem?_eq_getElem hi];exact List.getElem_mem hi
   have h1:=k.mks _ hm
   exact ⟨k.ls,h1.1,h1.2.1,fun m hm=>k.mks m (List.mem_of_mem_take hm),by show (t.marks.take _).length≤_;rw [List.length_take];have:=k.lm;omega,k.la,k.n⟩
  ·exact k
 ·exact k
theorem TB.roll(h:TB K t):TB (K+1) t.aRoll.2:=by
 have k:=h.up
 exact ⟨k.ls,k.ln,k.lc,k.mks,k.lm,k.la,k.n⟩
theorem TB.commit(h:TB K t):TB (K+1) t.aCommit.2:=by
 have k:=h.up
 unfold RS.aCommit;split
 ·exact ⟨k.ln,k.ln,k.lc,k.mks,k.lm,k.la,by unfold RS.commit;simp only;have:=h.n;split<;>omega⟩
 ·exact k
variable {V:RV} {S:Nat→Prop} {r:Nat} {w:World}
theorem RTo.same(h:RefP w r S V t):RTo w w r S t:=⟨⟨S,V,h,fun _ hk=>Or.inl hk⟩,Fr.refl _ _⟩
variable {w':World}
theorem RTo.below(h:RefP w r S V t)(hb:Below w.heap.size w w'):RTo w w' r S t:=⟨⟨S,V,h.later hb,fun _ hk=>Or.inl hk⟩,fr_below hb⟩
theorem RTo.box{V':RV}{t':RS}(h:RefP w' r S V' t')(hf:Fr (fun b=>b=r) w w'):RTo w w' r S t':=⟨⟨S,V',h,fun _ hk=>Or.inl hk⟩,fr_imp hf (fun _ hb=>Or.inl hb)⟩
theorem rbegin_no(r:Nat)(S:Nat→Prop)(V:RV)(t:RS)(w:World)(h:RefP w r S V t)(hb:t.busy=true):Calls Tryz.prog 45 #[.pointer (some ⟨r,0,none⟩)] w fun e w'=>e=.returned (.int .i64 6)∧w'=w:=by
 obtain ⟨_,_,_,c3,_⟩:=h.cells
 rw [hb]at c3
 clear h
 go_enter Tryz.func45,Tryz.ntmps45
 go_wp2
 go_ret
 exact ⟨rfl,rfl⟩
def ROk(w:World)(r:Nat)(S:Nat→Prop)(v:Value)(t':RS)(e:Ending)(w':World):Prop:=e=.returned v∧RTo w w' r S t'
section
variable {w:World} {r:Nat} {S:Nat→Prop} {V:RV} {t:RS} {K:Nat}
theorem doc_begin(h:RefP w r S V t)(hT:TB K t)(hK:K≤100):Calls Tryz.prog 45 #[.pointer (some ⟨r,0,none⟩)] w (ROk w r S (.int .i64 t.aBegin.1) t.aBegin.2):=by
 unfold RS.aBegin
 cases hb:t.busy with
 | true=>
  refine (rbegin_no r S V t w h hb).mono ?_
  rintro e w' ⟨rfl,rfl⟩
  exact ⟨rfl,RTo.same h⟩
 | false=>
  refine (rbegin_yes r S V t w h hb (by have:=hT.ls;omega)).mono ?_
  rintro e w' ⟨rfl,S',V',h1,h2,h3⟩
  exact ⟨rfl,⟨⟨S',V',h1,h3⟩,h2⟩⟩
theorem doc_put(h:RefP w r S V t)(hT:TB K t)(hK:K≤100)(z:Int)(bo:Option Addr)(l bc:Nat)(b:Pg)(hr:Rd w bo l bc b):Calls Tryz.prog 46 #[.pointer (some ⟨r,0,none⟩),.int .i64 z,.slice bo l bc] w (ROk w r S (.int .i64 (t.aPut z l b).1) (t.aPut z l b).2):=by
 unfold RS.aPut
 cases hb:t.busy with
 | false=>
  refine (rput_no r S V t z bo l bc w h hb).mono ?_
  rintro e w' ⟨rfl,rfl⟩
  exact ⟨rfl,RTo.same h⟩
 | true=>
  rw [if_pos rfl]
  by_cases hz:z<1∨(t.now.length:Int)<z
  ·rw [if_pos hz]
   refine (rput_range r S V t z bo l bc w h hb hz).mono ?_
   rintro e w' ⟨rfl,rfl⟩
   exact ⟨rfl,RTo.same h⟩
  ·rw [if_neg hz]
   by_cases hl:l=512
   ·rw [if_pos hl]
    subst hl
    obtain ⟨i,hi⟩:∃ i:Nat,z=((i+1:Nat):Int):=⟨(z - 1).toNat,by omega⟩
    subst hi
    have hi:(((i+1:Nat):Int) - 1).toNat=i:=by omega
    rw [hi]
    refine (rput_yes r S V t i bo bc b w h hb (by omega) (by have:=hT.ln;omega) hr).mono ?_
    rintro e w' ⟨rfl,h1⟩
    exact ⟨rfl,h1⟩
   ·rw [if_neg hl]
    refine (rput_arg r S V t z bo l bc w h hb (by omega) (by omega) hl).mono ?_
    rintro e w' ⟨rfl,rfl⟩
    exact ⟨rfl,RTo.same h⟩
theorem doc_grow(h:RefP w r S V t)(hT:TB K t)(hK:K≤100):Calls Tryz.prog 47 #[.pointer (some ⟨r,0,none⟩)] w (ROk w r S (.tuple #[.int .i64 t.aGrow.1,.int .i64 t.aGrow.2.1]) t.aGrow.2.2):=by
 unfold RS.aGrow
 cases hb:t.busy with
 | false=>
  refine (rgrow_no r S V t w h hb).mono ?_
  rintro e w' ⟨rfl,rfl⟩
  exact ⟨rfl,RTo.same h⟩
 | true=>
  refine (rgrow_yes r S V t w h hb (by have:=hT.ln;omega)).mono ?_
  rintro e w' ⟨rfl,h1⟩
  exact ⟨rfl,h1⟩
theorem doc_shrink(h:RefP w r S V t)(hT:TB K t)(hK:K≤100)(z:Int):Calls Tryz.prog 48 #[.pointer (some ⟨r,0,none⟩),.int .i64 z] w (ROk w r S (.int .i64 (t.aShrink z).1) (t.aShrink z).2):=by
 unfold RS.aShrink
 cases hb:t.busy with
 | false=>
  refine (rshrink_no r S V t z w h hb).mono ?_
  rintro e w' ⟨rfl,rfl⟩
  exact ⟨rfl,RTo.same h⟩
 | true=>
  rw [if_pos rfl]
  by_cases hz:z<0∨(t.now.length:Int)<z
  ·rw [if_pos hz]
   refine (rshrink_range r S V t z w h hb hz).mono ?_
   rintro e w' ⟨rfl,rfl⟩
   exact ⟨rfl,RTo.same h⟩
  ·rw [if_neg hz]
   obtain ⟨n,hn⟩:∃ n:Nat,z=(n:Int):=⟨z.toNat,by omega⟩
   subst hn
   rw [Int.toNat_natCast]
   refine (rshrink_yes r S V t n w h hb (by omega) (by have:=hT.ln;omega)).mono ?_
   rintro e w' ⟨rfl,h1⟩
   exact ⟨rfl,h1⟩
theorem doc_mark(h:RefP w r S V t)(hT:TB K t)(hK:K≤100):Calls Tryz.prog 49 #[.pointer (some ⟨r,0,none⟩)] w (ROk w r S (.tuple #[.int .i64 t.aMark.1,.int .i64 t.aMark.2.1]) t.aMark.2.2):=by
 unfold RS.aMark
 cases hb:t.busy with
 | false=>
  refine (rmark_no r S V t w h hb).mono ?_
  rintro e w' ⟨rfl,rfl⟩
  exact ⟨rfl,RTo.same h⟩
 | true=>
  refine (rmark_yes r S V t w h hb (by have:=hT.ln;omega) (by have:=hT.lm;omega) (by have:=hT.la;omega)).mono ?_
  rintro e w' ⟨rfl,h1⟩
  exact ⟨rfl,h1⟩
theorem doc_undo(h:RefP w r S V t)(hT:TB K t)(hK:K≤100)(z:Int):Calls Tryz.prog 50 #[.pointer (some ⟨r,0,none⟩),.int .i64 z] w (ROk w r S (.int .i64 (t.aUndo z).1) (t.aUndo z).2):=by
 unfold RS.aUndo
 cases hb:t.busy with
 | false=>
  refine (rundo_no r S V t z w h hb).mono ?_
  rintro e w' ⟨rfl,rfl⟩
  exact ⟨rfl,RTo.same h⟩
 | true=>
  rw [if_pos rfl]
  refine (rundo_any r S V t z (t.ix z) w h hb List.findIdx_le_length (fun j m hj hm=>?_) (fun m hm=>?_) (by have:=hT.lm;omega) (fun m hm=>⟨(hT.mks m hm).2.1,by have:=(hT.mks m hm).1;omega⟩) (fun m hm=>by have:=(hT.mks m hm).2.2;omega)).mono ?_
  ·have hjl:j<t.marks.length:=(List.getElem?_eq_some_iff.1 hm).1
   have h1:=List.not_of_lt_findIdx (p:=fun m:RM=>decide ((m.id:Int)=z)) hj
   have h2:t.marks[j]=m:=(List.getElem?_eq_some_iff.1 hm).2
   rw [h2]at h1
   simpa using h1
  ·have hjl:t.ix z<t.marks.length:=(List.getElem?_eq_some_iff.1 hm).1
   have h1:=List.findIdx_getElem (p:=fun m:RM=>decide ((m.id:Int)=z)) (w:=hjl)
   have h2:t.marks[t.ix z]=m:=(List.getElem?_eq_some_iff.1 hm).2
   have h3:decide (((t.marks[t.ix z]).id:Int)=z)=true:=h1
   rw [h2]at h3
   simpa using h3
  ·rintro e w' ⟨h1,h2⟩
   split
   ·rename_i hi
    exact h1 hi
   ·rename_i hi
    have:t.ix z≤t.marks.length:=List.findIdx_le_length
    have h3:=h2 (by omega)
    exact ⟨h3.1,RTo.below h h3.2⟩
theorem doc_roll(h:RefP w r S V t):Calls Tryz.prog 51 #[.pointer (some ⟨r,0,none⟩)] w (ROk w r S (.int .i64 t.aRoll.1) t.aRoll.2):=by
 unfold RS.aRoll
 cases hb:t.busy with
 | false=>
  refine (rrollback_no r S V t w h hb).mono ?_
  rintro e w' ⟨rfl,rfl⟩
  have e:({ t with busy:=false }:RS)=t:=by cases t;simp at hb;subst hb;rfl
  simp only [e]
  exact ⟨rfl,RTo.same h⟩
 | true=>
  refine (rrollback_yes r S V t w h hb).mono ?_
  rintro e w' ⟨rfl,h1,h2⟩
  exact ⟨rfl,RTo.box h1 h2⟩
theorem doc_commit(h:RefP w r S V t)(hT:TB K t)(hK:K≤100):Calls Tryz.prog 28 #[.pointer (some ⟨r,0,none⟩)] w (ROk w r S (.int .i64 t.aCommit.1) t.aCommit.2):=by
 unfold RS.aCommit
 cases hb:t.busy with
 | false=>
  refine (rcommit_no r S V t w h hb).mono ?_
  rintro e w' ⟨rfl,rfl⟩
  exact ⟨rfl,RTo.same h⟩
 | true=>
  refine (rcommit_yes r S V t w h hb (by have:=hT.lc;have:=hT.ln;omega) (by have:=hT.n;omega)).mono ?_
  rintro e w' ⟨rfl,h1,h2⟩
  exact ⟨rfl,RTo.box h1 h2⟩
end
end
section
open Go.RowKit Go.Maps
open Dsk (gt hid undrew keep_old keep_cell lt_cell)
def Bad(w:World)(v:Value)(f:Int):Prop:=f≠0∧((v=.pointer none∧f=1)∨∃ p m g,v=.pointer (some ⟨p,0,none⟩)∧Fate w p m g∧f=if m then g else 1)
end
end Go.Proofs.YtadhdedjdgjboaaGreatDoor
