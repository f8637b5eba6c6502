/- The program's pager against the document's state: what each call leaves; no statement of the seat is proved here. -/
import Derived.Test.YtfcikkechphmaaaGreatDoorW37
import Derived.Test.YtfcikkechphmaaaGreatDoorW38
import Derived.Test.YtfcikkechphmaaaGreatDoorW34
set_option maxHeartbeats 16000000
set_option maxRecDepth 20000
namespace Go.Proofs.YtfcikkechphmaaaGreatDoor
section
open Go.RowKit Go.Maps
open Dsk (gt hid undrew keep_old keep_cell lt_cell Rd DS FS Sec DiskP DFrame Grew From op_at idx dirtD was secD sureF sureF_ok crashD)
open Cch (CS CP Fr)
def RS.ch(t:RS):List Bool:=if t.busy then t.c else List.replicate t.sure.length false
def mkR(k:MK):RM:=⟨k.id,k.now,k.c⟩
structure TB (K:Nat) (t:RS):Prop where
 ls:t.sure.length≤K
 ln:t.now.length≤K
 lc:t.c.length=t.now.length
 mks:∀ m∈t.marks,m.l.length≤K∧m.c.length=m.l.length∧m.id≤K
 lm:t.marks.length≤K
 la:t.last≤K
 n:t.n≤K
structure PA (arm:Prop) (room croom K:Nat) (w:World) (p q:Nat) (R:Nat→Prop) (t:RS) (x:PC) (P:Dsk.Parts) (C:Cch.Parts) (d:DS) (s:CS) (n:Nat) (enc:List Sec) (ms:List MK):Prop where
 live:Live w p x P C d s t.sure n t.pages t.ch enc ms
 q:x.q=q
 busy:x.busy=t.busy
 com:x.com=t.n
 mb:t.busy=true→ms.map mkR=t.marks∧x.last=t.last
 mr:t.busy=false→ms = []∧x.last=0
 off:∀ b,Sup p x P C enc ms b→¬R b
 sure:Sured d t.sure
 env:Env arm room d
 ops:d.ops≤K
 hm:s.hit+s.miss≤K
 rm:s.room=croom
 nk:n≤K
 nm:∀ k∈ms,k.n≤K
 rl:∀ b,R b→b<w.heap.size
def PrgAt(arm:Prop)(room croom K:Nat)(w:World)(p q:Nat)(R:Nat→Prop)(t:RS):Prop:=∃ x P C d s n enc ms,PA arm room croom K w p q R t x P C d s n enc ms
def Rok(R:Nat→Prop)(w w':World):Prop:=Fr (fun b=>¬R b∧b≠0) w w'
variable {w w':World} {R:Nat→Prop}
theorem Rok.at_(h:Rok R w w'){b:Nat}(hb:R b)(hl:b<w.heap.size):w'.heap[b]? = w.heap[b]?:=h.blk b hl (fun k=>k.1 hb)
variable {K:Nat}
theorem up1000{a b D:Nat}(h:a≤K)(hb:b≤a+D):b≤K+D:=by omega
variable {ms:List MK} {enc:List Sec} {n p q room croom:Nat} {s:CS} {d:DS} {x:PC} {t:RS} {arm:Prop}
theorem PA.later{P:Dsk.Parts}{C:Cch.Parts}(h:PA arm room croom K w p q R t x P C d s n enc ms)(hb:Below w.heap.size w w'):PrgAt arm room croom (K+1) w' p q R t∧Rok R w w':=
 ⟨⟨x,P,C,d,s,n,enc,ms,h.live.later hb,h.q,h.busy,h.com,h.mb,h.mr,h.off,h.sure,h.env,up1000 h.ops (by omega),up1000 h.hm (by omega),h.rm,by have:=h.nk;omega,fun k hk=>by have:=h.nm k hk;omega,fun b hb'=>Nat.lt_of_lt_of_le (h.rl b hb') hb.size⟩,fr_below hb⟩
theorem PA.toD(D:Nat){arm:Prop}{room croom K:Nat}{w w':World}{p q:Nat}{R:Nat→Prop}{t t':RS}{x x':PC}{P:Dsk.Parts}{C:Cch.Parts}{d d':DS}{s:CS}{n n' N:Nat}{enc:List Sec}{ms ms':List MK}{now':List Pg}{c':List Bool}{sure':List Pg}(h:PA arm room croom K w p q R t x P C d s n enc ms)(k:LTo w w' p x x' P C d d' s t.sure sure' N n' now' c' enc ms ms')
  (es:sure'=t'.sure) (en:now'=t'.pages) (ec:c'=t'.ch) (hq:x'.q=x.q) (hb:x'.busy=t'.busy) (hc:x'.com=t'.n) (hm:t'.busy=true→ms'.map mkR=t'.marks∧x'.last=t'.last) (hr:t'.busy=false→ms' = []∧x'.last=0) (hs:Sured d' t'.sure) (he:Env arm room d') (ho:d'.ops≤d.ops+D) (hN:N≤D) (hn:n'≤K+D) (hnm:∀ k∈ms',k.n≤K+D) :
  PrgAt arm room croom (K+D) w' p q R t'∧Rok R w w':=by
 obtain ⟨P',C',s',enc',h1,h2,h3,h4⟩:=k.is
 subst es;subst en;subst ec
 refine ⟨⟨x',P',C',d',s',n',enc',ms',h1,hq.trans h.q,hb,hc,hm,hr,fun b hb' hR=>?_,hs,he,up1000 h.ops ho,up1000 h.hm (by omega),h4.trans h.rm,hn,hnm,fun b hb'=>Nat.lt_of_lt_of_le (h.rl b hb') k.fr.size⟩,fr_imp k.fr (fun b hb'=>⟨fun hR=>h.off b hb'.sup hR,fun e=>h.live.own0 (e▸hb')⟩)⟩
 rcases h2 b hb' with h5 |h5
 ·exact h.off b h5 hR
 ·have:=h.rl b hR;omega
theorem PA.to{t':RS}{x':PC}{P:Dsk.Parts}{C:Cch.Parts}{d':DS}{n' N:Nat}{ms':List MK}{now':List Pg}{c':List Bool}{sure':List Pg}(h:PA arm room croom K w p q R t x P C d s n enc ms)(k:LTo w w' p x x' P C d d' s t.sure sure' N n' now' c' enc ms ms')
  (es:sure'=t'.sure) (en:now'=t'.pages) (ec:c'=t'.ch) (hq:x'.q=x.q) (hb:x'.busy=t'.busy) (hc:x'.com=t'.n) (hm:t'.busy=true→ms'.map mkR=t'.marks∧x'.last=t'.last) (hr:t'.busy=false→ms' = []∧x'.last=0) (hs:Sured d' t'.sure) (he:Env arm room d') (ho:d'.ops≤d.ops+1) (hN:N≤1) (hn:n'≤K+1) (hnm:∀ k∈ms',k.n≤K+1) :
  PrgAt arm room croom (K+1) w' p q R t'∧Rok R w w':=h.toD 1 k es en ec hq hb hc hm hr hs he ho hN hn hnm
theorem begin_live{P:Dsk.Parts}{C:Cch.Parts}{sure:List Pg}{now:List Pg}{c:List Bool}(h:Live w p x P C d s sure n now c enc ms)(hP:PgAt w' p { x with busy:=true })(hf:Fr (fun b=>b=p) w w'):LTo w w' p x { x with busy:=true } P C d d s sure sure 0 n now c enc ms ms:=by
 have hT:Tx w' p { x with busy:=true } P C d s sure n now c enc:=h.tx.reset hP ⟨rfl,rfl,rfl,rfl,rfl⟩ hf
 have ho:∀ b,Out w (NC p x P C) b→Out w' (NC p x P C) b:=fun b hb=>hb.later hf.size
 have hop:∀ b,Out w (NC p x P C) b→b≠p:=fun b hb e=>hb.2 (Or.inr (Or.inr e))
 have hmk:Mks w' p { x with busy:=true } P C sure ms:=h.mks.move ⟨rfl,rfl,rfl,rfl⟩ (fun k hk=>(h.mks.each k hk).2) ho (fun b hb=>⟨fun o v hc=>fr_cell hf hc (hop b hb),fun _=>hf.blk b hb.1 (hop b hb)⟩) (mv_ne h.mks.row h.tx.chg.map)
 exact ⟨⟨P,C,s,enc,⟨hT,hmk,h.sep,fun b o l cc hb=>ho b (h.eb b o l cc hb),fun k hk b o l cc hb=>ho b (h.ek k hk b o l cc hb)⟩,fun b hb=>Or.inl hb,by omega,rfl⟩,fr_imp hf (fun b hb=>Or.inl (Or.inr (Or.inr hb)))⟩
section
variable {arm:Prop} {room croom K:Nat} {p q:Nat} {R:Nat→Prop} {t:RS} {w:World}
def POk(arm:Prop)(room croom K:Nat)(p q:Nat)(R:Nat→Prop)(w:World)(v:Value)(t':RS)(e:Ending)(w':World):Prop:=e=.returned v∧PrgAt arm room croom (K+1) w' p q R t'∧Rok R w w'
theorem prg_begin(h:PrgAt arm room croom K w p q R t):Calls Tryz.prog 51 #[.pointer (some ⟨p,0,none⟩)] w (POk arm room croom K p q R w (.int .i64 (if t.busy then 6 else 0)) (if t.busy then t else t.begin)):=by
 obtain ⟨x,P,C,d,s,n,enc,ms,h⟩:=h
 cases hb:t.busy with
 | true=>
  refine (begin_state p x w h.live.tx.core.hd (h.busy.trans hb)).mono ?_
  rintro e w' ⟨rfl,hb1⟩
  exact ⟨rfl,h.later hb1⟩
 | false=>
  refine (begin_call p x w h.live.tx.core.hd (h.busy.trans hb)).mono ?_
  rintro e w' ⟨rfl,hP,hf⟩
  have e1:t.begin.pages=t.pages:=by unfold RS.pages RS.begin;rw [hb];rfl
  have e2:t.begin.ch=t.ch:=by unfold RS.ch RS.begin;rw [hb];rfl
  exact ⟨rfl,h.to (begin_live h.live hP hf) rfl e1.symm e2.symm rfl rfl h.com (fun _=>by rw [(h.mr hb).1];exact ⟨rfl,(h.mr hb).2⟩) (fun e=>by cases e) h.sure h.env (by omega) (by omega) (by have:=h.nk;omega) (fun k hk=>by have:=h.nm k hk;omega)⟩
end
end
section
open Go.RowKit Go.Maps
open Dsk (gt hid undrew keep_old keep_cell lt_cell Rd DS FS Sec DiskP DFrame Grew From op_at idx dirtD was secD sureF sureF_ok crashD)
open Cch (CS CP Fr)
theorem Live.moved{w w':World}{p:Nat}{x:PC}{P P':Dsk.Parts}{C C':Cch.Parts}{d d':DS}{s s':CS}{sure:List Pg}{n N:Nat}{now:List Pg}{c:List Bool}{enc:List Sec}{ms:List MK}(h:Live w p x P C d s sure n now c enc ms)(hT:Tx w' p x P' C' d' s' sure n now c enc)(hM:More p x P P' C C' w)(hf:Fr (NC p x P C) w w')(hs:s'.hit+s'.miss≤s.hit+s.miss+N)(hr:s'.room=s.room) :
  LTo w w' p x x P C d d' s sure sure N n now c enc ms ms:=by
 have ho:∀ b,Out w (NC p x P C) b→Out w' (NC p x P' C') b:=fun b hb=>hM.out hf.size hb
 refine ⟨⟨P',C',s',enc,⟨hT,h.mks.move ⟨rfl,rfl,rfl,rfl⟩ (fun k hk=>(h.mks.each k hk).2) ho (fun b hb=>⟨fun o v hc=>fr_cell hf hc hb.2,fun _=>hf.blk b hb.1 hb.2⟩) (mv_ne h.mks.row h.tx.chg.map),h.sep,fun b o l cc hb=>ho b (h.eb b o l cc hb),fun k hk b o l cc hb=>ho b (h.ek k hk b o l cc hb)⟩,fun b hb=>?_,hs,hr⟩,fr_imp hf (fun b hb=>Or.inl hb)⟩
 rcases hb with hb |hb
 ·rcases hM b hb with h1 |h1
  ·exact Or.inl (Or.inl h1)
  ·exact Or.inr h1
 ·exact Or.inl (Or.inr hb)
variable {t:RS}
theorem RS.pages_busy(hb:t.busy=true):t.pages=t.now:=by unfold RS.pages;rw [if_pos hb]
theorem RS.ch_busy(hb:t.busy=true):t.ch=t.c:=by unfold RS.ch;rw [if_pos hb]
section
variable {arm:Prop} {room croom K:Nat} {p q:Nat} {R:Nat→Prop} {t:RS} {w:World}
variable {ms:List MK} {enc:List Sec} {n:Nat} {s:CS} {d:DS} {x:PC}
theorem PA.put{w':World}{x':PC}{P:Dsk.Parts}{C:Cch.Parts}{n':Nat}{now':List Pg}{c':List Bool}(h:PA arm room croom K w p q R t x P C d s n enc ms)(hb:t.busy=true)(k:PutE w w' p x x' P C d s t.sure n' now' c' enc)(hx:x'.q=x.q∧x'.k=x.k∧x'.m=x.m∧x'.mo=x.mo∧x'.ml=x.ml∧x'.mc=x.mc∧x'.last=x.last)(hx2:x'.busy=x.busy∧x'.com=x.com)(hn:n'≤K+1) :
  PrgAt arm room croom (K+1) w' p q R { t with now:=now',c:=c' }∧Rok R w w':=
 h.to (t':={ t with now:=now',c:=c' }) (h.live.put hx k) rfl (RS.pages_busy (t:={ t with now:=now',c:=c' }) hb).symm (RS.ch_busy (t:={ t with now:=now',c:=c' }) hb).symm hx.1 (hx2.1.trans h.busy) (hx2.2.trans h.com) (fun e=>⟨(h.mb e).1,hx.2.2.2.2.2.2.trans (h.mb e).2⟩) (fun e=>by have e':t.busy=false:=e;rw [hb]at e';cases e') h.sure h.env (by omega) (by omega) hn (fun k hk=>by have:=h.nm k hk;omega)
theorem PA.tx{P:Dsk.Parts}{C:Cch.Parts}(h:PA arm room croom K w p q R t x P C d s n enc ms)(hb:t.busy=true):Tx w p x P C d s t.sure n t.now t.c enc:=by
 have:=h.live.tx
 rw [RS.pages_busy hb,RS.ch_busy hb]at this
 exact this
theorem prg_grow_yes(h:PrgAt arm room croom K w p q R t)(hb:t.busy=true)(hn4:t.now.length<4000)(hK:K≤500000):Calls Tryz.prog 108 #[.pointer (some ⟨p,0,none⟩)] w (POk arm room croom K p q R w (.tuple #[.int .i64 ((t.now.length+1:Nat):Int),.int .i64 0]) t.grow):=by
 obtain ⟨x,P,C,d,s,n,enc,ms,h⟩:=h
 refine (grow_calle p x P C d s t.sure n t.now t.c enc w (h.tx hb) (h.busy.trans hb) hn4 (by have:=h.nk;omega)).mono ?_
 rintro e w' ⟨rfl,k⟩
 exact ⟨rfl,h.put hb k ⟨rfl,rfl,rfl,rfl,rfl,rfl,rfl⟩ ⟨rfl,rfl⟩ (by have:=h.nk;omega)⟩
theorem prg_put_range(z:Int)(v:Value)(h:PrgAt arm room croom K w p q R t)(hb:t.busy=true)(hz:(decide (1≤z)&&decide (z≤(t.now.length:Int)))=false):Calls Tryz.prog 113 #[.pointer (some ⟨p,0,none⟩),.int .i64 z,v] w (POk arm room croom K p q R w (.int .i64 11) t):=by
 obtain ⟨x,P,C,d,s,n,enc,ms,h⟩:=h
 refine (put_range p x z v w h.live.tx.core.hd (h.busy.trans hb) (by rw [(h.tx hb).np];exact hz)).mono ?_
 rintro e w' ⟨rfl,hb1⟩
 exact ⟨rfl,h.later hb1⟩
theorem prg_put_yes(i sb so cap:Nat)(b:Pg)(h:PrgAt arm room croom K w p q R t)(hb:t.busy=true)(hi:i<t.now.length)(hK:K≤500000)(hr:Rd w (some ⟨sb,so,none⟩) 512 cap b)(hbb:∀ y∈b,y<256):Calls Tryz.prog 113 #[.pointer (some ⟨p,0,none⟩),.int .i64 ((i+1:Nat):Int),.slice (some ⟨sb,so,none⟩) 512 cap] w (POk arm room croom K p q R w (.int .i64 0) (t.put i b)):=by
 obtain ⟨x,P,C,d,s,n,enc,ms,h⟩:=h
 refine (put_pagee p (i+1) sb so cap b x P C d s t.sure n t.now t.c enc w (h.tx hb) (h.busy.trans hb) (by omega) (by omega) (by have:=h.nk;omega) hr hbb).mono ?_
 rintro e w' ⟨rfl,k⟩
 exact ⟨rfl,h.put hb k ⟨rfl,rfl,rfl,rfl,rfl,rfl,rfl⟩ ⟨rfl,rfl⟩ (by have:=h.nk;omega)⟩
end
end
section
open Go.RowKit Go.Maps
open Dsk (gt hid undrew keep_old keep_cell lt_cell)
end
end Go.Proofs.YtfcikkechphmaaaGreatDoor
