/- The program's pager against the document's state: what each call leaves; no statement of the seat is proved here. -/
import Derived.Test.YtgjgkpnjchflaaaGreatDoorS31
import Derived.Test.YtgjgkpnjchflaaaGreatDoorS32
set_option maxHeartbeats 16000000
set_option maxRecDepth 20000
namespace Go.Proofs.YtgjgkpnjchflaaaGreatDoor
section
open Go.RowKit Go.Maps
open Dsk (gt hid undrew keep_old keep_cell lt_cell Rd DS FS Sec DiskP DFrame Grew From op_at idx dirtD was secD sureF sureF_ok crashD)
open Cch (CS CP Fr)
def RS.ch(t:RS):List Bool:=if t.busy then t.c else List.replicate t.sure.length false
def mkR(k:MK):RM:=⟨k.id,k.now,k.c⟩
structure PA (arm:Prop) (room croom K:Nat) (w:World) (p q:Nat) (R:Nat→Prop) (t:RS) (x:PC) (P:Dsk.Parts) (C:Cch.Parts) (d:DS) (s:CS) (n:Nat) (enc:List Sec) (ms:List MK):Prop where
 live:Live w p x P C d s t.sure n t.pages t.ch enc ms
 q:x.q=q
 busy:x.busy=t.busy
 com:x.com=t.n
 mb:t.busy=true→ms.map mkR=t.marks∧x.last=t.last
 mr:t.busy=false→ms = []∧x.last=0
 off:∀ b,Sup p x P C enc ms b→¬R b
 sure:Sured d t.sure
 env:Env arm room d
 ops:d.ops≤K
 hm:s.hit+s.miss≤K
 rm:s.room=croom
 nk:n≤K
 nm:∀ k∈ms,k.n≤K
 rl:∀ b,R b→b<w.heap.size
def PrgAt(arm:Prop)(room croom K:Nat)(w:World)(p q:Nat)(R:Nat→Prop)(t:RS):Prop:=∃ x P C d s n enc ms,PA arm room croom K w p q R t x P C d s n enc ms
def Rok(R:Nat→Prop)(w w':World):Prop:=Fr (fun b=>¬R b∧b≠0) w w'
variable {w w':World} {R:Nat→Prop}
theorem Rok.at_(h:Rok R w w'){b:Nat}(hb:R b)(hl:b<w.heap.size):w'.heap[b]? = w.heap[b]?:=h.blk b hl (fun k=>k.1 hb)
variable {K:Nat}
theorem up1000{a b D:Nat}(h:a≤K)(hb:b≤a+D):b≤K+D:=by omega
variable {ms:List MK} {enc:List Sec} {n p q room croom:Nat} {s:CS} {d:DS} {x:PC} {t:RS} {arm:Prop}
theorem PA.later{P:Dsk.Parts}{C:Cch.Parts}(h:PA arm room croom K w p q R t x P C d s n enc ms)(hb:Below w.heap.size w w'):PrgAt arm room croom (K+1) w' p q R t∧Rok R w w':=
 ⟨⟨x,P,C,d,s,n,enc,ms,h.live.later hb,h.q,h.busy,h.com,h.mb,h.mr,h.off,h.sure,h.env,up1000 h.ops (by omega),up1000 h.hm (by omega),h.rm,by have:=h.nk;omega,fun k hk=>by have:=h.nm k hk;omega,fun b hb'=>Nat.lt_of_lt_of_le (h.rl b hb') hb.size⟩,fr_below hb⟩
theorem PA.toD(D:Nat){arm:Prop}{room croom K:Nat}{w w':World}{p q:Nat}{R:Nat→Prop}{t t':RS}{x x':PC}{P:Dsk.Parts}{C:Cch.Parts}{d d':DS}{s:CS}{n n' N:Nat}{enc:List Sec}{ms ms':List MK}{now':List Pg}{c':List Bool}{sure':List Pg}(h:PA arm room croom K w p q R t x P C d s n enc ms)(k:LTo w w' p x x' P C d d' s t.sure sure' N n' now' c' enc ms ms')
  (es:sure'=t'.sure) (en:now'=t'.pages) (ec:c'=t'.ch) (hq:x'.q=x.q) (hb:x'.busy=t'.busy) (hc:x'.com=t'.n) (hm:t'.busy=true→ms'.map mkR=t'.marks∧x'.last=t'.last) (hr:t'.busy=false→ms' = []∧x'.last=0) (hs:Sured d' t'.sure) (he:Env arm room d') (ho:d'.ops≤d.ops+D) (hN:N≤D) (hn:n'≤K+D) (hnm:∀ k∈ms',k.n≤K+D) :
  PrgAt arm room croom (K+D) w' p q R t'∧Rok R w w':=by
 obtain ⟨P',C',s',enc',h1,h2,h3,h4⟩:=k.is
 subst es;subst en;subst ec
 refine ⟨⟨x',P',C',d',s',n',enc',ms',h1,hq.trans h.q,hb,hc,hm,hr,fun b hb' hR=>?_,hs,he,up1000 h.ops ho,up1000 h.hm (by omega),h4.trans h.rm,hn,hnm,fun b hb'=>Nat.lt_of_lt_of_le (h.rl b hb') k.fr.size⟩,fr_imp k.fr (fun b hb'=>⟨fun hR=>h.off b hb'.sup hR,fun e=>h.live.own0 (e▸hb')⟩)⟩
 rcases h2 b hb' with h5 |h5
 ·exact h.off b h5 hR
 ·have:=h.rl b hR;omega
theorem PA.to{t':RS}{x':PC}{P:Dsk.Parts}{C:Cch.Parts}{d':DS}{n' N:Nat}{ms':List MK}{now':List Pg}{c':List Bool}{sure':List Pg}(h:PA arm room croom K w p q R t x P C d s n enc ms)(k:LTo w w' p x x' P C d d' s t.sure sure' N n' now' c' enc ms ms')
  (es:sure'=t'.sure) (en:now'=t'.pages) (ec:c'=t'.ch) (hq:x'.q=x.q) (hb:x'.busy=t'.busy) (hc:x'.com=t'.n) (hm:t'.busy=true→ms'.map mkR=t'.marks∧x'.last=t'.last) (hr:t'.busy=false→ms' = []∧x'.last=0) (hs:Sured d' t'.sure) (he:Env arm room d') (ho:d'.ops≤d.ops+1) (hN:N≤1) (hn:n'≤K+1) (hnm:∀ k∈ms',k.n≤K+1) :
  PrgAt arm room croom (K+1) w' p q R t'∧Rok R w w':=h.toD 1 k es en ec hq hb hc hm hr hs he ho hN hn hnm
theorem begin_live{P:Dsk.Parts}{C:Cch.Parts}{sure:List Pg}{now:List Pg}{c:List Bool}(h:Live w p x P C d s sure n now c enc ms)(hP:PgAt w' p { x with busy:=true })(hf:Fr (fun b=>b=p) w w'):LTo w w' p x { x with busy:=true } P C d d s sure sure 0 n now c enc ms ms:=by
 have hT:Tx w' p { x with busy:=true } P C d s sure n now c enc:=h.tx.reset hP ⟨rfl,rfl,rfl,rfl,rfl⟩ hf
 have ho:∀ b,Out w (NC p x P C) b→Out w' (NC p x P C) b:=fun b hb=>hb.later hf.size
 have hop:∀ b,Out w (NC p x P C) b→b≠p:=fun b hb e=>hb.2 (Or.inr (Or.inr e))
 have hmk:Mks w' p { x with busy:=true } P C sure ms:=h.mks.move ⟨rfl,rfl,rfl,rfl⟩ (fun k hk=>(h.mks.each k hk).2) ho (fun b hb=>⟨fun o v hc=>fr_cell hf hc (hop b hb),fun _=>hf.blk b hb.1 (hop b hb)⟩) (mv_ne h.mks.row h.tx.chg.map)
 exact ⟨⟨P,C,s,enc,⟨hT,hmk,h.sep,fun b o l cc hb=>ho b (h.eb b o l cc hb),fun k hk b o l cc hb=>ho b (h.ek k hk b o l cc hb)⟩,fun b hb=>Or.inl hb,by omega,rfl⟩,fr_imp hf (fun b hb=>Or.inl (Or.inr (Or.inr hb)))⟩
section
variable {arm:Prop} {room croom K:Nat} {p q:Nat} {R:Nat→Prop} {t:RS} {w:World}
def POk(arm:Prop)(room croom K:Nat)(p q:Nat)(R:Nat→Prop)(w:World)(v:Value)(t':RS)(e:Ending)(w':World):Prop:=e=.returned v∧PrgAt arm room croom (K+1) w' p q R t'∧Rok R w w'
theorem prg_begin(h:PrgAt arm room croom K w p q R t):Calls Tryz.prog 19 #[.pointer (some ⟨p,0,none⟩)] w (POk arm room croom K p q R w (.int .i64 (if t.busy then 6 else 0)) (if t.busy then t else t.begin)):=by
 obtain ⟨x,P,C,d,s,n,enc,ms,h⟩:=h
 cases hb:t.busy with
 | true=>
  refine (begin_state p x w h.live.tx.core.hd (h.busy.trans hb)).mono ?_
  rintro e w' ⟨rfl,hb1⟩
  exact ⟨rfl,h.later hb1⟩
 | false=>
  refine (begin_call p x w h.live.tx.core.hd (h.busy.trans hb)).mono ?_
  rintro e w' ⟨rfl,hP,hf⟩
  have e1:t.begin.pages=t.pages:=by unfold RS.pages RS.begin;rw [hb];rfl
  have e2:t.begin.ch=t.ch:=by unfold RS.ch RS.begin;rw [hb];rfl
  exact ⟨rfl,h.to (begin_live h.live hP hf) rfl e1.symm e2.symm rfl rfl h.com (fun _=>by rw [(h.mr hb).1];exact ⟨rfl,(h.mr hb).2⟩) (fun e=>by cases e) h.sure h.env (by omega) (by omega) (by have:=h.nk;omega) (fun k hk=>by have:=h.nm k hk;omega)⟩
end
end
section
open Go.RowKit Go.Maps
open Dsk (gt hid undrew keep_old keep_cell lt_cell Rd DS FS Sec DiskP DFrame Grew From op_at idx dirtD was secD sureF sureF_ok crashD)
open Cch (CS CP Fr)
theorem Live.moved{w w':World}{p:Nat}{x:PC}{P P':Dsk.Parts}{C C':Cch.Parts}{d d':DS}{s s':CS}{sure:List Pg}{n N:Nat}{now:List Pg}{c:List Bool}{enc:List Sec}{ms:List MK}(h:Live w p x P C d s sure n now c enc ms)(hT:Tx w' p x P' C' d' s' sure n now c enc)(hM:More p x P P' C C' w)(hf:Fr (NC p x P C) w w')(hs:s'.hit+s'.miss≤s.hit+s.miss+N)(hr:s'.room=s.room) :
  LTo w w' p x x P C d d' s sure sure N n now c enc ms ms:=by
 have ho:∀ b,Out w (NC p x P C) b→Out w' (NC p x P' C') b:=fun b hb=>hM.out hf.size hb
 refine ⟨⟨P',C',s',enc,⟨hT,h.mks.move ⟨rfl,rfl,rfl,rfl⟩ (fun k hk=>(h.mks.each k hk).2) ho (fun b hb=>⟨fun o v hc=>fr_cell hf hc hb.2,fun _=>hf.blk b hb.1 hb.2⟩) (mv_ne h.mks.row h.tx.chg.map),h.sep,fun b o l cc hb=>ho b (h.eb b o l cc hb),fun k hk b o l cc hb=>ho b (h.ek k hk b o l cc hb)⟩,fun b hb=>?_,hs,hr⟩,fr_imp hf (fun b hb=>Or.inl hb)⟩
 rcases hb with hb |hb
 ·rcases hM b hb with h1 |h1
  ·exact Or.inl (Or.inl h1)
  ·exact Or.inr h1
 ·exact Or.inl (Or.inr hb)
variable {t:RS}
theorem RS.pages_busy(hb:t.busy=true):t.pages=t.now:=by unfold RS.pages;rw [if_pos hb]
theorem RS.ch_busy(hb:t.busy=true):t.ch=t.c:=by unfold RS.ch;rw [if_pos hb]
section
variable {arm:Prop} {room croom K:Nat} {p q:Nat} {R:Nat→Prop} {t:RS} {w:World}
variable {ms:List MK} {enc:List Sec} {n:Nat} {s:CS} {d:DS} {x:PC}
theorem PA.put{w':World}{x':PC}{P:Dsk.Parts}{C:Cch.Parts}{n':Nat}{now':List Pg}{c':List Bool}(h:PA arm room croom K w p q R t x P C d s n enc ms)(hb:t.busy=true)(k:PutE w w' p x x' P C d s t.sure n' now' c' enc)(hx:x'.q=x.q∧x'.k=x.k∧x'.m=x.m∧x'.mo=x.mo∧x'.ml=x.ml∧x'.mc=x.mc∧x'.last=x.last)(hx2:x'.busy=x.busy∧x'.com=x.com)(hn:n'≤K+1) :
  PrgAt arm room croom (K+1) w' p q R { t with now:=now',c:=c' }∧Rok R w w':=
 h.to (t':={ t with now:=now',c:=c' }) (h.live.put hx k) rfl (RS.pages_busy (t:={ t with now:=now',c:=c' }) hb).symm (RS.ch_busy (t:={ t with now:=now',c:=c' }) hb).symm hx.1 (hx2.1.trans h.busy) (hx2.2.trans h.com) (fun e=>⟨(h.mb e).1,hx.2.2.2.2.2.2.trans (h.mb e).2⟩) (fun e=>by have e':t.busy=false:=e;rw [hb]at e';cases e') h.sure h.env (by omega) (by omega) hn (fun k hk=>by have:=h.nm k hk;omega)
theorem PA.tx{P:Dsk.Parts}{C:Cch.Parts}(h:PA arm room croom K w p q R t x P C d s n enc ms)(hb:t.busy=true):Tx w p x P C d s t.sure n t.now t.c enc:=by
 have:=h.live.tx
 rw [RS.pages_busy hb,RS.ch_busy hb]at this
 exact this
theorem prg_grow_yes(h:PrgAt arm room croom K w p q R t)(hb:t.busy=true)(hn4:t.now.length<4000)(hK:K≤500000):Calls Tryz.prog 35 #[.pointer (some ⟨p,0,none⟩)] w (POk arm room croom K p q R w (.tuple #[.int .i64 ((t.now.length+1:Nat):Int),.int .i64 0]) t.grow):=by
 obtain ⟨x,P,C,d,s,n,enc,ms,h⟩:=h
 refine (grow_calle p x P C d s t.sure n t.now t.c enc w (h.tx hb) (h.busy.trans hb) hn4 (by have:=h.nk;omega)).mono ?_
 rintro e w' ⟨rfl,k⟩
 exact ⟨rfl,h.put hb k ⟨rfl,rfl,rfl,rfl,rfl,rfl,rfl⟩ ⟨rfl,rfl⟩ (by have:=h.nk;omega)⟩
theorem prg_shrink_yes(m:Nat)(h:PrgAt arm room croom K w p q R t)(hb:t.busy=true)(hm:m≤t.now.length):Calls Tryz.prog 61 #[.pointer (some ⟨p,0,none⟩),.int .i64 (m:Int)] w (POk arm room croom K p q R w (.int .i64 0) (t.shrink m)):=by
 obtain ⟨x,P,C,d,s,n,enc,ms,h⟩:=h
 refine (shrink_yes p m x P C d s t.sure n t.now t.c enc w (h.tx hb) (h.busy.trans hb) hm).mono ?_
 rintro e w' ⟨rfl,k⟩
 exact ⟨rfl,h.put hb k ⟨rfl,rfl,rfl,rfl,rfl,rfl,rfl⟩ ⟨rfl,rfl⟩ (by have:=h.nk;omega)⟩
theorem prg_put_yes(i sb so cap:Nat)(b:Pg)(h:PrgAt arm room croom K w p q R t)(hb:t.busy=true)(hi:i<t.now.length)(hK:K≤500000)(hr:Rd w (some ⟨sb,so,none⟩) 512 cap b)(hbb:∀ y∈b,y<256):Calls Tryz.prog 86 #[.pointer (some ⟨p,0,none⟩),.int .i64 ((i+1:Nat):Int),.slice (some ⟨sb,so,none⟩) 512 cap] w (POk arm room croom K p q R w (.int .i64 0) (t.put i b)):=by
 obtain ⟨x,P,C,d,s,n,enc,ms,h⟩:=h
 refine (put_pagee p (i+1) sb so cap b x P C d s t.sure n t.now t.c enc w (h.tx hb) (h.busy.trans hb) (by omega) (by omega) (by have:=h.nk;omega) hr hbb).mono ?_
 rintro e w' ⟨rfl,k⟩
 exact ⟨rfl,h.put hb k ⟨rfl,rfl,rfl,rfl,rfl,rfl,rfl⟩ ⟨rfl,rfl⟩ (by have:=h.nk;omega)⟩
end
end
section
open Go.RowKit Go.Maps
open Dsk (gt hid undrew keep_old keep_cell lt_cell Rd DS FS Sec DiskP DFrame Grew From op_at idx dirtD was secD sureF sureF_ok crashD)
open Cch (CS CP Fr)
variable {T:Nat}
theorem rising_length:∀ (l:List Nat) (a:Nat),l.Pairwise (· < ·)→(∀ z∈l,a<z∧z≤T)→l.length≤T - a
 | [],_,_,_=>Nat.zero_le _
 | b::r,a,hp,h=>by
  have h1:=h b List.mem_cons_self
  have h2:=rising_length r b (List.pairwise_cons.1 hp).2 (fun z hz=>⟨(List.pairwise_cons.1 hp).1 z hz,(h z (List.mem_cons_of_mem _ hz)).2⟩)
  simp only [List.length_cons];omega
variable {c:List Bool}
theorem jL_sure{np:Nat}(h:c.length≤np):jL c np T≤T:=
 rising_length _ 0 (pastL_rising h) (fun z hz=>⟨by have:=(pastL_mem hz).1;omega,(pastL_mem hz).2⟩)
theorem ops_store(d:DS)(A B:List Pg)(c:List Bool)(np:Nat):(storeD d A B c np).2.ops≤d.ops+(11+(chL c).length+jL c np A.length):=by
 unfold storeD
 have h1:=(ops_first (recL (jL c np A.length) A.length d.ops (jP c np A.length) (jD A c np A.length)) d).1
 have e1:(recL (jL c np A.length) A.length d.ops (jP c np A.length) (jD A c np A.length)).length=4:=rfl
 rw [e1]at h1
 obtain ⟨r1,hr1⟩:∃ r1,firstD (recL (jL c np A.length) A.length d.ops (jP c np A.length) (jD A c np A.length)) d=r1:=⟨_,rfl⟩
 rw [hr1]at h1 ⊢
 simp only
 split
 ·have h2:=(ops_first (writtenL B (chL c) np) r1.2).1
  have e2:(writtenL B (chL c) np).length=(chL c).length+3:=by unfold writtenL;rw [List.length_append,wrL_length _ _ (Nat.le_refl _)];rfl
  rw [e2]at h2
  obtain ⟨r2,hr2⟩:∃ r2,firstD (writtenL B (chL c) np) r1.2=r2:=⟨_,rfl⟩
  rw [hr2]at h2 ⊢
  split
  ·show r2.2.ops≤_;omega
  ·have h3:=ops_undone r2.1 (replayL (A.length:Int) (jP c np A.length) (jD A c np A.length) (jL c np A.length)) r2.2
   have e3:(replayL (A.length:Int) (jP c np A.length) (jD A c np A.length) (jL c np A.length)).length=jL c np A.length+3:=by unfold replayL;rw [List.length_append,backL_length];rfl
   rw [e3]at h3
   omega
 ·have h3:=ops_undone r1.1 [.ct 1 0] r1.2
  have e3:([.ct 1 0]:List Stp).length=1:=rfl
  rw [e3]at h3
  omega
variable {A:List Pg}
theorem secsOf_128(hA:Whole A):∀ x∈secsOf A,x.length=128:=fun x hx=>by
 obtain ⟨b,hb,hx⟩:=List.mem_flatMap.1 hx
 obtain ⟨i,hi,e⟩:=List.mem_iff_getElem.1 hb
 refine chunks_each 4 b ?_ x hx
 have:=(hA i hi).1
 rw [List.getD,List.getElem?_eq_getElem hi]at this
 rw [←e];exact this
theorem store_any{arm tight:Prop}{room:Nat}{B:List Pg}{M:Nat}{d:DS}(hA:Whole A)(hB:Whole B)(he:Env arm room d)(hs:Sured d A)(hc:c.length=B.length)(hMA:A.length≤M)(hMB:B.length≤M)
  (hsm:∀ i,i<B.length→c.getD i false=false→i<A.length∧B.getD i []=A.getD i []) (ht:tight∨M*9+1≤room) :
  Res (fun d'=>Env arm room d'∧Sured d' B) (RDead arm room A (KB A B) M (1+5*M) (fun i=>i+1∈pastL c B.length A.length) (jS A c B.length d.ops)) (fun d'=>tight∧Env arm room d'∧Sured d' A) (storeD d A B c B.length):=by
 have hL:jL c B.length A.length≤A.length:=jL_sure (by omega)
 have hD:∀ j,j<jL c B.length A.length→(jD A c B.length A.length j).length=512∧∀ b∈jD A c B.length A.length j,b<256:=fun j hj=>by
  have hm:=pastL_mem (c:=c) (np:=B.length) (T:=A.length) (z:=(pastL c B.length A.length).getD j 0) (by
   have:j<(pastL c B.length A.length).length:=hj
   rw [List.getD,List.getElem?_eq_getElem this];exact List.getElem_mem this)
  exact hA _ (by omega)
 refine store_res hA hB he hs hc hMA hMB hsm (sureF_ok (fun x hx=>?_)) ?_ (fun wh=>Jrn.headN_bytes _ _ _ _) (Jrn.recsN_bytes _ _ _ _ 0 (fun j hj=>(hD j (by omega)).2)) (by omega) (by rcases ht with h |h;exact Or.inl h;right;omega)
 ·exact secsOf_128 hA x hx
 ·rw [Jrn.recsN_length _ 0 (fun j _ hj=>(hD j (by omega)).1)];omega
section
variable {arm:Prop} {room croom K:Nat} {p q:Nat} {R:Nat→Prop} {t:RS} {w:World}
theorem prg_commit_yes(h:PrgAt False 32768 croom K w p q R t)(hb:t.busy=true)(hsur:t.sure = []∧t.n=0)(hln:t.now.length≤1000)(hK:K≤500000):Calls Tryz.prog 22 #[.pointer (some ⟨p,0,none⟩)] w fun e w'=>e=.returned (.int .i64 0)∧PrgAt False 32768 croom (K+5000) w' p q R t.commit∧Rok R w w':=by
 obtain ⟨x,P,C,d,s,n,enc,ms,h⟩:=h
 have hx:=h.tx hb
 have hlc:=hx.chg.len
 have e6:t.commit.pages=t.now:=rfl
 have e7:t.commit.ch=List.replicate t.now.length false:=rfl
 cases hi:idle t.sure t.now t.c with
 | true=>
  refine (commit_idlee p x P C d s t.sure n t.now t.c enc w hx (h.busy.trans hb) hi).mono ?_
  rintro e w' ⟨rfl,m,hr,hf,hm⟩
  unfold idle at hi
  obtain ⟨i1,i2⟩:(chL t.c).length=0∧t.now.length=t.sure.length:=by simpa using hi
  have i3:chL t.c = []:=List.eq_nil_of_length_eq_zero i1
  have en:t.sure=t.now:=by
   rw [hsur.1]at i2 ⊢
   exact (List.eq_nil_of_length_eq_zero i2).symm
  have ec:t.commit.n=t.n:=by unfold RS.commit;simp only;rw [if_pos ⟨by rw [chK_all];exact i3,i2⟩]
  have k:LTo w w' p x (x.ended m) P C d d s t.sure t.sure 0 0 t.sure (List.replicate t.sure.length false) enc ms []:=rest_lto hr ⟨rfl,rfl,rfl⟩ ⟨rfl,rfl⟩ hm (More.refl _ _ _ _ _) (fr_imp hf (fun b hb=>Or.inr (Or.inr hb))) (by omega) rfl
  exact ⟨rfl,h.toD 5000 (t':=t.commit) k en (by rw [e6];exact en) (by rw [e7,en]) rfl rfl (h.com.trans ec.symm) (fun e=>by cases e) (fun _=>⟨rfl,rfl⟩) (by show Sured d t.now;rw [←en];exact h.sure) h.env (by omega) (by omega) (by omega) (fun k hk=>by cases hk)⟩
 | false=>
  have hs0:t.sure.length=0:=by rw [hsur.1];rfl
  have hL:jL t.c t.now.length t.sure.length≤t.sure.length:=jL_sure (by omega)
  have hS:=store_any (arm:=False) (tight:=False) (room:=32768) (M:=1000) hx.ws hx.wn h.env h.sure hlc (by omega) (by omega) hx.sm (Or.inr (by omega))
  have hO:=ops_store d t.sure t.now t.c t.now.length
  have hC:=chL_length t.c
  obtain ⟨S,hSe⟩:∃ S,storeD d t.sure t.now t.c t.now.length=S:=⟨_,rfl⟩
  rw [hSe]at hS hO
  cases hS with
  | dead d' h1=>exact h1.1.elim
  | full d' h1=>exact h1.1.elim
  | ok d' h1=>
   have hop:=h.ops
   have hhm:=h.hm
   refine (commit_oke p x P C d d' s t.sure n t.now t.c enc w hx (h.busy.trans hb) hi (by rw [h.sure.f0];rfl) (Or.inl h.env.on) (by omega) (by omega) (by omega) (by have:=h.com;have:=hsur.2;omega) hSe).mono ?_
   rintro e w' ⟨rfl,P',C',s',m,hr,hM,hf,hs,hrm,hm⟩
   have ec:t.commit.n=t.n+1:=by
    unfold RS.commit;simp only
    rw [if_neg]
    rintro ⟨a1,a2⟩
    unfold idle at hi
    rw [chK_all]at a1
    rw [a1,a2]at hi
    simp at hi
   have hpl:(pastL t.c x.np x.pages).length≤100:=by
    rw [hx.np,hx.pages];have:jL t.c t.now.length t.sure.length≤t.sure.length:=hL;unfold jL at *;omega
   have k:=rest_lto (x':={ x with pages:=t.now.length,com:=x.com+1 }.ended m) (x:=x) (N:=100) (enc:=enc) (ms:=ms) (d:=d) (sure:=t.sure) hr ⟨rfl,rfl,rfl⟩ ⟨rfl,rfl⟩ hm hM hf (by omega) hrm
   exact ⟨rfl,h.toD 5000 (t':=t.commit) k rfl e6.symm e7.symm rfl rfl (by rw [ec];show x.com+1=_;rw [h.com]) (fun e=>by cases e) (fun _=>⟨rfl,rfl⟩) h1.2 h1.1 (by simp only at hO;omega) (by omega) (by omega) (fun k hk=>by cases hk)⟩
end
end
end Go.Proofs.YtgjgkpnjchflaaaGreatDoor
