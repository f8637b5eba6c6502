/- Any act; what both pagers tell; how they begin, and opening again; no statement of the seat is proved here. -/
import Derived.Test.YtadhdedjdgjboaaGreatDoorH44
import Derived.Test.YtadhdedjdgjboaaGreatDoorH45
set_option maxHeartbeats 16000000
set_option maxRecDepth 20000
namespace Go.Proofs.YtadhdedjdgjboaaGreatDoor
section
open Go.RowKit Go.Maps
open Dsk (gt hid undrew keep_old keep_cell lt_cell Rd DS FS Sec DiskP DFrame Grew From op_at idx dirtD was secD sureF sureF_ok crashD newD)
open Cch (CS CP Fr)
structure Pv where
 k:Int
 n:Int
 s:Nat
 sh:Bool
def RS.did(t:RS)(a:Pv):RS:=
 if a.k=0 then t.aBegin.2 else if a.k=1 then (t.aPut a.n (bl a.sh) (bb a.s a.sh)).2 else if a.k=2 then t.aGrow.2.2 else if a.k=3 then (t.aShrink a.n).2 else if a.k=4 then t.aMark.2.2 else if a.k=5 then (t.aUndo a.n).2 else if a.k=6 then t.aRoll.2 else if a.k=7 then t.aCommit.2 else t
section
variable {arm:Prop} {room croom K:Nat} {p q:Nat} {R:Nat→Prop} {t:RS} {w w':World}
theorem prg_busy(h:PrgAt arm room croom K w p q R t):Calls Tryz.prog 14 #[.pointer (some ⟨p,0,none⟩)] w fun e w'=>e=.returned (.bool t.busy)∧Below w.heap.size w w':=by
 obtain ⟨x,P,C,d,s,n,enc,ms,h⟩:=h
 refine (busy_live p x w h.live.tx.core.hd).mono ?_
 rintro e w' ⟨rfl,hb⟩
 exact ⟨by rw [h.busy],hb⟩
def RS.chg(t:RS):List Nat:=chK t.c t.busy t.c.length
theorem chg_ch(t:RS):chL t.ch=t.chg:=by
 unfold RS.chg RS.ch
 cases t.busy with
 | true=>rw [if_pos rfl,chK_all]
 | false=>
  rw [chK_false,if_neg (by decide)]
  refine List.eq_nil_iff_forall_not_mem.2 (fun i hi=>?_)
  have h1:=(chL_mem hi).2.2
  rw [List.getD,List.getElem?_replicate]at h1
  split at h1<;>cases h1
theorem prg_changed(h:PrgAt arm room croom K w p q R t):Calls Tryz.prog 17 #[.pointer (some ⟨p,0,none⟩)] w fun e w'=>∃ ao cp,e=.returned (.slice ao t.chg.length cp)∧RdI w' ao t.chg.length t.chg∧t.chg.length≤cp∧Below w.heap.size w w':=by
 obtain ⟨x,P,C,d,s,n,enc,ms,h⟩:=h
 refine (changed_live p x P C d s t.sure n t.pages t.ch enc w h.live.tx).mono ?_
 rintro e w' ⟨v,rfl,ho,hb⟩
 rw [chg_ch]at ho
 obtain ⟨ao,cap,rfl,hno,hso⟩:=Cch.row_form (ownsRow_base_a ho (Nat.zero_le _))
 refine ⟨ao,cap,rfl,rdI_own ho,?_,hb⟩
 cases ao with
 | none=>have:=(hno rfl).1;omega
 | some a=>exact (hso a rfl).2.1
theorem doc_changed{r:Nat}{S:Nat→Prop}{V:RV}(h:RefP w r S V t)(hl:t.c.length≤4000):Calls Tryz.prog 18 #[.pointer (some ⟨r,0,none⟩)] w fun e w'=>∃ ao cp,e=.returned (.slice ao t.chg.length cp)∧RdI w' ao t.chg.length t.chg∧t.chg.length≤cp∧Below w.heap.size w w':=by
 refine (rchanged_any r S V t w h hl).mono ?_
 rintro e w' ⟨ao,cp,rfl,ho,hb⟩
 refine ⟨ao,cp,rfl,rdI_own ho,?_,hb⟩
 obtain ⟨ao',cap,e,hno,hso⟩:=Cch.row_form (ownsRow_base_a ho (Nat.zero_le _))
 simp only [Value.slice.injEq]at e
 obtain ⟨rfl,-,rfl⟩:=e
 cases ao with
 | none=>have:=(hno rfl).1;unfold RS.chg;omega
 | some a=>exact (hso a rfl).2.1
end
def rt0:RS:=⟨[],[],[],false,[],0,0⟩
def rv0:RV:=⟨.slice none 0 0,.slice none 0 0,.slice none 0 0,.slice none 0 0,[]⟩
def zeroRef:Obj:=.cells #[.slice none 0 0,.slice none 0 0,.slice none 0 0,.bool false,.slice none 0 0,.int .i64 0,.int .i64 0] 35
def Old(w:World):Nat→Prop:=fun b=>b<w.heap.size∧b≠0
variable {w w':World}
theorem old_below(h:Stay (Old w) w w'):Below w.heap.size w w':=⟨h.os,h.tape,h.output,h.size,fun k hk=>h.blk k hk (fun e=>e.1 ⟨hk,e.2⟩)⟩
theorem below_old(h:Below w.heap.size w w'):Stay (Old w) w w':=fr_below h
variable {x:PC} {p room croom:Nat}
theorem opened{arm:Prop}{K:Nat}{q:Nat}{P:Dsk.Parts}{d:DS}{l:List Pg}{R:Nat→Prop}(ho:OpenTo w w' q P d croom l p x)(hs:Sured d l)(he:Env arm room d)(hop:d.ops≤K*1000)(hR:∀ b,R b→b<w.heap.size∧¬DN q P b∧b≠0):PrgAt arm room croom K w' p q R ⟨l,[],[],false,[],0,0⟩:=by
 obtain ⟨P',C,s,hr,e1,e2,e3,hN⟩:=ho.is
 obtain ⟨m1,m2,m3,m4⟩:=ho.mks
 have hL:=hr.live ⟨m1,m2,m3⟩
 refine ⟨x,P',C,d,s,0,_,[],hL,ho.xq,ho.busy,ho.com,(fun e=>by cases e),(fun _=>⟨rfl,m4⟩),fun b hb hRb=>?_,hs,he,hop,by rw [e1,e2];exact Nat.zero_le _,e3,Nat.zero_le _,(fun k hk=>by cases hk),fun b hb=>Nat.lt_of_lt_of_le (hR b hb).1 ho.fr.size⟩
 have h1:=hR b hRb
 rcases hb with hb |hb |hb |hb | ⟨o,l,cc,hb⟩ | ⟨k,hk,_⟩
 ·rcases hN b hb with h2 |h2
  ·exact h1.2.1 h2
  ·omega
 ·have:=ho.mnew;omega
 ·exact h1.2.2 hb
 ·unfold PC.mv at hb;rw [m1]at hb;cases hb
 ·exact enc_nil _ _ o l cc hb
 ·cases hk
theorem both_new{w1 w2:World}{P:Dsk.Parts}(B1:Below w.heap.size w w1)(hP:∀ k,P.all k→w.heap.size<k)(ho:OpenTo w1 w2 w.heap.size P (newD room) croom [] p x) :
  Both False room croom 0 (w2.alloc zeroRef) p w.heap.size w2.heap.size (Old w) rt0∧Stay (Old w) w (w2.alloc zeroRef):=by
 have hdn:∀ b,b<w.heap.size→¬DN w.heap.size P b:=fun b hb hd=>by
  rcases hd with h1 |h1
  ·omega
  ·have:=hP b h1;omega
 have hs1:=B1.size
 have hs2:=ho.fr.size
 have hp:PrgAt False room croom 0 w2 p w.heap.size (Old w) rt0:=opened ho ⟨rfl,rfl⟩ ⟨rfl,fun _=>rfl,rfl,by show 0≤_;omega⟩ (Nat.zero_le _) (fun b hb=>⟨by have:=hb.1;omega,hdn b hb.1,hb.2⟩)
 have ba:Below w2.heap.size w2 (w2.alloc zeroRef):=(Below.refl _ _).alloc (Nat.le_refl _) _
 have bz:(w2.alloc zeroRef).heap.size=w2.heap.size+1:=by simp
 refine ⟨⟨fun _=>False,rv0,⟨heap_alloc_new w2 _,fun h=>h,(fun k hk=>hk.elim),⟨⟨[],⟨rfl,Or.inl ⟨rfl,rfl⟩⟩,⟨rfl,fun i v x hv=>by cases hv⟩⟩,fun k hk=>by cases hk⟩,⟨⟨[],⟨rfl,Or.inl ⟨rfl,rfl⟩⟩,⟨rfl,fun i v x hv=>by cases hv⟩⟩,fun k hk=>by cases hk⟩,⟨⟨rfl,Or.inl ⟨rfl,rfl⟩⟩,fun k hk=>by cases hk⟩,rfl,⟨rfl,Or.inl ⟨rfl,rfl⟩⟩,(fun k hk=>by cases hk),rfl,(fun i m v hm=>by cases hm),(fun e=>by cases e)⟩,hp.more ba (fun b hb=>?_),⟨Nat.zero_le _,Nat.zero_le _,rfl,(fun m hm=>by cases hm),Nat.zero_le _,Nat.zero_le _,Nat.zero_le _⟩,fun b hb=>⟨by have:=hb.1;omega,fun h=>h,by have:=hb.1;omega⟩⟩,?_⟩
 ·rcases hb with hb |hb |hb
  ·right;omega
  ·exact hb.elim
  ·exact Or.inl hb
 ·refine fr_trans (below_old B1) (fr_trans ho.fr (fr_below (S:=fun _=>False) ba) (fun _ h=>h.elim)) (fun b hb=>?_)
  rcases Nat.lt_or_ge b w.heap.size with h1 |h1
  ·exact (hdn b h1 hb).elim
  ·exact Or.inr h1
end
section
open Go.RowKit Go.Maps
open Dsk (gt hid undrew keep_old keep_cell lt_cell Rd DS FS Sec DiskP DFrame Grew From op_at idx dirtD was secD sureF sureF_ok crashD newD)
open Cch (CS CP Fr)
def RB(p r:Nat)(x:PC)(C:Cch.Parts)(S O:Nat→Prop):Nat→Prop:=fun b=>b=p∨C.S x.k b∨RO r S O b
def RS.shut(t:RS):RS:=⟨t.sure,[],[],false,[],0,0⟩
theorem rdP_of{w:World}{S:Nat→Prop}{v:Value}{l:List Pg}(h:LAt w S v l):∃ ao cap,v=.slice ao l.length cap∧RdP w ao l.length l∧l.length≤cap:=by
 obtain ⟨ao,cap,rfl,hno,hso⟩:=h.form
 obtain ⟨vs,ho,hp⟩:=h.row
 refine ⟨ao,cap,rfl,⟨rfl,fun hn=>?_⟩,?_⟩
 ·cases ao with
  | none=>have:=(hno rfl).1;omega
  | some a=>
   obtain ⟨e1,_,_⟩:=hso a rfl
   rw [e1]at ho ⊢
   refine ⟨a.block,0,rfl,fun k hk=>?_⟩
   have hkv:k<vs.length:=by rw [hp.len];exact hk
   have h1:=hp.at_ k vs[k] l[k] (List.getElem?_eq_getElem hkv) (List.getElem?_eq_getElem hk)
   obtain ⟨g,c,e2,_⟩:=h1.form
   obtain ⟨a2,c2,e3,hrd,_⟩:=Dsk.rd_owned h1.1
   have hc:=ho.cells (g:=a.block) rfl k _ (List.getElem?_eq_getElem hkv)
   rw [Addr.add_lit]at hc
   refine ⟨a2,c2,?_,?_⟩
   ·rw [e3]at hc;simpa using hc
   ·rw [List.getD,List.getElem?_eq_getElem hk];exact hrd
 ·cases ao with
  | none=>have:=(hno rfl).1;omega
  | some a=>exact (hso a rfl).2.1
end
section
open Go.RowKit Go.Maps
open Dsk (gt hid undrew keep_old keep_cell lt_cell Rd DS FS Sec DiskP DFrame Grew From op_at idx dirtD was secD sureF sureF_ok crashD newD)
open Cch (CS CP Fr)
section
variable {room croom K:Nat} {p q:Nat} {R:Nat→Prop} {t:RS} {w:World}
theorem prg_commit_tight(h:PrgAt False room croom K w p q R t)(hb:t.busy=true)(hT:TB K t)(hK:K≤100) :
  Calls Tryz.prog 27 #[.pointer (some ⟨p,0,none⟩)] w (POk False room croom K p q R w (.int .i64 0) t.commit)∨Calls Tryz.prog 27 #[.pointer (some ⟨p,0,none⟩)] w (POk False room croom K p q R w (.int .i64 3) t):=by
 obtain ⟨x,P,C,d,s,n,enc,ms,h⟩:=h
 have hx:=h.tx hb
 have e6:t.commit.pages=t.now:=rfl
 have e7:t.commit.ch=List.replicate t.now.length false:=rfl
 cases hi:idle t.sure t.now t.c with
 | true=>
  refine Or.inl ((commit_idlee p x P C d s t.sure n t.now t.c enc w hx (h.busy.trans hb) hi).mono ?_)
  rintro e w' ⟨rfl,m,hr,hf,hm⟩
  unfold idle at hi
  obtain ⟨i1,i2⟩:(chL t.c).length=0∧t.now.length=t.sure.length:=by simpa using hi
  have i3:chL t.c = []:=List.eq_nil_of_length_eq_zero i1
  have en:t.sure=t.now:=by
   refine ext_getD i2.symm (fun i hi=>?_)
   refine ((hx.sm i hi ?_).2).symm
   cases hc:t.c.getD i false with
   | false=>rfl
   | true=>
    have:i+1∈chL t.c:=Dsk.mem_idx.2 (by simpa using hc)
    rw [i3]at this;cases this
  have ec:t.commit.n=t.n:=by unfold RS.commit;simp only;rw [if_pos ⟨by rw [chK_all];exact i3,i2⟩]
  have k:LTo w w' p x (x.ended m) P C d d s t.sure t.sure 0 0 t.sure (List.replicate t.sure.length false) enc ms []:=rest_lto hr ⟨rfl,rfl,rfl⟩ ⟨rfl,rfl⟩ hm (More.refl _ _ _ _ _) (fr_imp hf (fun b hb=>Or.inr (Or.inr hb))) (by omega) rfl
  exact ⟨rfl,h.to (t':=t.commit) k en (by rw [e6];exact en) (by rw [e7,en]) rfl rfl (h.com.trans ec.symm) (fun e=>by cases e) (fun _=>⟨rfl,rfl⟩) (by show Sured d t.now;rw [←en];exact h.sure) h.env (by omega) (by omega) (by omega) (fun k hk=>by cases hk)⟩
 | false=>
  have hL:jL t.c t.now.length t.sure.length≤t.sure.length:=jL_sure (by have:=hT.lc;omega)
  have hS:=store_any (arm:=False) (tight:=True) (room:=room) (M:=100) hx.ws hx.wn h.env h.sure hT.lc (by have:=hT.ls;omega) (by have:=hT.ln;omega) hx.sm (Or.inl trivial)
  have hO:=ops_store d t.sure t.now t.c t.now.length
  have hC:=chL_length t.c
  obtain ⟨S,hSe⟩:∃ S,storeD d t.sure t.now t.c t.now.length=S:=⟨_,rfl⟩
  rw [hSe]at hS hO
  have hop:=h.ops
  have hhm:=h.hm
  have hk:K*1000≤100*1000:=Nat.mul_le_mul_right _ hK
  have hle:=hT.lc
  have hln:=hT.ln
  have hls:=hT.ls
  have hpl:(pastL t.c x.np x.pages).length≤100:=by
   rw [hx.np,hx.pages];have:jL t.c t.now.length t.sure.length≤t.sure.length:=hL;unfold jL at *;omega
  cases hS with
  | dead d' h1=>exact h1.1.elim
  | full d' h1=>
   refine Or.inr ((commit_full p x P C d d' 3 s t.sure n t.now t.c enc w hx (h.busy.trans hb) hi (by rw [h.sure.f0];rfl) (Or.inl h.env.on) (by omega) (by omega) (by omega) hSe (by decide) (by decide)).mono ?_)
   rintro e w' ⟨rfl,⟨P',C',s',hT',hM,hs,hrm⟩,hf⟩
   have hl:=h.live
   rw [RS.pages_busy hb,RS.ch_busy hb]at hl
   exact ⟨rfl,h.to (t':=t) (hl.moved (N:=100) hT' hM hf (by omega) hrm) rfl (RS.pages_busy hb).symm (RS.ch_busy hb).symm rfl h.busy h.com h.mb h.mr h1.2.2 h1.2.1 (by simp only at hO;omega) (by omega) (by have:=h.nk;omega) (fun k hk=>by have:=h.nm k hk;omega)⟩
  | ok d' h1=>
   refine Or.inl ((commit_oke p x P C d d' s t.sure n t.now t.c enc w hx (h.busy.trans hb) hi (by rw [h.sure.f0];rfl) (Or.inl h.env.on) (by omega) (by omega) (by omega) (by have:=h.com;have:=hT.n;omega) hSe).mono ?_)
   rintro e w' ⟨rfl,P',C',s',m,hr,hM,hf,hs,hrm,hm⟩
   have ec:t.commit.n=t.n+1:=by
    unfold RS.commit;simp only
    rw [if_neg]
    rintro ⟨a1,a2⟩
    unfold idle at hi
    rw [chK_all]at a1
    rw [a1,a2]at hi
    simp at hi
   have k:=rest_lto (x':={ x with pages:=t.now.length,com:=x.com+1 }.ended m) (x:=x) (N:=100) (enc:=enc) (ms:=ms) (d:=d) (sure:=t.sure) hr ⟨rfl,rfl,rfl⟩ ⟨rfl,rfl⟩ hm hM hf (by omega) hrm
   exact ⟨rfl,h.to (t':=t.commit) k rfl e6.symm e7.symm rfl rfl (by rw [ec];show x.com+1=_;rw [h.com]) (fun e=>by cases e) (fun _=>⟨rfl,rfl⟩) h1.2 h1.1 (by simp only at hO;omega) (by omega) (by omega) (fun k hk=>by cases hk)⟩
theorem prg_sectors{arm:Prop}(h:PrgAt arm room croom K w p q R t):(Calls Tryz.prog 29 #[.pointer (some ⟨q,0,none⟩),.int .i64 1] w fun e w'=>e=.returned (.int .i64 0)∧w'=w)∧Calls Tryz.prog 29 #[.pointer (some ⟨q,0,none⟩),.int .i64 0] w fun e w'=>e=.returned (.int .i64 ((t.sure.length*4:Nat):Int))∧w'=w:=by
 obtain ⟨x,P,C,d,s,n,enc,ms,h⟩:=h
 have hdk:DiskP w q P d:=by rw [←h.q];exact h.live.tx.core.dk
 have hc:Clean d t.sure:=⟨by rw [h.sure.f0];rfl,by rw [h.sure.f1];rfl,h.env.on⟩
 refine ⟨?_,?_⟩
 ·have:=Dsk.sectors_call q P d 1 w hdk;rw [hc.len.2]at this;exact this
 ·have:=Dsk.sectors_call q P d 0 w hdk;rw [hc.len.1]at this;exact this
end
end
end Go.Proofs.YtadhdedjdgjboaaGreatDoor
