/- The journal of what is to be changed, as it was; no statement of the seat is proved here. -/
import Derived.Test.YtgjgkpnjchflaaaGreatDoorS18
import Derived.Test.YtgjgkpnjchflaaaGreatDoorS24
import Derived.Test.YtgjgkpnjchflaaaGreatDoorS17
set_option maxHeartbeats 16000000
set_option maxRecDepth 20000
namespace Go.Proofs.YtgjgkpnjchflaaaGreatDoor
section
open Go.RowKit Go.Maps
open Dsk (gt hid undrew keep_old keep_cell lt_cell Rd DS FS Sec DiskP DFrame Grew From idx dirtD size_dirt op_at)
open Cch (CS CP Fr wpAnyK wpAnyK_take wpAnyK_pure wpAnyK_ready wpAnyK_done wp_region_K AllReadyK.cons AllReadyK.nil)
open Jrn (rv zr RowIs rep_step row_get0 row_get1)
def row1(np j:Nat):List Nat:=(List.range j).map fun k=>np+1+k
theorem row1_succ(np j:Nat):row1 np (j+1)=row1 np j++[np+1+j]:=by simp [row1,List.range_succ]
def pastL(c:List Bool)(np T:Nat):List Nat:=upto T (chL c)++row1 np (T - np)
theorem pastL_mem{c:List Bool}{np T z:Nat}(h:z∈pastL c np T):1≤z∧z≤T:=by
 rcases List.mem_append.1 h with h |h
 ·obtain ⟨h1,h2⟩:=List.mem_filter.1 h
  exact ⟨(chL_mem h1).1,by simpa using h2⟩
 ·obtain ⟨k,hk,rfl⟩:=List.mem_map.1 h
  have:=List.mem_range.1 hk
  omega
theorem chL_length(c:List Bool):(chL c).length≤c.length+1:=by
 have:=List.length_filter_le (fun i=>(false::c).getD i false) (List.range (false::c).length)
 simpa [chL,idx] using this
theorem Tryz.info3:(Tryz.prog.info? 3).map (fun i=>(i.zero,i.size,i.bytes))=some (some (.int .i64 0),1,8):=by kernel_rfl
theorem el41:Cch.El 33 3 (.int .i64 0) 8:=⟨Tryz.underlying33,by obtain ⟨i,h0,h1,h2,h3⟩:=info_parts Tryz.info3;exact ⟨i,h0,h1,h2,h3⟩,rfl,by decide⟩
variable {xs:List Value} {e:TypeId} {B n:Nat} {w:World}
theorem own_up{c:Nat}{ao:Option Addr}(h:w.ownsRow 0 e 1 (.slice ao n c) n xs)(hB:∀ a,ao=some a→B≤a.block):w.ownsRow B e 1 (.slice ao n c) n xs:=by
 refine ⟨h.1,?_⟩
 rcases h.2 with h1 | ⟨g,cap,cur,h1,_,h2⟩
 ·exact Or.inl h1
 ·simp only [Value.slice.injEq]at h1
  obtain ⟨rfl,h3,h4⟩:=h1
  exact Or.inr ⟨g,cap,cur,by rw [h4],hB _ rfl,h2⟩
variable {v:Value}
theorem own_blk(h:w.ownsRow B e 1 v n xs){k:Nat}(hk:v.ownBlock=some k):B≤k:=by
 rcases h.2 with ⟨h1,_⟩ | ⟨g,cap,cur,h1,hB,_⟩
 ·subst h1;cases hk
 ·subst h1
  have:g=k:=by simpa [Value.ownBlock] using hk
  subst this;exact hB
variable {w':World}
theorem own_under(h:w.ownsRow B e 1 v n xs)(hb:∀ k,v.ownBlock=some k→w'.heap[k]? = w.heap[k]?):w'.ownsRow B e 1 v n xs:=by
 refine ⟨h.1,?_⟩
 rcases h.2 with h1 | ⟨g,cap,cur,h1,hB,hg,h2⟩
 ·exact Or.inl h1
 ·exact Or.inr ⟨g,cap,cur,h1,hB,(hb g (by rw [h1];rfl)).trans hg,h2⟩
theorem zI_append(a b:List Nat):zI (a++b)=zI a++zI b:=by simp [zI]
variable {i:Nat}
theorem zI_get{l:List Nat}(h:i<l.length):(zI l)[i]? = some (.int .i64 ((l.getD i 0:Nat):Int)):=by
 simp [zI,List.getD,List.getElem?_eq_getElem h]
def DatO(W:World)(N:Nat→Prop)(R:Nat)(P:Nat→Int)(D:Nat→List Nat)(l:List (Int×Option Addr×Nat×Nat)):Prop:=
 ∀ (j:Nat) (r:Int×Option Addr×Nat×Nat),l[j]? = some r→∃ a c,r=(P j,some a,512,c)∧Rd W (some a) 512 c (D j)∧Out W N a.block∧a.block≠R
variable {R:Nat} {N:Nat→Prop}
theorem DatO.turn{N':Nat→Prop}{P:Nat→Int}{D:Nat→List Nat}{l:List (Int×Option Addr×Nat×Nat)}(h:DatO w N R P D l)(ho:∀ b,Out w N b→Out w' N' b)(hc:∀ b o v,Out w N b→b≠R→w.cell? ⟨b,o,none⟩=some v→w'.cell? ⟨b,o,none⟩=some v):DatO w' N' R P D l:=fun j r hr=>by
 obtain ⟨a,c,e,hrd,hao,hne⟩:=h j r hr
 refine ⟨a,c,e,⟨hrd.1,hrd.2.1,hrd.2.2.1,fun hp=>?_⟩,ho _ hao,hne⟩
 obtain ⟨b',off',e',h2⟩:=hrd.2.2.2 hp
 obtain rfl:=Option.some.inj e'
 exact ⟨b',off',rfl,fun t ht=>hc _ _ _ hao hne (h2 t ht)⟩
variable {L:Nat}
theorem DatO.recs{P:Nat→Int}{D:Nat→List Nat}{l:List (Int×Option Addr×Nat×Nat)}(h:DatO w N R P D l)(hl:l.length=L)(hr:RowIs w R l)(hR:Out w N R):RecsO w N (some ⟨R,0,none⟩) L P D:=fun _=>by
 refine ⟨R,0,rfl,hR,fun i hi=>?_⟩
 obtain ⟨r,hri⟩:∃ r,l[i]? = some r:=⟨l[i]'(by omega),List.getElem?_eq_getElem _⟩
 obtain ⟨a,c,e,hrd,hao,hne⟩:=h i r hri
 have hsp:l=l.take i++r::l.drop (i+1):=by
  obtain ⟨h1,h2⟩:=List.getElem?_eq_some_iff.1 hri
  rw [←h2,←List.drop_eq_getElem_cons h1,List.take_append_drop]
 have hg:=Jrn.rv_get (l.take i) r (l.drop (i+1))
 rw [←hsp,show (l.take i).length=i by rw [List.length_take];omega,e]at hg
 refine ⟨a,c,?_,?_,hrd,hao⟩
 ·rw [hr.cellAt,Nat.zero_add];exact hg.1
 ·rw [hr.cellAt,Nat.zero_add];exact hg.2
variable {s:CS} {d:DS} {x:PC} {p:Nat}
theorem Core.stay{P:Dsk.Parts}{C:Cch.Parts}(h:Core w p x P C d s)(hs:w.heap.size≤w'.heap.size)(hb:∀ b,b<w.heap.size→NC p x P C b→w'.heap[b]? = w.heap[b]?):Core w' p x P C d s:=
 ⟨h.hd.stay (hb p h.hd.lt (Or.inr (Or.inr rfl))),h.dk.stay hs (fun b hl hd=>hb b hl (Or.inl (by rcases hd with h1 |h1;exact Or.inr h1;exact Or.inl h1))),h.ck.stay (fun b hl hS=>hb b hl (Or.inr (Or.inl hS))),h.dc,h.dp,h.cp⟩
structure PastI (W2 W:World) (p R:Nat) (x:PC) (P:Dsk.Parts) (C C':Cch.Parts) (d:DS) (s s':CS) (sure:List Pg) (z:List Nat) (L i:Nat) (l:List (Int×Option Addr×Nat×Nat)):Prop where
 len:l.length=i
 row:RowIs W R (l++List.replicate (L - i) zr)
 dat:DatO W (NC p x P C') R (fun i=>((z.getD i 0:Nat):Int)) (fun i=>sure.getD (z.getD i 0 - 1) []) l
 core:Core W p x P C' d s'
 fits:Fits s' sure
 more:More p x P P C C' W2
 cnt:s'.hit+s'.miss≤s.hit+s.miss+i∧s'.room=s.room
 fr:Fr (fun b=>C.S x.k b∨b=R) W2 W
 nR:∀ b,NC p x P C b→b≠R
 ltR:R<W2.heap.size
variable {z:List Nat} {sure:List Pg} {s':CS} {W2 W:World}
theorem PastI.notR{P:Dsk.Parts}{C C':Cch.Parts}{l:List (Int×Option Addr×Nat×Nat)}(h:PastI W2 W p R x P C C' d s s' sure z L i l):¬NC p x P C' R:=fun hk=>by
 rcases h.more R hk with h1 |h1
 ·exact h.nR R h1 rfl
 ·have:=h.ltR;omega
variable {cap:Nat} {a:Addr}
theorem PastI.step{w5:World}{P:Dsk.Parts}{C C':Cch.Parts}{l:List (Int×Option Addr×Nat×Nat)}(h:PastI W2 W p R x P C C' d s s' sure z L i l)(hi:i<L)
  (hr:Rd w5 (some a) 512 cap (sure.getD (z.getD i 0 - 1) [])) (ha:W.heap.size≤a.block) (hb:BeforeTo W w5 p x P C' d s' sure a.block) :
  RowIs w5 R (l++zr::List.replicate (L - (i+1)) zr)∧∃ C5 s5,PastI W2 ((w5.setCell ⟨R,i*2,none⟩ (.int .i64 ((z.getD i 0:Nat):Int))).setCell ⟨R,i*2+1,none⟩ (.slice (some a) 512 cap)) p R x P C C5 d s s5 sure z L (i+1) (l++[(((z.getD i 0:Nat):Int),some a,512,cap)]):=by
 obtain ⟨⟨C5,s5,hna,hc5,hf5,hm5,hcn,hrm⟩,hfr⟩:=hb
 have hR:=h.notR
 have hRW:R<W.heap.size:=Nat.lt_of_lt_of_le h.ltR h.fr.size
 have hrow:RowIs w5 R (l++zr::List.replicate (L - (i+1)) zr):=by
  have h1:=h.row
  rw [rep_step hi]at h1
  exact (hfr.blk R hRW (fun hS=>hR (Or.inr (Or.inl hS)))).trans h1
 have hR5:¬NC p x P C5 R:=fun hk=>by
  rcases hm5 R hk with h1 |h1
  ·exact hR h1
  ·omega
 obtain ⟨w6,hw6⟩:∃ w6,w6=(w5.setCell ⟨R,i*2,none⟩ (.int .i64 ((z.getD i 0:Nat):Int))).setCell ⟨R,i*2+1,none⟩ (.slice (some a) 512 cap):=⟨_,rfl⟩
 have hoth:∀ b,b≠R→w6.heap[b]? = w5.heap[b]?:=fun b hbR=>by
  rw [hw6,heap_setCell_other _ _ _ _ hbR,heap_setCell_other _ _ _ _ hbR]
 have hsz:w6.heap.size=w5.heap.size:=by rw [hw6];simp
 have hset:RowIs w6 R (l++(((z.getD i 0:Nat):Int),some a,512,cap)::List.replicate (L - (i+1)) zr):=by
  have:=hrow.set ((z.getD i 0:Nat):Int) (some a) 512 cap
  rw [h.len]at this
  rw [hw6];exact this
 have haR:a.block≠R:=fun e=>by omega
 have hos:w6.os=w5.os∧w6.tape=w5.tape∧w6.output=w5.output:=by rw [hw6];exact ⟨rfl,rfl,rfl⟩
 refine ⟨hrow,C5,s5,?_⟩
 rw [←hw6]
 refine ⟨by simp [h.len],by rw [List.append_assoc];exact hset,fun j r hj=>?_,hc5.stay (Nat.le_of_eq hsz.symm) (fun b _ hb=>hoth b (fun e=>hR5 (e▸hb))),hf5,h.more.trans hm5 h.fr.size,⟨by have:=h.cnt.1;omega,hrm.trans h.cnt.2⟩,?_,h.nR,h.ltR⟩
 ·rw [List.getElem?_append]at hj
  split at hj
  ·have hd:=h.dat.turn (N':=NC p x P C5) (w':=w6) (fun b hb=>(by have:=hm5.out hfr.size hb;exact ⟨by rw [hsz];exact this.1,this.2⟩)) (fun b o v hb hbR hc=>(World.cell?_of_block (hoth b hbR)).trans (fr_cell hfr hc (fun hS=>hb.2 (Or.inr (Or.inl hS)))))
   exact hd j r hj
  ·rename_i hjl
   have hj0:j=i:=by
    have:=(List.getElem?_eq_some_iff.1 hj).1
    simp at this;have:=h.len;omega
   subst hj0
   rw [h.len,Nat.sub_self]at hj
   simp at hj
   subst hj
   refine ⟨a,cap,rfl,⟨hr.1,hr.2.1,hr.2.2.1,fun hp=>?_⟩,⟨?_,fun hk=>?_⟩,haR⟩
   ·obtain ⟨b',off',e',h2⟩:=hr.2.2.2 hp
    obtain rfl:=Option.some.inj e'
    exact ⟨b',off',rfl,fun t ht=>by rw [World.cell?_of_block (hoth b' haR)];exact h2 t ht⟩
   ·obtain ⟨b',off',e',h2⟩:=hr.2.2.2 (by omega)
    obtain rfl:=Option.some.inj e'
    rw [hsz];exact lt_cell (h2 0 (by omega))
   ·rcases hk with hk |hk |hk
    ·have h1:a.block<W.heap.size:=DN.lt h.core.dk hk
     omega
    ·exact hna hk
    ·have h1:a.block<W.heap.size:=by rw [hk];exact h.core.hd.lt
     omega
 ·refine fr_trans h.fr (S1:=fun b=>C'.S x.k b∨b=R) ⟨hos.1.trans hfr.os,hos.2.1.trans hfr.tape,hos.2.2.trans hfr.output,by rw [hsz];exact hfr.size,fun b hb hn=>?_⟩ (fun b hb=>?_)
  ·exact (hoth b (fun e=>hn (Or.inr e))).trans (hfr.blk b hb (fun e=>hn (Or.inl e)))
  ·rcases hb with hb |hb
   ·rcases h.more b (Or.inr (Or.inl hb)) with h1 |h1
    ·rcases h1 with h2 |h2 |h2
     ·exact absurd hb (h.core.dc b h2)
     ·exact Or.inl (Or.inl h2)
     ·exact absurd (h2▸hb) h.core.cp
    ·exact Or.inr h1
   ·exact Or.inl (Or.inr hb)
structure PastTo (w w':World) (p:Nat) (x:PC) (P:Dsk.Parts) (C:Cch.Parts) (d:DS) (s:CS) (sure:List Pg) (lo:Option Addr) (l:List Nat):Prop where
 is:∃ C' s',RecsO w' (NC p x P C') lo l.length (fun i=>((l.getD i 0:Nat):Int)) (fun i=>sure.getD (l.getD i 0 - 1) [])∧Core w' p x P C' d s'∧Fits s' sure∧More p x P P C C' w∧s'.hit+s'.miss≤s.hit+s.miss+l.length∧s'.room=s.room
 fr:Fr (C.S x.k) w w'
theorem set3_facts(W:World)(q:Nat)(a b c:Value):(((W.setCell ⟨q,0,none⟩ a).setCell ⟨q,1,none⟩ b).setCell ⟨q,2,none⟩ c).heap.size=W.heap.size∧(∀ k,k≠q→(((W.setCell ⟨q,0,none⟩ a).setCell ⟨q,1,none⟩ b).setCell ⟨q,2,none⟩ c).heap[k]? = W.heap[k]?) ∧
  (((W.setCell ⟨q,0,none⟩ a).setCell ⟨q,1,none⟩ b).setCell ⟨q,2,none⟩ c).os=W.os∧(((W.setCell ⟨q,0,none⟩ a).setCell ⟨q,1,none⟩ b).setCell ⟨q,2,none⟩ c).tape=W.tape∧(((W.setCell ⟨q,0,none⟩ a).setCell ⟨q,1,none⟩ b).setCell ⟨q,2,none⟩ c).output=W.output:=
 ⟨by simp,fun k hk=>by rw [heap_setCell_other _ _ _ _ hk,heap_setCell_other _ _ _ _ hk,heap_setCell_other _ _ _ _ hk],rfl,rfl,rfl⟩
theorem redrew(h:Below w.heap.size w w'):Below w.drew.heap.size w.drew w':=⟨h.os,h.tape,h.output,h.size,h.block⟩
theorem rd_ne_box{t:TypeId}{q:Nat}{c p:Int}{xs:List Nat}(h:Rd W (some a) 512 cap xs)(hb:Jrn.HB t W q c p n):a.block≠q:=fun e=>by
 obtain ⟨b,off,e',h2⟩:=h.2.2.2 (by omega)
 obtain rfl:=Option.some.inj e'
 simp only at e
 subst e
 rcases hb.kind _ _ (h2 0 (by omega)) with ⟨z,hz⟩ | ⟨z,hz⟩<;>cases hz
theorem PastI.done{W6:World}{S:Nat}{P:Dsk.Parts}{C C':Cch.Parts}{l:List (Int×Option Addr×Nat×Nat)}(h:PastI W2 W p R x P C C' d s s' sure z L L l)(hzl:z.length=L)(hS:S=w.heap.size)
  (hNS:∀ b,NC p x P C b→b<S) (hW2:Below w.heap.size w W2) (hs:S+2≤R) (hbox:Jrn.HB 140 W (S+1) 0 0 0) (h6s:W.heap.size≤W6.heap.size) (h6:∀ b,b<W.heap.size→b≠S+1→W6.heap[b]? = W.heap[b]?)
  (ho:W6.os=W.os) (ht:W6.tape=W.tape) (hu:W6.output=W.output):PastTo w W6 p x P C d s sure (some ⟨R,0,none⟩) z:=by
 have hS1:¬NC p x P C' (S+1):=fun hk=>by
  rcases h.more _ hk with h1 |h1
  ·have:=hNS _ h1;omega
  ·have:=h.ltR;omega
 have hlt:=h.fr.size
 have hRW:R<W.heap.size:=Nat.lt_of_lt_of_le h.ltR hlt
 have hrow:RowIs W R l:=by
  have:=h.row
  rwa [Nat.sub_self,List.replicate_zero,List.append_nil]at this
 have hrec:RecsO W6 (NC p x P C') (some ⟨R,0,none⟩) z.length (fun i=>((z.getD i 0:Nat):Int)) (fun i=>sure.getD (z.getD i 0 - 1) []):=by
  rw [hzl]
  have hdat:DatO W6 (NC p x P C') R (fun i=>((z.getD i 0:Nat):Int)) (fun i=>sure.getD (z.getD i 0 - 1) []) l:=fun j r hj=>by
   obtain ⟨a,c,e,hr,hao,hne⟩:=h.dat j r hj
   have hab:=rd_ne_box hr hbox
   refine ⟨a,c,e,⟨hr.1,hr.2.1,hr.2.2.1,fun hp=>?_⟩,hao.later h6s,hne⟩
   obtain ⟨b',off',e',h2⟩:=hr.2.2.2 hp
   obtain rfl:=Option.some.inj e'
   exact ⟨b',off',rfl,fun t ht=>by rw [World.cell?_of_block (h6 b' hao.1 hab)];exact h2 t ht⟩
  exact hdat.recs h.len ((h6 R hRW (by omega)).trans hrow) ⟨Nat.lt_of_lt_of_le hRW h6s,h.notR⟩
 refine ⟨⟨C',s',hrec,h.core.stay h6s (fun b hb hk=>h6 b hb (fun e=>hS1 (e▸hk))),h.fits,fun b hb=>?_,by rw [hzl];exact h.cnt.1,h.cnt.2⟩,⟨ho.trans (h.fr.os.trans hW2.os),ht.trans (h.fr.tape.trans hW2.tape),hu.trans (h.fr.output.trans hW2.output),Nat.le_trans hW2.size (Nat.le_trans hlt h6s),fun b hb hn=>?_⟩⟩
 ·rcases h.more b hb with h1 |h1
  ·exact Or.inl h1
  ·exact Or.inr (Nat.le_trans hW2.size h1)
 ·have h2:=Nat.lt_of_lt_of_le hb hW2.size
  rw [h6 b (Nat.lt_of_lt_of_le h2 hlt) (by omega),h.fr.blk b h2 (fun hk=>by
   rcases hk with hk |hk
   ·exact hn hk
   ·omega),hW2.block b hb]
theorem past_call(p:Nat)(x:PC)(P:Dsk.Parts)(C:Cch.Parts)(d:DS)(s:CS)(sure:List Pg)(n:Nat)(now:List Pg)(c:List Bool)(enc:List Sec)(w:World)(h:Core w p x P C d s)(hg:Chg w (NC p x P C) x.m n now c enc)(hk:Fits s sure)
  (hf:d.f0.now=secsOf sure) (hl:∀ j,j<sure.length→(sure.getD j []).length=512) (ho:d.off=false∨pastL c x.np x.pages = []) (hxp:x.pages=sure.length) (hxn:x.np=c.length) (hb:sure.length≤4000) (hcb:c.length≤4000) (hh:s.hit+s.miss≤800000) :
  Calls Tryz.prog 88 #[.pointer (some ⟨p,0,none⟩)] w fun e w'=>∃ lo cap,e=.returned (.tuple #[.agg #[.int .i64 ((pastL c x.np x.pages).length:Int),.int .i64 (x.pages:Int),.int .u64 (d.ops:Int)],.slice lo (pastL c x.np x.pages).length cap,.int .i64 0])∧PastTo w w' p x P C d s sure lo (pastL c x.np x.pages):=by
 obtain ⟨S,hS⟩:∃ S,S=w.heap.size:=⟨_,rfl⟩
 obtain ⟨W0,hW0⟩:∃ W0,W0=(w.alloc (.cells #[.pointer (some ⟨p,0,none⟩)] 24)).alloc (.cells #[.int .i64 0,.int .i64 0,.int .u64 0] 140):=⟨_,rfl⟩
 have hs0:W0.heap.size=S+2:=by rw [hW0,hS];simp
 have hb0:Below w.heap.size w W0:=by rw [hW0];exact (by repeat (first |with_reducible exact Below.refl _ _ |with_reducible assumption |with_reducible refine Below.drew ?_ |with_reducible refine below_drewN ?_ _ |with_reducible refine Below.alloc ?_ (by simp<;>omega) _ |with_reducible refine Below.setCell ?_ (by simp<;>omega) _))
 have hbx:W0.cell? ⟨S,0,none⟩=some (.pointer (some ⟨p,0,none⟩)):=by rw [hW0,hS];exact cell_up (cell_box rfl)
 have h0:=h.later hb0
 have hp:p<S:=by rw [hS];exact h.hd.lt
 have hg0:=hg.later hb0
 obtain ⟨a0,a1,a2,a3,a4,a5,a6,a7,a8,a9,a10,a11⟩:=h0.hd.cells
 have hcl:=chL_length c
 have c56:=hid (changed_any (x.np:Int) x.m n (false::c) enc W0 hg0.map (by unfold chL at hcl;omega))
 have hz0:Jrn.HB 140 W0 (S+1) 0 0 0:=by
  have:=Jrn.HB.new 140 (w.alloc (.cells #[.pointer (some ⟨p,0,none⟩)] 24)) 0 0 0
  rw [hW0,hS];simpa using this
 have H:=hid h;have H0:=hid h0;have HB0:=hid hb0;have HK:=hid hk;have HZ0:=hid hz0;have HX:=hid hbx
 have HL:=hid hl;have HF:=hid hf;have HO:=hid ho;have HSS:=hid hS;have HS0:=hid hs0
 have HXP:=hid hxp;have HXN:=hid hxn
 obtain ⟨T,hT⟩:∃ T,x.pages=T:=⟨_,rfl⟩
 obtain ⟨np,hnp⟩:∃ np,x.np=np:=⟨_,rfl⟩
 have HT:=hid hT;have HNP:=hid hnp
 have hTb:T≤4000:=by omega
 have hnpb:np≤4000:=by omega
 rw [hT]at a4;rw [hnp]at a6 c56
 rw [hT,hnp]at HO ⊢
 clear h hg hk hf hl ho hb0 hg0 hz0 hxp hxn hT hnp
 go_enter Tryz.func88,Tryz.ntmps88
 go_upto_region 1 with fail
 rw [←hS,←hW0]
 clear hW0 hS
 have H2:Hid (∀ W:World,Below (S+2) W0 W→W.cell? ⟨S,0,none⟩=some (.pointer (some ⟨p,0,none⟩))∧W.cell? ⟨p,4,none⟩=some (.int .i64 (T:Int))∧W.cell? ⟨p,6,none⟩=some (.int .i64 (np:Int))∧W.cell? ⟨p,2,none⟩=some (.pointer (some ⟨x.q,0,none⟩))):=
  hid (fun W hb=>⟨keep_cell hb hbx (by simp),keep_cell hb a4 (by simp;omega),keep_cell hb a6 (by simp;omega),keep_cell hb a2 (by simp;omega)⟩)
 go_wp2_with (first
  | (go_at_call 93;refine c56.out.mono ?_;rintro e w1 ⟨v1,rfl,o1,n1,b1⟩;rw [hs0]at b1;rw [hs0]at o1;have O1:=hid o1;have N1:=hid n1;have B1:=hid b1;clear o1 n1 b1 a0 a1 a2 a3 a4 a5 a6 a7 a8 a9 a10 a11 hbx)
  | (go_at_call 57;refine (del_any (S+2) v1 (chL c) S p T w1 O1.out N1.out (by omega) (H2.out w1 B1.out).1 (H2.out w1 B1.out).2.1 (by omega) (by omega)).mono ?_;rintro e w2 ⟨ao2,c2,rfl,o2,b2⟩;have O2:=hid o2;have B2:=hid (B1.out.trans b2);obtain ⟨y0,y1,y2,y3⟩:=H2.out w2 B2.out;clear o2 b2))
 clear c56 O1 N1 B1
 obtain ⟨A,hA⟩:∃ A,upto T (chL c)=A:=⟨_,rfl⟩
 have hAl:A.length≤4001:=by
  have:(upto T (chL c)).length≤(chL c).length:=List.length_filter_le _ _
  rw [←hA];omega
 have hPL:Hid (pastL c np T=A++row1 np (T - np)):=hid (by rw [pastL,hA])
 rw [hA]at O2 ⊢
 clear hA
 obtain ⟨K,hK⟩:∃ K,T - np=K:=⟨_,rfl⟩
 rw [hK]at hPL
 have HKK:=hid hK
 have hKT:K≤4000:=by omega
 clear y0 y1 y2 y3 hK
 go_loopw [5,6] (fun v5 v6 W=>∃ (j J:Nat) (ao:Option Addr) (cp:Nat),j≤K∧Hid (J=np+1+j)∧v6=.int .i64 (J:Int)∧v5=.slice ao (A++row1 np j).length cp∧Hid (W.ownsRow (S+2) 3 1 (.slice ao (A++row1 np j).length cp) (A++row1 np j).length (zI (A++row1 np j)))∧Hid (Below (S+2) W0 W)) (fun _ v6 _=>np+1+K - (Lib.intOf v6).toNat)
 case atStart=>exact ⟨0,np+1,ao2,c2,by omega,hid rfl,by go_num,by simp [row1],hid (by simpa [row1] using O2.out),B2⟩
 case round=>
  obtain ⟨j,J,ao,cp,hj,HJ,rfl,rfl,O,B⟩:=hrel
  have hJb:J≤10000:=by have:=HJ.out;omega
  obtain ⟨y0,y1,y2,y3⟩:=H2.out wr B.out
  have hsz:S+2≤wr.heap.size:=by have:=B.out.size;have:=HS0.out;omega
  by_cases hjK:j<K
  ·have hle:(J:Int)≤(T:Int):=by have:=HKK.out;have:=HJ.out;omega
   obtain ⟨M,hM⟩:∃ M,(A++row1 np j).length=M:=⟨_,rfl⟩
   have hMb:M≤10000:=by rw [←hM];simp [row1];omega
   rw [hM]at O ⊢
   have SR:=hid (lit_src wr [.int .i64 (J:Int)] 3 (by intro x hx;simp at hx;subst hx;rfl))
   have b4:Below wr.heap.size wr (wr.alloc (.cells #[.int .i64 (J:Int)] 3)):=Below.alloc (Below.refl _ _) (Nat.le_refl _) _
   have O3:=hid (own_under O.out (fun k hk=>b4.block k (own_bound (ownsRow_base_a O.out (Nat.zero_le _)) hk)))
   have HB4:=hid b4
   have HM:=hid hM
   clear b4 hM
   go_wp2_with ((with_reducible refine Dsk.here_op 37 ?_);refine Cch.wpList_app rfl (.tmp 34) (.tmp 36) el41 rfl (.slice ao M cp) M _ rfl (ownsRow_base_a O3.out (Nat.zero_le _)) (some ⟨wr.heap.size,0,none⟩) 1 1 [.int .i64 (J:Int)] rfl SR.out (by omega) ?_;intro a7 c7 w7 ho7 hg7 ha7;have O7:=hid ho7;have G7:=hid hg7;have A7:=hid ha7;clear ho7 hg7 ha7)
   have hsucc:A++row1 np (j+1)=(A++row1 np j)++[np+1+j]:=by rw [row1_succ,List.append_assoc]
   have hMl:(A++row1 np (j+1)).length=M+1:=by rw [hsucc,List.length_append,HM.out];rfl
   have hz:zI (A++row1 np (j+1))=zI (A++row1 np j)++[.int .i64 (J:Int)]:=by rw [hsucc,zI_append,HJ.out];rfl
   have hblk:∀ a,a7=some a→S+2≤a.block:=fun a ha=>by
    rcases A7.out a ha with h1 |h1
    ·exact own_blk O3.out h1
    ·rw [h1];simp;omega
   have hbl7:Below (S+2) W0 w7:=by
    have h1:=B.out.trans (HB4.out.mono hsz)
    exact ⟨G7.out.os.trans h1.os,G7.out.tape.trans h1.tape,G7.out.output.trans h1.output,Nat.le_trans h1.size G7.out.size,fun k hk=>(G7.out.block k (Nat.lt_of_lt_of_le (by have:=HS0.out;omega) h1.size) (fun e=>by have:=own_blk O3.out e.symm;omega)).trans (h1.block k hk)⟩
   go_roundw
   case rel=>exact ⟨j+1,J+1,a7,c7,by omega,hid (by have:=HJ.out;omega),by go_num,by rw [hMl],hid (by rw [hMl,hz];exact own_up O7.out hblk),hid hbl7⟩
   case measure=>simp [Lib.intOf];have:=HJ.out;omega
  ·obtain rfl:j=K:=by omega
   have hgt:¬(J:Int)≤(T:Int):=by have:=HKK.out;have:=HJ.out;omega
   rw [←hPL.out]at O ⊢
   obtain ⟨L,hL⟩:∃ L,(pastL c np T).length=L:=⟨_,rfl⟩
   have hLb:L≤100000:=by rw [←hL,hPL.out];simp [row1];omega
   rw [hL]at O ⊢
   have hmk:=fun W=>Jrn.make27 L hLb W
   obtain ⟨Z,hZ⟩:∃ Z,Z=rv (List.replicate L zr):=⟨_,rfl⟩
   rw [←hZ]at hmk
   have HZ:=hid hZ;have HLL:=hid hL
   clear hZ hL
   go_upto_region 7 with fail
   obtain ⟨R,hR⟩:∃ R,R=wr.heap.size:=⟨_,rfl⟩
   obtain ⟨W2,hW2⟩:∃ W2,W2=wr.alloc (.cells Z.toArray 168):=⟨_,rfl⟩
   have hb2:Below wr.heap.size wr W2:=by rw [hW2];exact Below.alloc (Below.refl _ _) (Nat.le_refl _) _
   have hRow:RowIs W2 R (List.replicate L zr):=by
    have:=heap_alloc_new wr (.cells Z.toArray 168)
    rw [HZ.out]at this
    rw [hW2,hR,HZ.out];exact this
   have B2':Below (S+2) W0 W2:=B.out.trans (hb2.mono hsz)
   have hC2:Core W2 p x P C d s:=H0.out.later (by rw [HS0.out];exact B2')
   have hNS:∀ b,NC p x P C b→b<S:=fun b hb=>by rw [HSS.out];exact H.out.lt hb
   have I0:PastI W2 W2 p R x P C C d s s sure (pastL c np T) L 0 []:=
    ⟨rfl,by simpa using hRow,fun j r hj=>by simp at hj,hC2,HK.out,More.refl _ _ _ _ _,⟨by omega,rfl⟩,Fr.refl _ _,fun b hb=>by have:=hNS b hb;omega,by rw [hW2,hR];simp⟩
   have II:=hid I0
   have O4:=hid (own_under O.out (fun k hk=>hb2.block k (own_bound (ownsRow_base_a O.out (Nat.zero_le _)) hk)))
   have hbxS:W2.cell? ⟨S,0,none⟩=some (.pointer (some ⟨p,0,none⟩)):=(H2.out W2 B2').1
   have HBX:=hid hbxS;have HNS:=hid hNS;have HB2:=hid B2'
   have HRW:Hid (R=wr.heap.size∧W2.heap.size=R+1):=hid ⟨hR,by rw [hW2,hR];simp⟩
   have hSR:S+2≤R:=by rw [hR];exact hsz
   have HGR:Hid (∀ k,(Value.slice ao L cp).ownBlock=some k→k<R):=hid (fun k hk=>by rw [hR];exact own_bound (ownsRow_base_a O.out (Nat.zero_le _)) hk)
   rw [←hW2,←hR]
   clear hW2 hR hb2 hRow B2' hC2 hNS I0 hbxS hmk HZ hgt y0 y1 y2 y3 O B
   go_wp2
   go_loopw [43] (fun cc W=>∃ (i:Nat) (C':Cch.Parts) (s':CS) (l:List (Int×Option Addr×Nat×Nat)),i≤L∧cc=.int .i64 (i:Int)∧Hid (PastI W2 W p R x P C C' d s s' sure (pastL c np T) L i l)) (fun cc _=>L - (Lib.intOf cc).toNat)
   case atStart=>exact ⟨0,C,s,[],by omega,rfl,II⟩
   case round=>
    rename_i wq
    obtain ⟨i,C',s',l,hi,rfl,I⟩:=hrel
    clear II
    have hbs:wr.cell? ⟨S,0,none⟩=some (.pointer (some ⟨p,0,none⟩)):=fr_cell I.out.fr HBX.out (fun hk=>by
     rcases hk with hk |hk
     ·have:=HNS.out S (Or.inr (Or.inl hk));omega
     ·omega)
    obtain ⟨a0,a1,a2,a3,a4,a5,a6,a7,a8,a9,a10,a11⟩:=I.out.core.hd.cells
    rw [HT.out]at a4;rw [HNP.out]at a6
    by_cases hiL:i<L
    ·obtain ⟨g,hcp,hv,hg2,hglt⟩:=O4.out.form (by omega)
     simp only [Value.slice.injEq]at hv
     obtain ⟨rfl,-,rfl⟩:=hv
     obtain ⟨z,hz⟩:∃ z,(pastL c np T).getD i 0=z:=⟨_,rfl⟩
     have hgR:=HGR.out g rfl
     have hcz:wr.cell? ⟨g,i,none⟩=some (.int .i64 (z:Int)):=by
      refine fr_cell I.out.fr ?_ (fun hk=>?_)
      ·rw [O4.out.cellAt i (by omega),zI_get (by rw [HLL.out];exact hiL),hz]
      ·rcases hk with hk |hk
       ·have:=HNS.out g (Or.inr (Or.inl hk));omega
       ·omega
     have hzm:1≤z∧z≤T:=by
      rw [←hz]
      refine pastL_mem (c:=c) (np:=np) ?_
      rw [List.getD,List.getElem?_eq_getElem (by rw [HLL.out];exact hiL)]
      exact List.getElem_mem _
     have hTs:T=sure.length:=by rw [←HT.out];exact HXP.out
     have hoff:d.off=false:=by
      rcases HO.out with h1 |h1
      ·exact h1
      ·have:=HLL.out;rw [h1]at this;simp at this;omega
     have hcn:=I.out.cnt.1
     have cb:=hid (before_call p x P C' d s' sure (z - 1) wr I.out.core I.out.fits HF.out HL.out hoff (by omega) hb (by omega))
     rw [show z - 1+1=z by omega]at cb
     have hIl:=I.out.len
     have HZ:=hid hz
     have hiI:(i:Int)<(L:Int):=by omega
     have hi0:(0:Int)≤(i:Int):=by omega
     clear hz hTs hoff hcn hg2 hzm
     go_wp2_with (go_at_call 116;refine cb.out.mono ?_;rintro e w5 ⟨a,cap5,rfl,hr5,ha5,hbt⟩;obtain ⟨row5,C5,s5,I5⟩:=I.out.step hiL (by rw [HZ.out];exact hr5) ha5 hbt;have k0:=(row5.cellAt (i*2)).trans (row_get0 hIl.symm);have k1:=(row5.cellAt (i*2+1)).trans (row_get1 hIl.symm);have f0:=row5.frozenAt (i*2);have f1:=row5.frozenAt (i*2+1);rw [HZ.out]at I5;have I6:=hid I5;clear hr5 ha5 hbt row5 I5 hbs a0 a1 a2 a3 a4 a5 a6 a7 a8 a9 a10 a11 hcz)
     exact ⟨⟨i+1,C5,s5,_,by omega,by go_num,I6⟩,by simp [Lib.intOf];omega⟩
    ·obtain rfl:i=L:=by omega
     have hops:d.ops≤1000000000:=I.out.core.dk.ok.op
     have hbox:Jrn.HB 140 wr (S+1) 0 0 0:=by
      have h1:Jrn.HB 140 W2 (S+1) 0 0 0:=HZ0.out.under HB2.out (by omega)
      have h2:=HRW.out.2
      exact (I.out.fr.blk (S+1) (by omega) (fun hk=>by
       rcases hk with hk |hk
       ·have:=HNS.out _ (Or.inr (Or.inl hk));omega
       ·omega)).trans h1
     have HBX2:=hid hbox
     obtain ⟨hd,hhd⟩:∃ hd,hd=wr.heap.size:=⟨_,rfl⟩
     obtain ⟨WA,hWA⟩:∃ WA,WA=(wr.alloc (.cells #[.int .i64 0,.int .i64 0,.int .u64 0] 140)).drew:=⟨_,rfl⟩
     have hbA:Below wr.drew.heap.size wr.drew WA:=by rw [hWA];exact redrew (Below.alloc (Below.refl _ _) (Nat.le_refl _) _).drew
     have HDK:=hid (And.intro (I.out.core.dk.later (Below.refl _ _).drew) ((I.out.core.dk.later (Below.refl _ _).drew).later hbA))
     have hzA:Jrn.HB 140 WA hd 0 0 0:=by rw [hWA,hhd];exact (Jrn.HB.new 140 wr 0 0 0).keep (Below.refl _ _).drew
     obtain ⟨WB,hWB⟩:∃ WB,WB=((WA.setCell ⟨hd,0,none⟩ (.int .i64 (i:Int))).setCell ⟨hd,1,none⟩ (.int .i64 (T:Int))).setCell ⟨hd,2,none⟩ (.int .u64 (d.ops:Int)):=⟨_,rfl⟩
     have hzB:Jrn.HB 140 WB hd i T d.ops:=by rw [hWB];exact hzA.set i T d.ops
     have hbB:Below wr.drew.heap.size wr.drew WB:=by rw [hWB];exact ((hbA.setCell (by rw [hhd];exact Nat.le_refl _) _).setCell (by rw [hhd];exact Nat.le_refl _) _).setCell (by rw [hhd];exact Nat.le_refl _) _
     have HBA:=hid hbA;have HBB:=hid hbB;have HZA:=hid hzA;have HZB:=hid hzB;have HWA:=hid hWA;have HWB:=hid hWB;have HHD:=hid hhd
     have HBR:=hid (HBX2.out.keep (undrew hbB))
     have CL:Hid (wr.drew.cell? ⟨S,0,none⟩=some (.pointer (some ⟨p,0,none⟩))∧wr.drew.cell? ⟨p,4,none⟩=some (.int .i64 (T:Int))∧wr.drew.cell? ⟨p,2,none⟩=some (.pointer (some ⟨x.q,0,none⟩))):=hid ⟨hbs,a4,a2⟩
     have hopsU:IntKind.u64.wrap (d.ops:Int)=(d.ops:Int):=IntWalk.u64_in _ ⟨by omega,by omega⟩
     clear hbox hbs a0 a1 a2 a3 a4 a5 a6 a7 a8 a9 a10 a11 hbA hzA hWB hzB hbB hWA
     clear hhd
     go_upto_region 15 with fail
     refine wp_region_K (S:=Gr wr.drew) (fun _=>false) (by kernel_rfl) (Below.refl _ _) (fun hHeld=>?_)
     refine gkp 0 ?_
     refine gkp 1 ?_
     refine gkt 2 ?_ (h:=by intro W hSw;obtain ⟨e0,e1,e2⟩:=CL.out;have a0:=keep_old hSw e0;have a1:=keep_old hSw e1;have a2:=keep_old hSw e2;go_simp;first |done |with_reducible rfl)
     refine gkp 3 ?_
     refine gkp 4 ?_
     refine gkt 5 ?_ (h:=by intro W hSw;obtain ⟨e0,e1,e2⟩:=CL.out;have a0:=keep_old hSw e0;have a1:=keep_old hSw e1;have a2:=keep_old hSw e2;go_simp;first |done |with_reducible rfl)
     refine gkt 6 ?_ (h:=by intro W hSw;obtain ⟨e0,e1,e2⟩:=CL.out;have a0:=keep_old hSw e0;have a1:=keep_old hSw e1;have a2:=keep_old hSw e2;go_simp;first |done |with_reducible rfl)
     refine gkp 7 ?_
     refine gkp 8 ?_
     refine gkt 9 ?_ (h:=by intro W hSw;obtain ⟨e0,e1,e2⟩:=CL.out;have a0:=keep_old hSw e0;have a1:=keep_old hSw e1;have a2:=keep_old hSw e2;go_simp;first |done |with_reducible rfl)
     refine wpAnyK_ready (rs:=[10,13]) (by kernel_rfl) (by simp) ?_
     refine AllReadyK.cons (op_at _ 10 _ rfl) (fun K hK=>?_) ?_
     ·go_simp
      go_at_call 117;refine (Dsk.ops_any x.q P d wr.drew HDK.out.1).mono ?_;rintro e w4 ⟨rfl,hw⟩;obtain rfl:=hw.symm;have hR:Gr wr.drew wr.drew:=Below.refl _ _
      refine hK.out _ _ hR (fun hHeld=>?_)
      clear hK K
      (try simp only [Act.put,sA,sZ,sS])
      clear hR
      refine gkp 11 ?_ (v:=.int .u64 (d.ops:Int)) (h:=by intro W hSw;go_simp;first |done |with_reducible rfl |(simp [hopsU]))
      refine gkp 12 ?_
      refine gk1 13 (fun K hK=>?_)
      go_simp
      rw [←HWA.out,←HHD.out];have hR:Gr wr.drew WA:=HBA.out
      refine hK.out _ _ hR (fun hHeld=>?_)
      clear hK K
      (try simp only [Act.put,sA,sZ,sS])
      clear hR
      refine gk1 14 (fun K hK=>?_)
      go_simp
      (try rw [←HWA.out]);obtain ⟨z0,z1,z2,f0,f1,f2⟩:=HZA.out.cells;go_simp;rw [←HWB.out];have hR:Gr wr.drew WB:=HBB.out
      refine hK.out _ _ hR (fun hHeld=>?_)
      clear hK K
      (try simp only [Act.put,sA,sZ,sS])
      clear hR
      refine wpAnyK_done (by kernel_rfl) ?_ _
      obtain ⟨z0,z1,z2,_,_,_⟩:=HZB.out.cells
      obtain ⟨r0,r1,r2,g0,g1,g2⟩:=HBR.out.cells
      have hne:¬hd=S+1:=(by have:=HHD.out;have:=HRW.out.2;have:=I.out.fr.size;omega)
      go_wp2
      (try simp only [Exit.inBlock,Exit.then])
      refine bodyPost_ret (Jrn.ret_head3 rfl Jrn.agg24 Jrn.size24 rfl (HBR.out.set i T d.ops)) rfl ?_
      obtain ⟨s1,s2,s3,s4,s5⟩:=set3_facts WB (S+1) (.int .i64 (i:Int)) (.int .i64 (T:Int)) (.int .u64 (d.ops:Int))
      exact ⟨some ⟨R,0,none⟩,⟨i,by rw [HLL.out];rfl⟩,I.out.done HLL.out HSS.out HNS.out (HB0.out.trans (HB2.out.mono (by have:=HSS.out;omega))) hSR HBX2.out (by rw [s1];exact HBB.out.size) (fun b hb hbn=>(s2 b hbn).trans (HBB.out.block b hb)) (s3.trans HBB.out.os) (s4.trans HBB.out.tape) (s5.trans HBB.out.output)⟩
     refine AllReadyK.cons (op_at _ 13 _ rfl) (fun K hK=>?_) ?_
     ·go_simp
      rw [←HWA.out,←HHD.out];have hR:Gr wr.drew WA:=HBA.out
      refine hK.out _ _ hR (fun hHeld=>?_)
      clear hK K
      (try simp only [Act.put,sA,sZ,sS])
      clear hR
      refine gk1 10 (fun K hK=>?_)
      go_simp
      go_at_call 117;refine (Dsk.ops_any x.q P d WA HDK.out.2).mono ?_;rintro e w4 ⟨rfl,hw⟩;obtain rfl:=hw.symm;have hR:Gr wr.drew WA:=HBA.out
      refine hK.out _ _ hR (fun hHeld=>?_)
      clear hK K
      (try simp only [Act.put,sA,sZ,sS])
      clear hR
      refine gkp 11 ?_ (v:=.int .u64 (d.ops:Int)) (h:=by intro W hSw;go_simp;first |done |with_reducible rfl |(simp [hopsU]))
      refine gkp 12 ?_
      refine gk1 14 (fun K hK=>?_)
      go_simp
      (try rw [←HWA.out]);obtain ⟨z0,z1,z2,f0,f1,f2⟩:=HZA.out.cells;go_simp;rw [←HWB.out];have hR:Gr wr.drew WB:=HBB.out
      refine hK.out _ _ hR (fun hHeld=>?_)
      clear hK K
      (try simp only [Act.put,sA,sZ,sS])
      clear hR
      refine wpAnyK_done (by kernel_rfl) ?_ _
      obtain ⟨z0,z1,z2,_,_,_⟩:=HZB.out.cells
      obtain ⟨r0,r1,r2,g0,g1,g2⟩:=HBR.out.cells
      have hne:¬hd=S+1:=(by have:=HHD.out;have:=HRW.out.2;have:=I.out.fr.size;omega)
      go_wp2
      (try simp only [Exit.inBlock,Exit.then])
      refine bodyPost_ret (Jrn.ret_head3 rfl Jrn.agg24 Jrn.size24 rfl (HBR.out.set i T d.ops)) rfl ?_
      obtain ⟨s1,s2,s3,s4,s5⟩:=set3_facts WB (S+1) (.int .i64 (i:Int)) (.int .i64 (T:Int)) (.int .u64 (d.ops:Int))
      exact ⟨some ⟨R,0,none⟩,⟨i,by rw [HLL.out];rfl⟩,I.out.done HLL.out HSS.out HNS.out (HB0.out.trans (HB2.out.mono (by have:=HSS.out;omega))) hSR HBX2.out (by rw [s1];exact HBB.out.size) (fun b hb hbn=>(s2 b hbn).trans (HBB.out.block b hb)) (s3.trans HBB.out.os) (s4.trans HBB.out.tape) (s5.trans HBB.out.output)⟩
     exact AllReadyK.nil
end
end Go.Proofs.YtgjgkpnjchflaaaGreatDoor
