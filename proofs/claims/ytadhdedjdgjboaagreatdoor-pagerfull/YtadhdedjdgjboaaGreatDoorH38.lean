/- What store leaves of a disk: all, or nothing, or what can be replayed. No statement of the seat is proved here. -/
import Derived.Test.YtadhdedjdgjboaaGreatDoorH37
set_option maxHeartbeats 16000000
set_option maxRecDepth 20000
namespace Go.Proofs.YtadhdedjdgjboaaGreatDoor
section
open Go.RowKit Go.Maps
open Dsk (DS FS Sec Stay noughts was idx mem_idx idx_lt idx_rising crash1 crashN sureF crashF crashS n_le next_t crash1_len crashS_facts crashF_len sureF_ok crashF_ok disarmD startD crashD clip clip_le opsD tickD fullD known wr1 wrN wrN_ok writeD syncD cutF cutD lenD)
def ByteS(G:List Sec):Prop:=∀ x∈G,x.length=128∧∀ b∈x,b<256
structure ColdD (d:DS) (A:List Pg) (N:Nat):Prop where
 f0:d.f0=sureF (secsOf A)
 f1:∃ G,d.f1=sureF G∧ByteS G∧G.length≤N∧Jrn.hotN G.flatten=false
variable {G:List Sec}
theorem flat_last(hb:ByteS G):G.flatten.getD 127 0=(G.getD 0 []).getD 127 0:=by
 cases G with
 | nil=>rfl
 | cons x r=>
  have:=(hb x List.mem_cons_self).1
  simp only [List.flatten_cons,List.getD_cons_zero]
  rw [getD_app,if_pos (by omega)]
variable {F:FS}
theorem was_bytes(ho:∀ x∈F.old,∀ b∈x,b<256)(k:Nat):∀ b∈was F.old k,b<256:=by
 unfold was
 rcases Nat.lt_or_ge k F.old.length with h |h
 ·rw [List.getD,List.getElem?_eq_getElem h];exact ho _ (List.getElem_mem h)
 ·rw [getD_past _ h]
  intro b hb
  have:=List.eq_of_mem_replicate hb;omega
theorem crashed_bytes(ok:F.Ok)(hc:Crashed F G)(hn:∀ x∈F.now,∀ b∈x,b<256)(ho:∀ x∈F.old,∀ b∈x,b<256):ByteS G:=by
 intro x hx
 obtain ⟨k,hk,rfl⟩:=List.mem_iff_getElem.1 hx
 have h1:=hc.at_ k hk
 have hkn:k<F.now.length:=Nat.lt_of_lt_of_le hk hc.hi
 have e:G.getD k []=G[k]:=by rw [List.getD,List.getElem?_eq_getElem hk];rfl
 have en:F.now.getD k []=F.now[k]:=by rw [List.getD,List.getElem?_eq_getElem hkn];rfl
 rw [e,en]at h1
 have l1:=ok.sn _ (List.getElem_mem hkn)
 have b1:=hn _ (List.getElem_mem hkn)
 split at h1
 ·obtain ⟨n,hn8,h2⟩:=h1
  rw [h2]
  refine ⟨by rw [List.length_append,List.length_take,List.length_drop,wasLen ok,l1];omega,fun b hb=>?_⟩
  rcases List.mem_append.1 hb with h |h
  ·exact b1 b (List.mem_of_mem_take h)
  ·exact was_bytes ho k b (List.mem_of_mem_drop h)
 ·rw [h1];exact ⟨l1,b1⟩
theorem take_drop_last{x y:List Nat}{n:Nat}(hx:x.length=128)(hn:n≤128):(x.take n++y.drop n).getD 127 0=if n=128 then x.getD 127 0 else y.getD 127 0:=by
 rw [getD_app,List.length_take,hx]
 by_cases h:n=128
 ·subst h
  rw [if_pos (by omega),if_pos rfl]
  simp only [List.getD,List.getElem?_take,if_pos (show 127<128 by omega)]
 ·rw [if_neg (by omega),if_neg h]
  simp only [List.getD,List.getElem?_drop]
  rw [show n+(127 - min n 128)=127 by omega]
theorem wrN_new:∀ (ss:List Sec) (n o:List Sec) (dt:List Bool),wrN ⟨n,o,dt⟩ n.length ss=⟨n++ss,o,dt++List.replicate ss.length true⟩
 | [],n,o,dt=>by simp [wrN]
 | s::r,n,o,dt=>by
  have e:wr1 ⟨n,o,dt⟩ n.length s=⟨n++[s],o,dt++[true]⟩:=by unfold wr1;simp
  have:=wrN_new r (n++[s]) o (dt++[true])
  rw [List.length_append]at this
  show wrN (wr1 ⟨n,o,dt⟩ n.length s) (n.length+1) r=_
  rw [e]
  simp only [List.length_cons,List.length_nil,Nat.zero_add]at this
  rw [this]
  simp [List.replicate_succ]
variable {d:DS} {room:Nat} {arm tight:Prop}
theorem wr1_step(he:Env arm room d)(ss:List Sec)(hs:ss.length≠0)(hd:d.f1.dirt.length=d.f1.now.length)(hnf:tight∨ss.length≤d.f1.now.length∨d.f0.now.length+ss.length≤room) :
  Res (fun d'=>Env arm room d'∧d'=(tickD d).put 1 (wrN d.f1 0 ss)) (Dead arm room d) (fun d'=>tight∧d'=tickD d) ((Stp.wr 1 0 ss).go d):=by
 have hk:known 1=true:=rfl
 have hf:d.file 1=d.f1:=rfl
 have hsum:=he.sum;have hrm:=he.rm
 show Res _ _ _ (writeD d 1 0 ss)
 unfold writeD
 rw [he.on,hk,hf]
 simp only [Bool.false_eq_true,if_false,Bool.not_true]
 rw [if_neg (by omega),if_neg hs]
 by_cases hl:d.left=1
 ·rw [if_pos hl];exact .dead _ (he.dead hl)
 ·rw [if_neg hl,show (0:Int).toNat=0 from rfl,Nat.zero_add]
  obtain ⟨_,e2,_⟩:=wrN_at ss d.f1 0 (Nat.zero_le _) hd
  by_cases hfl:fullD d d.f1.now.length ss.length=true
  ·rw [if_pos hfl]
   refine .full _ ⟨?_,rfl⟩
   unfold fullD at hfl
   simp only [decide_eq_true_eq]at hfl
   rcases hnf with h |h |h
   ·exact h
   ·omega
   ·omega
  ·rw [if_neg hfl]
   refine .ok _ ⟨⟨he.on,fun h=>by have:=he.lf h;show d.left - 1=0;omega,he.rm,?_⟩,rfl⟩
   show d.f0.now.length+(wrN d.f1 0 ss).now.length≤d.room
   rw [e2]
   unfold fullD at hfl
   simp only [decide_eq_true_eq]at hfl
   omega
theorem Dead.f0sure{d':DS}(h:Dead arm room d d'){L:List Sec}(e:d.f0=sureF L):d'.f0=sureF L:=by
 obtain ⟨s,_,e2⟩:=h.f0
 rw [e2,e,(crashF_sure L s).1]
theorem chunks_head(k:Nat)(x y:List Nat)(hx:x.length=128):chunks (1+k) (x++y)=x::chunks k y:=by
 rw [Nat.add_comm,chunks,List.take_left' hx,List.drop_left' hx]
theorem chunksBytes:∀ (k:Nat) (x:List Nat),(∀ b∈x,b<256)→∀ s∈chunks k x,∀ b∈s,b<256
 | 0,_,_=>by intro s hs;cases hs
 | k+1,x,h=>by
  intro s hs
  rcases List.mem_cons.1 hs with rfl |hs
  ·exact fun b hb=>h b (List.mem_of_mem_take hb)
  ·exact chunksBytes k (x.drop 128) (fun b hb=>h b (List.mem_of_mem_drop hb)) s hs
variable {M N:Nat} {A:List Pg}
theorem rec_res{L:Nat}{X:Nat→Prop}(h0 h1 r:List Nat)(hA:Base (sureF (secsOf A)) A A.length M X)(he:Env arm room d)(hs:Sured d A)
  (l0:h0.length=128) (l1:h1.length=128) (lr:r.length=5*L*128) (b0:∀ b∈h0,b<256) (b1:∀ b∈h1,b<256) (br:∀ b∈r,b<256) (z0:h0.getD 127 0=0) (hN:1+5*L≤N) (ht:tight∨A.length*4+(1+5*L)≤room) :
  Res (fun d'=>Env arm room d'∧d'.f0=sureF (secsOf A)∧d'.f1=sureF (chunks (1+5*L) (h1++r))) (fun d'=>arm∧d'.off=true∧d'.room=room∧(ColdD d' A N∨HotD d' A A.length M X (chunks (1+5*L) (h1++r)))) (fun d'=>tight∧Env arm room d'∧Sured d' A)
   (firstD [.wr 1 0 (chunks (1+5*L) (h0++r)),.sy 1,.wr 1 0 (chunks 1 h1),.sy 1] d):=by
 obtain ⟨S0,hS0⟩:∃ S0,S0=chunks (1+5*L) (h0++r):=⟨_,rfl⟩
 have eS:S0=h0::chunks (5*L) r:=by rw [hS0,chunks_head _ _ _ l0]
 have eJ:chunks (1+5*L) (h1++r)=h1::chunks (5*L) r:=chunks_head _ _ _ l1
 have eH:chunks 1 h1 = [h1]:=by
  have:=chunks_head 0 h1 [] l1
  simpa [chunks] using this
 have hSl:S0.length=1+5*L:=by rw [hS0,chunks_length]
 have bS:ByteS S0:=fun x hx=>⟨chunks_each (1+5*L) (h0++r) (by rw [List.length_append,l0,lr];omega) x (by rw [←hS0];exact hx),chunksBytes _ _ (by intro b hb;rcases List.mem_append.1 hb with h |h;exact b0 b h;exact br b h) x (by rw [←hS0];exact hx)⟩
 have okS:∀ G,ByteS G→(sureF G).Ok:=fun G h=>sureF_ok (fun x hx=>(h x hx).1)
 have l0A:(sureF (secsOf A)).now.length=A.length*4:=secsOf_length A
 rw [←hS0,eH,eJ]
 -- what is not hot
 have cold:∀ {d d':DS} {G:List Sec},Dead arm room d d'→d.f0=sureF (secsOf A)→d.f1=sureF G→ByteS G→G.length≤N→(G.getD 0 []).getD 127 0=0→ColdD d' A N:=fun hd e0 e1 hb hl hz=>⟨hd.f0sure e0,_,hd.f1 _ e1,hb,hl,Jrn.not_hot _ (by rw [flat_last hb];exact hz)⟩
 have z1:(S0.getD 0 []).getD 127 0=0:=by rw [eS];exact z0
 refine Res.cons (I:=fun d'=>Env arm room d'∧d'.f0=sureF (secsOf A)∧d'.f1=⟨S0,[],List.replicate S0.length true⟩) ((wr1_step (tight:=tight) he S0 (by omega) (by rw [hs.f1];rfl) (by rcases ht with h |h;exact Or.inl h;(right;right;rw [hs.f0,l0A,hSl];exact h))).imp (fun d' h=>?_) (fun d' h=>?_) (fun d' h=>?_)) (fun d1 h=>?_)
 ·obtain ⟨h1,h2⟩:=h
  rw [h2]at h1 ⊢
  refine ⟨h1,hs.f0,?_⟩
  show wrN d.f1 0 S0=_
  rw [hs.f1]
  exact (wrN_new S0 [] [] []).trans (by simp)
 ·exact ⟨h.arm,h.off,h.rm,Or.inl (cold h hs.f0 hs.f1 (by intro x hx;cases hx) (Nat.zero_le _) rfl)⟩
 ·obtain ⟨h1,h2⟩:=h
  rw [h2]
  exact ⟨h1,⟨he.on,fun h=>by have:=he.lf h;show d.left - 1=0;omega,he.rm,he.sum⟩,hs.f0,hs.f1⟩
 obtain ⟨e1,p1,q1⟩:=h
 have ok1:(FS.mk S0 [] (List.replicate S0.length true)).Ok:=⟨by simp,by simp,fun x hx=>(bS x hx).1,(fun x hx=>by cases hx),fun i hi hd=>by
  simp only [List.getD,List.getElem?_replicate,if_pos (show i<S0.length from hi)]at hd
  cases hd⟩
 refine Res.cons (I:=fun d'=>Env arm room d'∧d'.f0=sureF (secsOf A)∧d'.f1=sureF S0) ((sync_step e1 1 (Or.inr rfl)).imp (fun d' h=>?_) (fun d' h=>?_) (fun d' h=>h.elim)) (fun d2 h=>?_)
 ·obtain ⟨h1,h2⟩:=h
  rw [h2]at h1 ⊢
  refine ⟨h1,p1,?_⟩
  show sureF d1.f1.now=_
  rw [q1]
 ·refine ⟨h.arm,h.off,h.rm,Or.inl ⟨h.f0sure p1,?_⟩⟩
  obtain ⟨s,hs8,e⟩:=h.g1 (by rw [p1];exact hA.ok)
  rw [q1]at e
  obtain ⟨G,eG,hc⟩:=crashF_is ok1 hs8
  have hbG:=crashed_bytes ok1 hc (fun x hx=>(bS x hx).2) (fun x hx=>by cases hx)
  have hGl:G.length≤S0.length:=hc.hi
  refine ⟨G,e.trans eG,hbG,by omega,Jrn.not_hot _ ?_⟩
  rw [flat_last hbG]
  rcases Nat.eq_zero_or_pos G.length with hz |hz
  ·rw [List.eq_nil_of_length_eq_zero hz];rfl
  ·have h3:=hc.at_ 0 hz
   rw [if_pos (by simp [eS])]at h3
   obtain ⟨n,hn,h4⟩:=h3
   rw [h4,eS]
   simp only [List.getD_cons_zero]
   rw [take_drop_last l0 hn]
   split
   ·exact z0
   ·simp [was,noughts]
 obtain ⟨e2,p2,q2⟩:=h
 have ok2:=okS S0 bS
 refine Res.cons (I:=fun d'=>Env arm room d'∧d'.f0=sureF (secsOf A)∧d'.f1=⟨h1::chunks (5*L) r,S0,true::List.replicate (5*L) false⟩) ((wr1_step (tight:=False) e2 [h1] (by simp) (by rw [q2];exact ok2.ld) (by right;left;rw [q2];show 1≤S0.length;omega)).imp (fun d' h=>?_) (fun d' h=>?_) (fun d' h=>h.1.elim)) (fun d3 h=>?_)
 ·obtain ⟨h1',h2⟩:=h
  rw [h2]at h1' ⊢
  refine ⟨h1',p2,?_⟩
  show wrN d2.f1 0 [h1]=_
  rw [q2]
  show wr1 (sureF S0) 0 h1=_
  unfold wr1
  rw [if_pos (show 0<(sureF S0).now.length by show 0<S0.length;omega)]
  simp only [sureF]
  rw [hSl,eS,Nat.add_comm,List.replicate_succ]
  rfl
 ·exact ⟨h.arm,h.off,h.rm,Or.inl (cold h p2 q2 bS (by omega) z1)⟩
 obtain ⟨e3,p3,q3⟩:=h
 have hcr:(chunks (5*L) r).length=5*L:=chunks_length _ _
 have ok3:(FS.mk (h1::chunks (5*L) r) S0 (true::List.replicate (5*L) false)).Ok:=by
  refine ⟨by simp [hcr],by simp [hcr,hSl];omega,fun x hx=>?_,fun x hx=>(bS x hx).1,fun i hi hd=>?_⟩
  ·rcases List.mem_cons.1 hx with rfl |hx
   ·exact l1
   ·exact (bS x (by rw [eS];exact List.mem_cons_of_mem _ hx)).1
  ·cases i with
   | zero=>simp at hd
   | succ i=>
    simp only [List.length_cons,hcr]at hi
    refine ⟨by rw [hSl];omega,?_⟩
    show (h1::chunks (5*L) r).getD (i+1) []=S0.getD (i+1) noughts
    rw [eS,List.getD_cons_succ,List.getD_cons_succ,List.getD,List.getD,List.getElem?_eq_getElem (by rw [hcr];omega)];rfl
 refine Res.cons (I:=fun d'=>Env arm room d'∧d'.f0=sureF (secsOf A)∧d'.f1=sureF (h1::chunks (5*L) r)) ((sync_step e3 1 (Or.inr rfl)).imp (fun d' h=>?_) (fun d' h=>?_) (fun d' h=>h.elim)) (fun d4 h=>.ok d4 h)
 ·obtain ⟨h1',h2⟩:=h
  rw [h2]at h1' ⊢
  refine ⟨h1',p3,?_⟩
  show sureF d3.f1.now=_
  rw [q3]
 ·refine ⟨h.arm,h.off,h.rm,?_⟩
  obtain ⟨s,hs8,e⟩:=h.g1 (by rw [p3];exact hA.ok)
  rw [q3]at e
  obtain ⟨G,eG,hc⟩:=crashF_is ok3 hs8
  have hlo:S0.length≤G.length:=hc.lo
  have hhi:=hc.hi
  simp only [List.length_cons,hcr]at hhi
  have hbG:ByteS G:=crashed_bytes ok3 hc (fun x hx=>by rcases List.mem_cons.1 hx with rfl |hx;exact b1;exact (bS x (by rw [eS];exact List.mem_cons_of_mem _ hx)).2) (fun x hx=>(bS x hx).2)
  have h3:=hc.at_ 0 (by omega)
  simp only [List.getD_cons_zero,if_true]at h3
  obtain ⟨n,hn,h4⟩:=h3
  have ew:was S0 0=h0:=by unfold was;rw [eS];rfl
  rw [ew]at h4
  by_cases hn8:n=128
  ·right
   refine ⟨by rw [h.f0sure p3];exact hA,?_⟩
   have hG:G=h1::chunks (5*L) r:=by
    refine ext_at [] (by simp [hcr];omega) (fun i hi=>?_)
    simp only [List.length_cons,hcr]at hi
    cases i with
    | zero=>rw [h4,hn8,List.take_of_length_le (by omega),List.drop_of_length_le (by omega)];simp
    | succ i=>
     have h5:=hc.at_ (i+1) (by omega)
     simp only [List.getD_cons_succ]at h5
     rw [getD_replicate]at h5
     simpa using h5
   rw [e.trans eG,hG]
  ·left
   refine ⟨h.f0sure p3,G,e.trans eG,hbG,by omega,Jrn.not_hot _ ?_⟩
   rw [flat_last hbG,h4,take_drop_last l1 hn,if_neg hn8];exact z0
theorem off_first(ho:d.off=true):∀ l,firstD l d=(0,d)∨firstD l d=(4,d)
 | []=>Or.inl rfl
 | s::r=>by
  have h:s.go d=(0,d)∨s.go d=(4,d):=by
   cases s with
   | wr f a ss=>right;show writeD d f a ss=_;unfold writeD;rw [ho];rfl
   | sy f=>right;show syncD d f=_;unfold syncD;rw [ho];rfl
   | ct f n=>
    show (if _ then _ else cutD d f n)=_∨(if _ then _ else cutD d f n)=_
    split
    ·left;rfl
    ·right;unfold cutD;rw [ho];rfl
  rw [firstD]
  rcases h with h |h
  ·rw [h,if_pos rfl];exact off_first ho r
  ·rw [h,if_neg (show ¬(4:Int)=0 by decide)];right;rfl
theorem off_undone(ho:d.off=true)(l:List Stp):undoneD 4 l d=(4,d):=by
 unfold undoneD
 rcases off_first ho l with h |h<;>rw [h]<;>simp
theorem ops_step(s:Stp)(d:DS):(s.go d).2.ops≤d.ops+1∧(s.go d).2.room=d.room:=by
 cases s with
 | wr f a ss=>
  show (writeD d f a ss).2.ops≤_∧(writeD d f a ss).2.room=_
  unfold writeD
  repeat' split
  all_goals first |exact ⟨Nat.le_refl _,rfl⟩ |exact ⟨Nat.le_succ _,rfl⟩ |(simp only [DS.put];split<;>exact ⟨Nat.le_refl _,rfl⟩)
 | sy f=>
  show (syncD d f).2.ops≤_∧(syncD d f).2.room=_
  unfold syncD
  repeat' split
  all_goals first |exact ⟨Nat.le_refl _,rfl⟩ |exact ⟨Nat.le_succ _,rfl⟩ |(simp only [DS.put];split<;>exact ⟨Nat.le_refl _,rfl⟩)
 | ct f n=>
  show (if _ then _ else cutD d f n).2.ops≤_∧(if _ then _ else cutD d f n).2.room=_
  split
  ·exact ⟨by simp,rfl⟩
  ·unfold cutD
   repeat' split
   all_goals first |exact ⟨Nat.le_refl _,rfl⟩ |exact ⟨Nat.le_succ _,rfl⟩ |(simp only [DS.put];split<;>exact ⟨Nat.le_refl _,rfl⟩)
theorem ops_first:∀ (l:List Stp) (d:DS),(firstD l d).2.ops≤d.ops+l.length∧(firstD l d).2.room=d.room
 | [],d=>⟨Nat.le_refl _,rfl⟩
 | s::r,d=>by
  have h:=ops_step s d
  rw [firstD]
  split
  ·have h2:=ops_first r (s.go d).2
   exact ⟨by simp only [List.length_cons];omega,h2.2.trans h.2⟩
  ·exact ⟨by simp only [List.length_cons];omega,h.2⟩
theorem ops_undone(e:Int)(l:List Stp)(d:DS):(undoneD e l d).2.ops≤d.ops+l.length:=by
 have:=(ops_first l d).1
 unfold undoneD;split<;>exact this
theorem backL_map(A:List Pg)(c:List Bool)(np:Nat):backL (jP c np A.length) (jD A c np A.length) (jL c np A.length)=(pastL c np A.length).map (pageStp A):=by
 unfold backL
 apply List.ext_getElem
 ·simp [jL]
 ·intro i h1 h2
  simp only [List.length_map]at h2
  simp only [List.getElem_map,List.getElem_range,pageStp,jP,jD]
  rw [List.getD,List.getElem?_eq_getElem h2];rfl
def KB(A B:List Pg):Nat:=min A.length B.length
def jS(A:List Pg)(c:List Bool)(np m:Nat):List Sec:=chunks (1+5*jL c np A.length) (Jrn.bytesN (jL c np A.length:Int) (A.length:Int) m true (jL c np A.length) (jP c np A.length) (jD A c np A.length))
def RDead(arm:Prop)(room:Nat)(A:List Pg)(K M N:Nat)(X:Nat→Prop)(J:List Sec)(d:DS):Prop:=arm∧d.off=true∧d.room=room∧(ColdD d A N∨HotD d A K M X J)
theorem store_res{B:List Pg}{c:List Bool}(hA:Whole A)(hB:Whole B)(he:Env arm room d)(hs:Sured d A)(hc:c.length=B.length)(hMA:A.length≤M)(hMB:B.length≤M)
  (hsm:∀ i,i<B.length→c.getD i false=false→i<A.length∧B.getD i []=A.getD i []) (okA:(sureF (secsOf A)).Ok)
  (lr:(Jrn.recsN (jP c B.length A.length) (jD A c B.length A.length) d.ops 0 (jL c B.length A.length)).length=5*jL c B.length A.length*128)
  (bb:∀ wh,∀ x∈Jrn.headN (jL c B.length A.length) A.length d.ops wh,x<256) (br:∀ x∈Jrn.recsN (jP c B.length A.length) (jD A c B.length A.length) d.ops 0 (jL c B.length A.length),x<256)
  (hN:1+5*jL c B.length A.length≤N) (ht:tight∨M*4+(1+5*jL c B.length A.length)≤room) :
  Res (fun d'=>Env arm room d'∧Sured d' B) (RDead arm room A (KB A B) M N (fun i=>i+1∈pastL c B.length A.length) (jS A c B.length d.ops)) (fun d'=>tight∧Env arm room d'∧Sured d' A) (storeD d A B c B.length):=by
 obtain ⟨l,hl⟩:∃ l,l=pastL c B.length A.length:=⟨_,rfl⟩
 obtain ⟨L,hL⟩:∃ L,L=jL c B.length A.length:=⟨_,rfl⟩
 obtain ⟨r,hr⟩:∃ r,r=Jrn.recsN (jP c B.length A.length) (jD A c B.length A.length) d.ops 0 (jL c B.length A.length):=⟨_,rfl⟩
 obtain ⟨J,hJ⟩:∃ J,J=jS A c B.length d.ops:=⟨_,rfl⟩
 have eb:∀ wh,Jrn.bytesN (jL c B.length A.length:Int) (A.length:Int) d.ops wh (jL c B.length A.length) (jP c B.length A.length) (jD A c B.length A.length)=Jrn.headN L A.length d.ops wh++r:=fun wh=>by unfold Jrn.bytesN;rw [hr,hL];rfl
 have hJl:J.length=1+5*L:=by rw [hJ,jS,chunks_length,hL]
 have baseA:∀ K,K≤A.length→Base (sureF (secsOf A)) A K M (fun i=>i+1∈l):=fun K hK=>⟨okA,by show _≤(secsOf A).length;rw [secsOf_length];omega,by show (secsOf A).length≤_;rw [secsOf_length];omega,hK,fun k hk _=>⟨getD_replicate _ _ _,rfl⟩⟩
 have hR:=rec_res (arm:=arm) (tight:=tight) (room:=room) (A:=A) (M:=M) (L:=L) (N:=N) (X:=fun i=>i+1∈l) (d:=d) (Jrn.headN L A.length d.ops false) (Jrn.headN L A.length d.ops true) r (baseA A.length (Nat.le_refl _)) he hs (Jrn.headN_length _ _ _ _) (Jrn.headN_length _ _ _ _) (by rw [hr,hL];exact lr) (by rw [hL];exact bb false) (by rw [hL];exact bb true) (by rw [hr];exact br) (by rw [Jrn.head_last];rfl) (by rw [hL];exact hN) (by rcases ht with h |h;exact Or.inl h;(right;rw [hL];omega))
 have eJ:chunks (1+5*L) (Jrn.headN L A.length d.ops true++r)=J:=by rw [hJ,jS,eb true,←hL]
 rw [eJ]at hR
 have er:recL (jL c B.length A.length) A.length d.ops (jP c B.length A.length) (jD A c B.length A.length) = [.wr 1 0 (chunks (1+5*L) (Jrn.headN L A.length d.ops false++r)),.sy 1,.wr 1 0 (chunks 1 (Jrn.headN L A.length d.ops true)),.sy 1]:=by
  unfold recL;rw [eb false,←hL]
 unfold storeD
 rw [er]
 obtain ⟨R1,hR1⟩:∃ R1,firstD [.wr 1 0 (chunks (1+5*L) (Jrn.headN L A.length d.ops false++r)),.sy 1,.wr 1 0 (chunks 1 (Jrn.headN L A.length d.ops true)),.sy 1] d=R1:=⟨_,rfl⟩
 rw [hR1]at hR ⊢
 simp only
 rw [←hJ,←hl]
 have kba:KB A B≤A.length:=by unfold KB;omega
 cases hR with
 | dead d' h=>
  obtain ⟨h1,h2,h3,h4⟩:=h
  rw [if_neg (show ¬(4:Int)=0 by decide)]
  simp only
  rw [off_undone h2]
  refine .dead _ ⟨h1,h2,h3,?_⟩
  rcases h4 with h4 |h4
  ·exact Or.inl h4
  ·exact Or.inr ⟨⟨h4.base.ok,by have:=h4.base.lo;omega,h4.base.hi,kba,fun k hk hx=>h4.base.at_ k (by omega) hx⟩,h4.f1⟩
 | full d' h=>
  obtain ⟨h1,h2,h3⟩:=h
  rw [if_neg (show ¬(3:Int)=0 by decide)]
  simp only
  have e:undoneD 3 [.ct 1 0] d'=(3,d'):=by
   have:firstD [.ct 1 0] d'=(0,d'):=by
    have hz:lenD d' 1=0:=by
     show d'.f1.now.length=0
     rw [h3.f1];rfl
    have hg:(Stp.ct 1 0).go d'=(0,d'):=if_pos (by rw [hz];exact Int.le_refl _)
    rw [firstD,hg];rfl
   unfold undoneD;rw [this];rfl
  rw [e]
  exact .full _ ⟨h1,h2,h3⟩
 | ok d1 h=>
  obtain ⟨e1,p1,q1⟩:=h
  rw [if_pos rfl]
  simp only
  have hH:HotD d1 A (KB A B) M (fun i=>i+1∈l) J:=⟨by rw [p1];exact baseA _ kba,q1⟩
  have hW:=written_res (arm:=arm) (tight:=tight) (room:=room) (l:=l) hB e1 hH p1 hc hMB hsm (fun z hz h=>by rw [hl];exact List.mem_append_left _ (List.mem_filter.2 ⟨hz,by simpa using h⟩)) (by rw [hJl,hL];exact ht)
  obtain ⟨R2,hR2⟩:∃ R2,firstD (writtenL B (chL c) B.length) d1=R2:=⟨_,rfl⟩
  rw [hR2]at hW ⊢
  cases hW with
  | ok d2 h=>rw [if_pos rfl];exact .ok _ h
  | dead d2 h=>
   obtain ⟨h1,h2,h3,h4⟩:=h
   rw [if_neg (show ¬(4:Int)=0 by decide)]
   simp only
   rw [off_undone h2]
   exact .dead _ ⟨h1,h2,h3,Or.inr h4⟩
  | full d2 h=>
   obtain ⟨h1,h2,h3,h4⟩:=h
   rw [if_neg (show ¬(3:Int)=0 by decide)]
   simp only
   have hrp:replayL (A.length:Int) (jP c B.length A.length) (jD A c B.length A.length) (jL c B.length A.length)=l.map (pageStp A)++[.ct 0 ((A.length:Int)*4),.sy 0,.ct 1 0]:=by
    unfold replayL;rw [backL_map,hl]
   rw [hrp]
   have hY:=replay_res (arm:=arm) (tight:=False) (room:=room) (n:=A.length) hA h2 h3 (by rw [hl];exact pastL_rising (by omega)) (fun z hz=>pastL_mem (by rw [←hl];exact hz)) hMA (fun y h5 h6=>by
    rw [hl]
    refine List.mem_append_right _ (List.mem_map.2 ⟨y - 1 - B.length,List.mem_range.2 ?_,?_⟩)
    ·omega
    ·omega) (by omega) (by omega) (Or.inr (Or.inl (Nat.le_refl _)))
   obtain ⟨R3,hR3⟩:∃ R3,firstD (l.map (pageStp A)++[.ct 0 ((A.length:Int)*4),.sy 0,.ct 1 0]) d2=R3:=⟨_,rfl⟩
   unfold undoneD
   rw [hR3]at hY ⊢
   cases hY with
   | ok d3 h=>rw [if_pos rfl];exact .full _ ⟨h1,h⟩
   | dead d3 h=>
    rw [if_neg (show ¬(4:Int)=0 by decide)]
    obtain ⟨k1,k2,k3,k4⟩:=h
    exact .dead _ ⟨k1,k2,k3,Or.inr k4⟩
   | full d3 h=>exact h.elim
end
end Go.Proofs.YtadhdedjdgjboaaGreatDoor
