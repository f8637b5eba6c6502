/- A disk in plain words: what writes and a loss of power leave at each place, and rows of steps. No statement of the seat is proved here. -/
import Derived.Test.YtgjgkpnjchflaaaGreatDoorS27
set_option maxHeartbeats 16000000
set_option maxRecDepth 20000
namespace Go.Proofs.YtgjgkpnjchflaaaGreatDoor
section
open Go.RowKit Go.Maps
open Dsk (DS FS Sec Stay noughts was idx mem_idx idx_lt idx_rising crash1 crashN sureF crashF crashS n_le next_t crash1_len crashS_facts crashF_len sureF_ok crashF_ok disarmD startD crashD clip clip_le opsD tickD fullD known wr1 wrN wrN_ok writeD syncD cutF cutD lenD)
theorem getD_replicate{α}(n i:Nat)(a:α):(List.replicate n a).getD i a=a:=by
 rw [List.getD,List.getElem?_replicate];split<;>rfl
theorem getD_set'{α}(l:List α)(i j:Nat)(a z:α):(l.set i a).getD j z=if i=j∧j<l.length then a else l.getD j z:=by
 simp only [List.getD,List.getElem?_set]
 by_cases h:i=j
 ·subst h
  by_cases h2:i<l.length
  ·simp [h2]
  ·simp [h2]
 ·simp [h]
theorem getD_app{α}(l r:List α)(j:Nat)(z:α):(l++r).getD j z=if j<l.length then l.getD j z else r.getD (j - l.length) z:=by
 simp only [List.getD,List.getElem?_append];split<;>rfl
theorem getD_past{α}(l:List α){j:Nat}(h:l.length≤j)(z:α):l.getD j z=z:=by
 simp [List.getD,List.getElem?_eq_none h]
theorem ext_at{α}{a b:List α}(z:α)(hl:a.length=b.length)(h:∀ i,i<b.length→a.getD i z=b.getD i z):a=b:=by
 apply List.ext_getElem hl
 intro i h1 h2
 have:=h i h2
 rwa [List.getD,List.getD,List.getElem?_eq_getElem h1,List.getElem?_eq_getElem h2]at this
theorem wr1_at(F:FS)(a:Nat)(s:Sec)(ha:a≤F.now.length)(hd:F.dirt.length=F.now.length) :
  (wr1 F a s).old=F.old∧(wr1 F a s).now.length=max F.now.length (a+1)∧(wr1 F a s).dirt.length=(wr1 F a s).now.length ∧
  (∀ k,(wr1 F a s).now.getD k []=if k=a then s else F.now.getD k [])∧∀ k,(wr1 F a s).dirt.getD k false=if k=a then true else F.dirt.getD k false:=by
 unfold wr1
 by_cases h:a<F.now.length
 ·rw [if_pos h]
  refine ⟨rfl,by simp;omega,by simp [hd],fun k=>?_,fun k=>?_⟩
  ·simp only [getD_set']
   by_cases hk:a=k
   ·subst hk;simp [h]
   ·rw [if_neg (by simp [hk]),if_neg (fun e=>hk e.symm)]
  ·simp only [getD_set',hd]
   by_cases hk:a=k
   ·subst hk;simp [h]
   ·rw [if_neg (by simp [hk]),if_neg (fun e=>hk e.symm)]
 ·rw [if_neg h]
  have e:a=F.now.length:=by omega
  subst e
  refine ⟨rfl,by simp,by simp [hd],fun k=>?_,fun k=>?_⟩
  ·simp only [getD_app]
   by_cases hk:k<F.now.length
   ·rw [if_pos hk,if_neg (by omega)]
   ·rw [if_neg hk]
    by_cases h2:k=F.now.length
    ·subst h2;simp
    ·rw [if_neg h2,getD_past _ (by simp;omega),getD_past _ (by omega)]
  ·simp only [getD_app,hd]
   by_cases hk:k<F.now.length
   ·rw [if_pos hk,if_neg (by omega)]
   ·rw [if_neg hk]
    by_cases h2:k=F.now.length
    ·subst h2;simp
    ·rw [if_neg h2,getD_past _ (by simp;omega),getD_past _ (by omega)]
theorem wrN_at:∀ (ss:List Sec) (F:FS) (a:Nat) (_:a≤F.now.length) (_:F.dirt.length=F.now.length),
  (wrN F a ss).old=F.old∧(wrN F a ss).now.length=max F.now.length (a+ss.length)∧(wrN F a ss).dirt.length=(wrN F a ss).now.length ∧
  (∀ k,(wrN F a ss).now.getD k []=if a≤k∧k<a+ss.length then ss.getD (k - a) [] else F.now.getD k [])∧∀ k,(wrN F a ss).dirt.getD k false=if a≤k∧k<a+ss.length then true else F.dirt.getD k false
 | [],F,a,ha,hd=>⟨rfl,by simp [wrN];omega,hd,fun k=>by rw [if_neg (by simp only [List.length_nil];omega)];rfl,fun k=>by rw [if_neg (by simp only [List.length_nil];omega)];rfl⟩
 | s::r,F,a,ha,hd=>by
  obtain ⟨h1,h2,h3,h4,h5⟩:=wr1_at F a s ha hd
  obtain ⟨i1,i2,i3,i4,i5⟩:=wrN_at r (wr1 F a s) (a+1) (by omega) h3
  have e:wrN F a (s::r)=wrN (wr1 F a s) (a+1) r:=rfl
  rw [e]
  refine ⟨i1.trans h1,by rw [i2,h2];simp;omega,i3,fun k=>?_,fun k=>?_⟩
  ·rw [i4]
   simp only [List.length_cons]
   by_cases hk:k=a
   ·subst hk
    rw [if_neg (by omega),if_pos (by omega),h4,if_pos rfl];simp
   ·by_cases hk2:a+1≤k∧k<a+1+r.length
    ·rw [if_pos hk2,if_pos (by omega),show k - a=(k - (a+1))+1 by omega];simp
    ·rw [if_neg hk2,if_neg (by omega),h4,if_neg hk]
  ·rw [i5]
   simp only [List.length_cons]
   by_cases hk:k=a
   ·subst hk
    rw [if_neg (by omega),if_pos (by omega),h5,if_pos rfl]
   ·by_cases hk2:a+1≤k∧k<a+1+r.length
    ·rw [if_pos hk2,if_pos (by omega)]
    ·rw [if_neg hk2,if_neg (by omega),h5,if_neg hk]
theorem crash_fold(F:FS):∀ (l:List Nat) (r:List Sec×Nat×Stay),l.Nodup→r.2.2.t≤128 →
  (l.foldl (crash1 F.old) r).1.length=r.1.length∧r.2.1≤(l.foldl (crash1 F.old) r).2.1∧((∀ i∈l,i<r.1.length)→r.2.1≤r.1.length→(l.foldl (crash1 F.old) r).2.1≤r.1.length) ∧
  ∀ k,k<r.1.length→if k∈l then ∃ n,n≤128∧(l.foldl (crash1 F.old) r).1.getD k []=(r.1.getD k []).take n++(was F.old k).drop n else (l.foldl (crash1 F.old) r).1.getD k []=r.1.getD k []
 | [],r,_,_=>⟨rfl,Nat.le_refl _,fun _ h=>h,fun k _=>by simp⟩
 | i::l,r,hn,ht=>by
  have hi:i∉l:=(List.nodup_cons.1 hn).1
  obtain ⟨h1,h2,h3,h4⟩:=crash_fold F l (crash1 F.old r i) (List.nodup_cons.1 hn).2 (next_t ht)
  have hl:=crash1_len F.old r i
  have hge:r.2.1≤(crash1 F.old r i).2.1:=by simp only [crash1];split<;>omega
  rw [List.foldl_cons]
  refine ⟨by rw [h1,hl],Nat.le_trans hge h2,fun hm hr=>?_,fun k hk=>?_⟩
  ·rw [hl]at h3
   refine h3 (fun j hj=>hm j (List.mem_cons_of_mem _ hj)) ?_
   have:=hm i List.mem_cons_self
   simp only [crash1];split<;>omega
  ·have h5:=h4 k (by rw [hl];exact hk)
   have hget:(crash1 F.old r i).1.getD k []=if i=k then (r.1.getD i []).take r.2.2.n++(was F.old i).drop r.2.2.n else r.1.getD k []:=by
    simp only [crash1,getD_set']
    by_cases e:i=k
    ·subst e;rw [if_pos ⟨rfl,hk⟩,if_pos rfl]
    ·rw [if_neg (by simp [e]),if_neg e]
   by_cases e:i=k
   ·subst e
    rw [if_neg hi]at h5
    rw [if_pos List.mem_cons_self,h5,hget,if_pos rfl]
    exact ⟨_,n_le ht,rfl⟩
   ·rw [hget,if_neg e]at h5
    by_cases hkl:k∈l
    ·rw [if_pos hkl]at h5;rw [if_pos (List.mem_cons_of_mem _ hkl)];exact h5
    ·rw [if_neg hkl]at h5;rw [if_neg (by intro h;rcases List.mem_cons.1 h with h |h;exact e h.symm;exact hkl h)];exact h5
theorem idx_nodup(d:List Bool):(idx d).Nodup:=List.Pairwise.imp (fun h=>by omega) (idx_rising d)
structure Crashed (F:FS) (G:List Sec):Prop where
 lo:F.old.length≤G.length
 hi:G.length≤F.now.length
 at_:∀ k,k<G.length→if F.dirt.getD k false=true then ∃ n,n≤128∧G.getD k []=(F.now.getD k []).take n++(was F.old k).drop n else G.getD k []=F.now.getD k []
variable {F:FS}
theorem crashF_is(ok:F.Ok){s:Stay}(hs:s.t≤128):∃ G,crashF F s=sureF G∧Crashed F G:=by
 have h:=crash_fold F (idx F.dirt) (F.now,F.old.length,s) (idx_nodup _) hs
 obtain ⟨h1,h2,h3,h4⟩:=h
 have h3':=h3 (fun i hi=>by rw [←ok.ld];exact idx_lt hi) ok.lo
 refine ⟨(crashN F s).1.take (crashN F s).2.1,rfl,?_⟩
 have hlen:((crashN F s).1.take (crashN F s).2.1).length=(crashN F s).2.1:=by
  rw [List.length_take];unfold crashN;simp only at h1 h3';rw [h1];omega
 refine ⟨by rw [hlen];exact h2,by rw [hlen];exact h3',fun k hk=>?_⟩
 rw [hlen]at hk
 have hk2:k<F.now.length:=Nat.lt_of_lt_of_le hk h3'
 have e:((crashN F s).1.take (crashN F s).2.1).getD k []=(crashN F s).1.getD k []:=by
  simp only [List.getD,List.getElem?_take,if_pos hk]
 rw [e]
 have h5:=h4 k hk2
 simp only [mem_idx]at h5
 exact h5
theorem idx_false(n:Nat):idx (List.replicate n false) = []:=by
 apply List.eq_nil_iff_forall_not_mem.2
 intro i hi
 have:=mem_idx.1 hi
 rw [getD_replicate]at this;cases this
theorem crashF_sure(J:List Sec)(s:Stay):crashF (sureF J) s=sureF J∧crashS (sureF J) s=s:=by
 have e:crashN (sureF J) s=(J,J.length,s):=by
  unfold crashN;simp only [sureF];rw [idx_false];rfl
 unfold crashF crashS
 rw [e]
 simp
def secAt(T:List Pg)(k:Nat):Sec:=(secsOf T).getD k []
variable {T:List Pg}
theorem secAt_page{i j:Nat}(hi:i<T.length)(hj:j<4):secAt T (i*4+j)=(chunks 4 (T.getD i [])).getD j []:=by
 rw [←secsOf_at hi,secAt]
 simp only [List.getD,List.getElem?_take,if_pos hj,List.getElem?_drop]
structure Base (F:FS) (A:List Pg) (K M:Nat) (X:Nat→Prop):Prop where
 ok:F.Ok
 lo:K*4≤F.old.length
 hi:F.now.length≤M*4
 ka:K≤A.length
 at_:∀ k,k<K*4→¬X (k/4)→F.dirt.getD k false=false∧F.now.getD k []=secAt A k
variable {X:Nat→Prop} {K M:Nat} {A:List Pg}
theorem Base.lo2(h:Base F A K M X):K*4≤F.now.length:=Nat.le_trans h.lo h.ok.lo
theorem Base.crash(h:Base F A K M X){s:Stay}(hs:s.t≤128):Base (crashF F s) A K M X:=by
 have hok:=crashF_ok h.ok hs
 obtain ⟨G,e,hc⟩:=crashF_is h.ok hs
 rw [e]at hok ⊢
 refine ⟨hok,Nat.le_trans h.lo hc.lo,Nat.le_trans hc.hi h.hi,h.ka,fun k hk hx=>⟨getD_replicate _ _ _,?_⟩⟩
 obtain ⟨h1,h2⟩:=h.at_ k hk hx
 have h3:=hc.at_ k (by have:=hc.lo;have:=h.lo;omega)
 rw [h1]at h3
 simp only [Bool.false_eq_true,if_false]at h3
 exact h3.trans h2
theorem Base.sync(h:Base F A K M X):Base (sureF F.now) A K M X:=
 ⟨sureF_ok h.ok.sn,h.lo2,h.hi,h.ka,fun k hk hx=>⟨getD_replicate _ _ _,(h.at_ k hk hx).2⟩⟩
theorem wasLen(ok:F.Ok)(i:Nat):(was F.old i).length=128:=by
 unfold was
 rcases Nat.lt_or_ge i F.old.length with h |h
 ·rw [List.getD,List.getElem?_eq_getElem h];exact ok.so _ (List.getElem_mem h)
 ·rw [getD_past _ h];simp [noughts]
theorem cutF_ok2(ok:F.Ok){n:Nat}(hn:n≤F.now.length):(cutF F n).Ok:=by
 have hl:(F.old.take n++List.replicate (n - F.old.length) noughts).length=n:=by simp;omega
 refine ⟨by simp [cutF,ok.ld],by simp only [cutF];rw [hl,List.length_take];omega,fun x hx=>ok.sn x (List.mem_of_mem_take hx),fun x hx=>?_,fun i hi hd=>?_⟩
 ·rcases List.mem_append.1 hx with h |h
  ·exact ok.so x (List.mem_of_mem_take h)
  ·rw [List.eq_of_mem_replicate h];simp [noughts]
 ·simp only [cutF,List.length_take]at hi hd ⊢
  have hin:i<n:=by omega
  have e1:F.dirt.getD i false=false:=by
   simp only [List.getD,List.getElem?_take,if_pos hin]at hd ⊢;exact hd
  obtain ⟨h1,h2⟩:=ok.cl i (by omega) e1
  refine ⟨by rw [hl];exact hin,?_⟩
  have e2:(F.now.take n).getD i []=F.now.getD i []:=by simp only [List.getD,List.getElem?_take,if_pos hin]
  rw [e2,h2]
  unfold was
  rw [getD_app,if_pos (by rw [List.length_take];omega)]
  simp only [List.getD,List.getElem?_take,if_pos hin]
theorem Base.cut(h:Base F A K M X){n:Nat}(hn:n≤F.now.length)(hk:K*4≤n):Base (cutF F n) A K M X:=by
 refine ⟨cutF_ok2 h.ok hn,by simp [cutF];omega,by simp only [cutF,List.length_take];have:=h.hi;omega,h.ka,fun k hkk hx=>?_⟩
 obtain ⟨h1,h2⟩:=h.at_ k hkk hx
 have hkn:k<n:=by omega
 constructor
 ·simp only [cutF,List.getD,List.getElem?_take,if_pos hkn];exact h1
 ·simp only [cutF]
  rw [←h2]
  simp only [List.getD,List.getElem?_take,if_pos hkn]
theorem Base.write(h:Base F A K M X){i:Nat}{ss:List Sec}(hss:∀ x∈ss,x.length=128)(hl:ss.length=4)(hi:i*4≤F.now.length)(hx:X i∨K≤i)(hM:i<M):Base (wrN F (i*4) ss) A K M X:=by
 obtain ⟨e1,e2,_,e4,e5⟩:=wrN_at ss F (i*4) hi h.ok.ld
 refine ⟨(wrN_ok ss h.ok hi hss).1,by rw [e1];exact h.lo,by rw [e2,hl];have:=h.hi;omega,h.ka,fun k hk hx2=>?_⟩
 have:¬(i*4≤k∧k<i*4+ss.length):=by
  rw [hl];intro hh
  have:k/4=i:=by omega
  rw [this]at hx2
  rcases hx with h1 |h1
  ·exact hx2 h1
  ·omega
 rw [e4,e5,if_neg this,if_neg this]
 exact h.at_ k hk hx2
inductive Res (I R Fl:DS→Prop):Int×DS→Prop
 | ok (d:DS):I d→Res I R Fl (0,d)
 | dead (d:DS):R d→Res I R Fl (4,d)
 | full (d:DS):Fl d→Res I R Fl (3,d)
theorem Res.imp{I R Fl I' R' Fl':DS→Prop}{r:Int×DS}(h:Res I R Fl r)(h1:∀ d,I d→I' d)(h2:∀ d,R d→R' d)(h3:∀ d,Fl d→Fl' d):Res I' R' Fl' r:=by
 cases h with
 | ok d h=>exact .ok d (h1 d h)
 | dead d h=>exact .dead d (h2 d h)
 | full d h=>exact .full d (h3 d h)
theorem firstD_app(l1 l2:List Stp)(d:DS):firstD (l1++l2) d=if (firstD l1 d).1=0 then firstD l2 (firstD l1 d).2 else firstD l1 d:=by
 induction l1 generalizing d with
 | nil=>simp [firstD]
 | cons s r ih=>
  simp only [List.cons_append,firstD]
  split
  ·exact ih _
  ·rfl
variable {d:DS}
theorem Res.app{I J R Fl:DS→Prop}{l1 l2:List Stp}(h:Res I R Fl (firstD l1 d))(k:∀ d,I d→Res J R Fl (firstD l2 d)):Res J R Fl (firstD (l1++l2) d):=by
 rw [firstD_app]
 generalize firstD l1 d=r at h
 cases h with
 | ok d h=>simpa using k d h
 | dead d h=>simpa using Res.dead d h
 | full d h=>simpa using Res.full d h
theorem Res.cons{I J R Fl:DS→Prop}{s:Stp}{l:List Stp}(h:Res I R Fl (s.go d))(k:∀ d,I d→Res J R Fl (firstD l d)):Res J R Fl (firstD (s::l) d):=by
 rw [firstD]
 generalize s.go d=r at h
 cases h with
 | ok d h=>simpa using k d h
 | dead d h=>simpa using Res.dead d h
 | full d h=>simpa using Res.full d h
structure Env (arm:Prop) (room:Nat) (d:DS):Prop where
 on:d.off=false
 lf:¬arm→d.left=0
 rm:d.room=room
 sum:d.f0.now.length+d.f1.now.length≤d.room
variable {J:List Sec}
theorem crashD_sure(hj:d.f1=sureF J)(keep:List Bool)(torn:Int):(crashD (opsD d) keep torn).f1=sureF J:=by
 simp only [crashD,opsD]
 rw [hj,(crashF_sure J _).1]
variable {room:Nat} {arm tight:Prop}
theorem page_step(he:Env arm room d)(hb:Base d.f0 A K M X)(hj:d.f1=sureF J)(i:Nat)(hT:(T.getD i []).length=512)(hi:i*4≤d.f0.now.length)(hx:X i∨K≤i)(hM:i<M)
  (hnf:tight∨(i+1)*4≤d.f0.now.length∨M*4+J.length≤room) :
  Res (fun d'=>Env arm room d'∧Base d'.f0 A K M X∧d'.f1=sureF J∧d'.f0=wrN d.f0 (i*4) (chunks 4 (T.getD i []))) (fun d'=>arm∧d'.off=true∧d'.room=room∧Base d'.f0 A K M X∧d'.f1=sureF J) (fun d'=>tight∧Env arm room d'∧Base d'.f0 A K M X∧d'.f1=sureF J∧d'.f0=d.f0) ((Stp.wr 0 (((i+1:Nat):Int)*4 - 4) (chunks 4 (T.getD i []))).go d):=by
 have ea:((i+1:Nat):Int)*4 - 4=((i*4:Nat):Int):=by omega
 have e4:(chunks 4 (T.getD i [])).length=4:=chunks_length _ _
 have hjl:d.f1.now.length=J.length:=by rw [hj];rfl
 have hsum:=he.sum
 rw [hjl]at hsum
 rw [ea]
 have hk:known 0=true:=rfl
 have hf:d.file 0=d.f0:=rfl
 show Res _ _ _ (writeD d 0 ((i*4:Nat):Int) (chunks 4 (T.getD i [])))
 unfold writeD
 rw [he.on,hk,hf]
 simp only [Bool.false_eq_true,if_false,Bool.not_true]
 rw [if_neg (by omega),if_neg (by omega)]
 by_cases hl:d.left=1
 ·rw [if_pos hl]
  refine .dead _ ⟨?_,rfl,he.rm,hb.crash (clip_le _),crashD_sure hj _ _⟩
  refine Classical.byContradiction fun h=>?_
  have:=he.lf h;omega
 ·rw [if_neg hl]
  have e5:(((i*4:Nat):Int)).toNat=i*4:=by omega
  rw [e5,e4]
  by_cases hfl:fullD d d.f0.now.length (i*4+4)=true
  ·rw [if_pos hfl]
   refine .full _ ⟨?_,⟨he.on,fun h=>by have:=he.lf h;simp only [tickD];omega,he.rm,he.sum⟩,hb,hj,rfl⟩
   rcases hnf with h |h
   ·exact h
   ·unfold fullD at hfl
    have:=he.rm;have:=hb.hi
    simp only [decide_eq_true_eq]at hfl
    rw [hjl]at hfl
    omega
  ·rw [if_neg hfl]
   have hw:=hb.write (ss:=chunks 4 (T.getD i [])) (chunks_each 4 _ hT) e4 hi hx hM
   obtain ⟨_,e2,_,_,_⟩:=wrN_at (chunks 4 (T.getD i [])) d.f0 (i*4) hi hb.ok.ld
   have e6:((tickD d).put 0 (wrN d.f0 (i*4) (chunks 4 (T.getD i [])))).f0=wrN d.f0 (i*4) (chunks 4 (T.getD i [])):=rfl
   have e7:((tickD d).put 0 (wrN d.f0 (i*4) (chunks 4 (T.getD i [])))).f1=d.f1:=rfl
   refine .ok _ ⟨⟨he.on,fun h=>by have:=he.lf h;show (tickD d).left=0;simp only [tickD];omega,he.rm,?_⟩,by rw [e6];exact hw,by rw [e7];exact hj,e6⟩
   rw [e6,e7,e2,e4,hjl]
   show _≤d.room
   unfold fullD at hfl
   simp only [decide_eq_true_eq]at hfl
   rw [hjl]at hfl
   omega
def Chain:Nat→List Nat→Prop
 | _,[]=>True
 | n,z::r=>1≤z∧z≤n+1∧Chain (max n z) r
theorem chain_of:∀ {l:List Nat} {n:Nat},l.Pairwise (· < ·)→(∀ z∈l,1≤z)→(∀ z∈l,∀ y,n<y→y<z→y∈l)→Chain n l
 | [],_,_,_,_=>trivial
 | z::r,n,hp,h1,h2=>by
  have hz:=h1 z List.mem_cons_self
  have hr:=List.pairwise_cons.1 hp
  refine ⟨hz,?_,chain_of hr.2 (fun y hy=>h1 y (List.mem_cons_of_mem _ hy)) (fun y hy x hx hxy=>?_)⟩
  ·refine Classical.byContradiction fun h=>?_
   have h3:=h2 z List.mem_cons_self (z - 1) (by omega) (by omega)
   rcases List.mem_cons.1 h3 with h4 |h4
   ·omega
   ·have:=hr.1 _ h4;omega
  ·have h3:=h2 y (List.mem_cons_of_mem _ hy) x (by omega) hxy
   rcases List.mem_cons.1 h3 with h4 |h4
   ·omega
   ·exact h4
def pageStp(T:List Pg)(z:Nat):Stp:=.wr 0 (((z:Int) - 1)*4) (chunks 4 (T.getD (z - 1) []))
def Has(F:FS)(T:List Pg)(i:Nat):Prop:=∀ j,j<4→i*4+j<F.now.length∧F.now.getD (i*4+j) []=(chunks 4 (T.getD i [])).getD j []
structure Wrote (d d':DS) (T:List Pg) (l:List Nat):Prop where
 has:∀ z∈l,Has d'.f0 T (z - 1)
 stay:∀ k,(∀ z∈l,k/4≠z - 1)→d'.f0.now.getD k []=d.f0.now.getD k []
 le:d.f0.now.length≤d'.f0.now.length
theorem writes_res:∀ (l:List Nat) (n:Nat) (d:DS),Env arm room d→Base d.f0 A K M X→d.f1=sureF J→Chain n l→n*4≤d.f0.now.length→l.Pairwise (· < ·) →
  (∀ z∈l,(T.getD (z - 1) []).length=512∧(X (z - 1)∨K≤z - 1)∧z≤M∧(tight∨z*4≤n*4∨M*4+J.length≤room)) →
  Res (fun d'=>Env arm room d'∧Base d'.f0 A K M X∧d'.f1=sureF J∧Wrote d d' T l) (fun d'=>arm∧d'.off=true∧d'.room=room∧Base d'.f0 A K M X∧d'.f1=sureF J) (fun d'=>tight∧Env arm room d'∧Base d'.f0 A K M X∧d'.f1=sureF J∧d.f0.now.length≤d'.f0.now.length) (firstD (l.map (pageStp T)) d)
 | [],n,d,he,hb,hj,_,_,_,_=>.ok d ⟨he,hb,hj,⟨(fun z hz=>by cases hz),(fun k _=>rfl),Nat.le_refl _⟩⟩
 | z::r,n,d,he,hb,hj,hc,hn,hp,hz=>by
  obtain ⟨c1,c2,c3⟩:=hc
  obtain ⟨h1,h2,h3,h4⟩:=hz z List.mem_cons_self
  have hr:=List.pairwise_cons.1 hp
  have h5:=page_step (T:=T) (tight:=tight) he hb hj (z - 1) h1 (by omega) h2 (by omega) (by rcases h4 with h |h |h;exact Or.inl h;(right;left;omega);exact Or.inr (Or.inr h))
  have es:pageStp T z=Stp.wr 0 (((z - 1+1:Nat):Int)*4 - 4) (chunks 4 (T.getD (z - 1) [])):=by
   unfold pageStp
   rw [show ((z:Int) - 1)*4=((z - 1+1:Nat):Int)*4 - 4 by omega]
  rw [←es]at h5
  rw [List.map_cons,firstD]
  obtain ⟨R,hR⟩:∃ R,(pageStp T z).go d=R:=⟨_,rfl⟩
  rw [hR]at h5 ⊢
  cases h5 with
  | dead d' h=>simpa using Res.dead d' h
  | full d' h=>
   obtain ⟨t1,t2,t3,t4,t5⟩:=h
   simpa using Res.full d' ⟨t1,t2,t3,t4,by rw [t5];exact Nat.le_refl _⟩
  | ok d' h=>
   obtain ⟨t1,t2,t3,t4⟩:=h
   obtain ⟨_,e2,_,e4,_⟩:=wrN_at (chunks 4 (T.getD (z - 1) [])) d.f0 ((z - 1)*4) (by omega) hb.ok.ld
   rw [←t4,chunks_length]at e2 e4
   have ih:=writes_res r (max n z) d' t1 t2 t3 c3 (by rw [e2];omega) hr.2 (fun y hy=>by
    obtain ⟨a1,a2,a3,a4⟩:=hz y (List.mem_cons_of_mem _ hy)
    exact ⟨a1,a2,a3,by rcases a4 with a |a |a;exact Or.inl a;(right;left;omega);exact Or.inr (Or.inr a)⟩)
   simp only [if_true]
   refine ih.imp (fun d2 h=>⟨h.1,h.2.1,h.2.2.1,?_⟩) (fun _ h=>h) (fun d2 h=>⟨h.1,h.2.1,h.2.2.1,h.2.2.2.1,by have:=h.2.2.2.2;omega⟩)
   have hw:=h.2.2.2
   have hnr:∀ y∈r,z - 1≠y - 1:=fun y hy=>by have:=hr.1 y hy;omega
   refine ⟨fun y hy=>?_,fun k hk=>?_,by have:=hw.le;omega⟩
   ·rcases List.mem_cons.1 hy with rfl |hy
    ·intro j hj
     have hlt:(y - 1)*4+j<d'.f0.now.length:=by rw [e2];omega
     refine ⟨Nat.lt_of_lt_of_le hlt hw.le,?_⟩
     rw [hw.stay _ (fun x hx=>by have:=hnr x hx;omega),e4,if_pos (by omega),show (y - 1)*4+j - (y - 1)*4=j by omega]
    ·exact hw.has y hy
   ·rw [hw.stay k (fun y hy=>hk y (List.mem_cons_of_mem _ hy)),e4,if_neg (by have:=hk z List.mem_cons_self;omega)]
theorem all_pages{L:List Sec}(hl:L.length=T.length*4)(h:∀ i,i<T.length→∀ j,j<4→L.getD (i*4+j) []=(chunks 4 (T.getD i [])).getD j []):L=secsOf T:=by
 refine ext_at [] (by rw [hl,secsOf_length]) (fun k hk=>?_)
 rw [secsOf_length]at hk
 have:=h (k/4) (by omega) (k % 4) (by omega)
 rw [show k/4*4+k % 4=k by omega]at this
 rw [this,←secAt_page (by omega) (by omega),secAt,show k/4*4+k % 4=k by omega]
end
section
open Go.RowKit Go.Maps
open Dsk (DS FS Sec Stay noughts was idx mem_idx idx_lt idx_rising crash1 crashN sureF crashF crashS n_le next_t crash1_len crashS_facts crashF_len sureF_ok crashF_ok disarmD startD crashD clip clip_le opsD tickD fullD known wr1 wrN wrN_ok writeD syncD cutF cutD lenD)
structure Dead (arm:Prop) (room:Nat) (d d':DS):Prop where
 arm:arm
 off:d'.off=true
 rm:d'.room=room
 f0:∃ s:Stay,s.t≤128∧d'.f0=crashF d.f0 s
 f1:∀ J,d.f1=sureF J→d'.f1=sureF J
 g1:d.f0.Ok→∃ s:Stay,s.t≤128∧d'.f1=crashF d.f1 s
variable {d:DS} {room:Nat} {arm:Prop}
theorem Env.dead(he:Env arm room d)(hl:d.left=1):Dead arm room d (crashD (opsD d) d.keep d.torn):=
 ⟨Classical.byContradiction fun h=>(by have:=he.lf h;omega),rfl,he.rm,⟨⟨d.keep,0,clip d.torn⟩,clip_le _,rfl⟩,fun J hj=>crashD_sure hj _ _,fun ok=>⟨crashS d.f0 ⟨d.keep,0,clip d.torn⟩,(crashS_facts ok (clip_le _)).1,rfl⟩⟩
theorem sync_step(he:Env arm room d)(f:Int)(hf:f=0∨f=1) :
  Res (fun d'=>Env arm room d'∧d'=(tickD d).put f (sureF (d.file f).now)) (Dead arm room d) (fun _=>False) ((Stp.sy f).go d):=by
 have hk:known f=true:=by rcases hf with rfl |rfl<;>rfl
 show Res _ _ _ (syncD d f)
 unfold syncD
 rw [he.on,hk]
 simp only [Bool.false_eq_true,if_false,Bool.not_true]
 by_cases hl:d.left=1
 ·rw [if_pos hl];exact .dead _ (he.dead hl)
 ·rw [if_neg hl]
  refine .ok _ ⟨⟨?_,fun h=>?_,?_,?_⟩,rfl⟩
  ·rcases hf with rfl |rfl<;>exact he.on
  ·have:=he.lf h;rcases hf with rfl |rfl<;>(show d.left - 1=0;omega)
  ·rcases hf with rfl |rfl<;>exact he.rm
  ·rcases hf with rfl |rfl<;>exact he.sum
theorem cut_step(he:Env arm room d)(f:Int)(hf:f=0∨f=1)(n:Nat) :
  Res (fun d'=>Env arm room d'∧((d.file f).now.length≤n∧d'=d∨n<(d.file f).now.length∧d'=(tickD d).put f (cutF (d.file f) n))) (Dead arm room d) (fun _=>False) ((Stp.ct f (n:Int)).go d):=by
 have hk:known f=true:=by rcases hf with rfl |rfl<;>rfl
 have hln:lenD d f=(d.file f).now.length:=by unfold lenD;rw [hk];rfl
 show Res _ _ _ (if (lenD d f:Int)≤(n:Int) then (0,d) else cutD d f n)
 rw [hln]
 by_cases h:(d.file f).now.length≤n
 ·rw [if_pos (by omega)];exact .ok _ ⟨he,Or.inl ⟨h,rfl⟩⟩
 ·rw [if_neg (by omega)]
  unfold cutD
  rw [he.on,hk]
  simp only [Bool.false_eq_true,if_false,Bool.not_true]
  rw [if_neg (by omega)]
  by_cases hl:d.left=1
  ·rw [if_pos hl];exact .dead _ (he.dead hl)
  ·rw [if_neg hl,show ((n:Int)).toNat=n by omega]
   refine .ok _ ⟨⟨?_,fun h=>?_,?_,?_⟩,Or.inr ⟨by omega,rfl⟩⟩
   ·rcases hf with rfl |rfl<;>exact he.on
   ·have:=he.lf h;rcases hf with rfl |rfl<;>(show d.left - 1=0;omega)
   ·rcases hf with rfl |rfl<;>exact he.rm
   ·have hs:=he.sum
    rcases hf with rfl |rfl
    ·show (d.f0.now.take n).length+d.f1.now.length≤d.room
     rw [List.length_take];omega
    ·show d.f0.now.length+(d.f1.now.take n).length≤d.room
     rw [List.length_take];omega
theorem cutF_zero(J:List Sec):cutF (sureF J) 0=sureF []:=by simp [cutF,sureF]
structure Sured (d:DS) (A:List Pg):Prop where
 f0:d.f0=sureF (secsOf A)
 f1:d.f1=sureF []
structure HotD (d:DS) (A:List Pg) (K M:Nat) (X:Nat→Prop) (J:List Sec):Prop where
 base:Base d.f0 A K M X
 f1:d.f1=sureF J
variable {J:List Sec} {X:Nat→Prop} {K M:Nat} {A:List Pg}
theorem Dead.hot{d':DS}(h:Dead arm room d d')(k:HotD d A K M X J):HotD d' A K M X J:=by
 obtain ⟨s,hs,e⟩:=h.f0
 exact ⟨by rw [e];exact k.base.crash hs,h.f1 J k.f1⟩
def RHot(arm:Prop)(room:Nat)(A:List Pg)(K M:Nat)(X:Nat→Prop)(J:List Sec)(d:DS):Prop:=arm∧d.off=true∧d.room=room∧HotD d A K M X J
variable {T:List Pg}
theorem ct1_res(he:Env arm room d)(hh:HotD d A K M X J)(ht:d.f0=sureF (secsOf T)):Res (fun d'=>Env arm room d'∧Sured d' T) (RHot arm room A K M X J) (fun _=>False) (firstD [.ct 1 0] d):=by
 refine Res.cons (I:=fun d'=>Env arm room d'∧Sured d' T) ((cut_step he 1 (Or.inr rfl) 0).imp (fun d' h=>?_) (fun d' h=>⟨h.arm,h.off,h.rm,h.hot hh⟩) (fun _ h=>h)) (fun d h=>.ok d h)
 obtain ⟨h1,⟨h2,rfl⟩ | ⟨h2,h3⟩⟩:=h
 ·refine ⟨h1,ht,?_⟩
  have e:d'.f1.now.length≤0:=h2
  rw [hh.f1]at e ⊢
  have:J = []:=List.eq_nil_of_length_eq_zero (Nat.le_zero.1 e)
  rw [this]
 ·refine ⟨h1,by rw [h3];exact ht,?_⟩
  rw [h3]
  show cutF d.f1 0=_
  rw [hh.f1];exact cutF_zero J
variable {F:FS}
theorem has_len(h:∀ i,i<T.length→Has F T i):T.length*4≤F.now.length:=by
 rcases Nat.eq_zero_or_pos T.length with h0 |h0
 ·omega
 ·have:=((h (T.length - 1) (by omega)) 3 (by omega)).1;omega
theorem has_take(h:∀ i,i<T.length→Has F T i):F.now.take (T.length*4)=secsOf T:=by
 have hl:=has_len h
 refine all_pages (by rw [List.length_take];omega) (fun i hi j hj=>?_)
 rw [←(h i hi j hj).2]
 simp only [List.getD,List.getElem?_take,if_pos (show i*4+j<T.length*4 by omega)]
theorem cut_tail(he:Env arm room d)(hh:HotD d A K M X J)(ht:∀ i,i<T.length→Has d.f0 T i)(hk:K≤T.length) :
  Res (fun d'=>Env arm room d'∧Sured d' T) (RHot arm room A K M X J) (fun _=>False) (firstD [.ct 0 ((T.length:Int)*4),.sy 0,.ct 1 0] d):=by
 have hlen:=has_len ht
 rw [show (T.length:Int)*4=((T.length*4:Nat):Int) by omega]
 refine Res.cons (I:=fun d'=>Env arm room d'∧HotD d' A K M X J∧d'.f0.now=secsOf T) ((cut_step he 0 (Or.inl rfl) (T.length*4)).imp (fun d' h=>?_) (fun d' h=>⟨h.arm,h.off,h.rm,h.hot hh⟩) (fun _ h=>h)) (fun d1 h1=>?_)
 ·obtain ⟨h1,⟨h2,rfl⟩ | ⟨h2,h3⟩⟩:=h
  ·have h2':d'.f0.now.length≤T.length*4:=h2
   refine ⟨h1,hh,?_⟩
   have:=has_take ht
   rwa [List.take_of_length_le h2']at this
  ·have h2':T.length*4<d.f0.now.length:=h2
   rw [h3]at h1 ⊢
   refine ⟨h1,⟨hh.base.cut (by omega) (by omega),hh.f1⟩,has_take ht⟩
 ·obtain ⟨e1,k1,n1⟩:=h1
  refine Res.cons (I:=fun d'=>Env arm room d'∧HotD d' A K M X J∧d'.f0=sureF (secsOf T)) ((sync_step e1 0 (Or.inl rfl)).imp (fun d' h=>?_) (fun d' h=>⟨h.arm,h.off,h.rm,h.hot k1⟩) (fun _ h=>h)) (fun d2 h2=>ct1_res h2.1 h2.2.1 h2.2.2)
  obtain ⟨h1,h2⟩:=h
  rw [h2]at h1 ⊢
  refine ⟨h1,⟨k1.base.sync,k1.f1⟩,?_⟩
  show sureF d1.f0.now=_
  rw [n1]
theorem sync_tail(he:Env arm room d)(hh:HotD d A K M X J)(ht:∀ i,i<T.length→Has d.f0 T i)(hk:K≤T.length) :
  Res (fun d'=>Env arm room d'∧Sured d' T) (RHot arm room A K M X J) (fun _=>False) (firstD [.sy 0,.ct 0 ((T.length:Int)*4),.ct 1 0] d):=by
 have hlen:=has_len ht
 rw [show (T.length:Int)*4=((T.length*4:Nat):Int) by omega]
 refine Res.cons (I:=fun d'=>Env arm room d'∧HotD d' A K M X J∧d'.f0=sureF d.f0.now) ((sync_step he 0 (Or.inl rfl)).imp (fun d' h=>?_) (fun d' h=>⟨h.arm,h.off,h.rm,h.hot hh⟩) (fun _ h=>h)) (fun d1 h1=>?_)
 ·obtain ⟨h1,h2⟩:=h
  rw [h2]at h1 ⊢
  exact ⟨h1,⟨hh.base.sync,hh.f1⟩,rfl⟩
 ·obtain ⟨e1,k1,n1⟩:=h1
  refine Res.cons (I:=fun d'=>Env arm room d'∧HotD d' A K M X J∧d'.f0=sureF (secsOf T)) ((cut_step e1 0 (Or.inl rfl) (T.length*4)).imp (fun d' h=>?_) (fun d' h=>⟨h.arm,h.off,h.rm,h.hot k1⟩) (fun _ h=>h)) (fun d2 h2=>ct1_res h2.1 h2.2.1 h2.2.2)
  have hn:d1.f0.now=d.f0.now:=by rw [n1];rfl
  obtain ⟨h1,⟨h2,rfl⟩ | ⟨h2,h3⟩⟩:=h
  ·have h2':d'.f0.now.length≤T.length*4:=h2
   refine ⟨h1,k1,?_⟩
   rw [n1]
   have:=has_take ht
   rw [List.take_of_length_le (by rw [←hn];exact h2')]at this
   rw [this]
  ·have h2':T.length*4<d1.f0.now.length:=h2
   rw [h3]at h1 ⊢
   refine ⟨h1,⟨k1.base.cut (by omega) (by omega),k1.f1⟩,?_⟩
   show cutF d1.f0 (T.length*4)=_
   rw [n1]
   have e:=has_take ht
   have hl2:¬d.f0.now.length≤T.length*4:=by rw [←hn];omega
   unfold cutF sureF
   simp only
   rw [e,show T.length*4 - d.f0.now.length=0 by rw [←hn];omega]
   simp only [List.replicate_zero,List.append_nil]
   rw [secsOf_length]
   congr 1
   rw [List.take_replicate,show min (T.length*4) d.f0.now.length=T.length*4 by rw [←hn];omega]
variable {l:List Nat} {tight:Prop}
theorem replay_res{n:Nat}(hA:Whole A)(he:Env arm room d)(hh:HotD d A K M (fun i=>i+1∈l) J)(hr:l.Pairwise (· < ·))(hl:∀ z∈l,1≤z∧z≤A.length)(hm:A.length≤M)
  (hg:∀ y,K<y→y≤A.length→y∈l) (hn:n*4≤d.f0.now.length) (hnk:K≤n) (ht:tight∨A.length≤n∨M*4+J.length≤room) :
  Res (fun d'=>Env arm room d'∧Sured d' A) (RHot arm room A K M (fun i=>i+1∈l) J) (fun _=>tight) (firstD (l.map (pageStp A)++[.ct 0 ((A.length:Int)*4),.sy 0,.ct 1 0]) d):=by
 have hch:Chain n l:=chain_of hr (fun z hz=>(hl z hz).1) (fun z hz y h1 h2=>hg y (by omega) (by have:=(hl z hz).2;omega))
 have h1:=writes_res (arm:=arm) (tight:=tight) (room:=room) (T:=A) l n d he hh.base hh.f1 hch hn hr (fun z hz=>⟨(hA (z - 1) (by have:=hl z hz;omega)).1,Or.inl (by rw [show z - 1+1=z by have:=hl z hz;omega];exact hz),by have:=(hl z hz).2;omega,by
  rcases ht with h |h |h
  ·exact Or.inl h
  ·right;left;have:=(hl z hz).2;omega
  ·exact Or.inr (Or.inr h)⟩)
 refine Res.app (h1.imp (fun d' h=>h) (fun d' h=>⟨h.1,h.2.1,h.2.2.1,h.2.2.2.1,h.2.2.2.2⟩) (fun d' h=>h.1)) (fun d1 h=>?_)
 obtain ⟨e1,b1,j1,w1⟩:=h
 refine (cut_tail e1 ⟨b1,j1⟩ (fun i hi=>?_) b1.ka).imp (fun _ h=>h) (fun _ h=>h) (fun _ h=>h.elim)
 by_cases hil:i+1∈l
 ·exact w1.has (i+1) hil
 ·intro j hj
  have hik:i<K:=by
   refine Classical.byContradiction fun h=>hil (hg (i+1) (by omega) (by omega))
  have h3:=b1.at_ (i*4+j) (by omega) (by rw [show (i*4+j)/4=i by omega];exact hil)
  refine ⟨by have:=b1.lo2;omega,?_⟩
  rw [h3.2,secAt_page hi hj]
theorem written_res{B:List Pg}{c:List Bool}(hB:Whole B)(he:Env arm room d)(hh:HotD d A (min A.length B.length) M (fun i=>i+1∈l) J)(ha:d.f0=sureF (secsOf A))(hc:c.length=B.length)(hm:B.length≤M)
  (hsm:∀ i,i<B.length→c.getD i false=false→i<A.length∧B.getD i []=A.getD i []) (hl:∀ z∈chL c,z≤A.length→z∈l) (ht:tight∨M*4+J.length≤room) :
  Res (fun d'=>Env arm room d'∧Sured d' B) (RHot arm room A (min A.length B.length) M (fun i=>i+1∈l) J) (fun d'=>tight∧Env arm room d'∧HotD d' A (min A.length B.length) M (fun i=>i+1∈l) J∧A.length*4≤d'.f0.now.length) (firstD (writtenL B (chL c) B.length) d):=by
 have hal:d.f0.now.length=A.length*4:=by rw [ha];exact secsOf_length A
 have hmem:∀ i,i<B.length→c.getD i false=true→i+1∈chL c:=fun i _ h=>mem_idx.2 (by simpa using h)
 have hch:Chain A.length (chL c):=chain_of (idx_rising _) (fun z hz=>(chL_mem hz).1) (fun z hz y h1 h2=>by
  have hz2:=chL_mem hz
  have:c.getD (y - 1) false=true:=by
   refine Classical.byContradiction fun h=>?_
   have:=(hsm (y - 1) (by omega) (by simpa using h)).1
   omega
  have:=hmem (y - 1) (by omega) this
  rwa [show y - 1+1=y by omega]at this)
 have h1:=writes_res (arm:=arm) (tight:=tight) (room:=room) (T:=B) (chL c) A.length d he hh.base hh.f1 hch (by omega) (idx_rising _) (fun z hz=>by
  have hz2:=chL_mem hz
  refine ⟨(hB (z - 1) (by omega)).1,?_,by omega,by rcases ht with h |h;exact Or.inl h;exact Or.inr (Or.inr h)⟩
  by_cases hza:z≤A.length
  ·left;rw [show z - 1+1=z by omega];exact hl z hz hza
  ·right;omega)
 have ew:writtenL B (chL c) B.length=(chL c).map (pageStp B)++[.sy 0,.ct 0 ((B.length:Int)*4),.ct 1 0]:=by
  unfold writtenL wrL
  rw [List.take_length];rfl
 rw [ew]
 refine Res.app (h1.imp (fun d' h=>h) (fun d' h=>⟨h.1,h.2.1,h.2.2.1,h.2.2.2.1,h.2.2.2.2⟩) (fun d' h=>⟨h.1,h.2.1,⟨h.2.2.1,h.2.2.2.1⟩,by have:=h.2.2.2.2;omega⟩)) (fun d1 h=>?_)
 obtain ⟨e1,b1,j1,w1⟩:=h
 refine (sync_tail e1 ⟨b1,j1⟩ (fun i hi=>?_) (by omega)).imp (fun _ h=>h) (fun _ h=>h) (fun _ h=>h.elim)
 by_cases hci:c.getD i false=true
 ·exact w1.has (i+1) (hmem i hi hci)
 ·obtain ⟨h2,h3⟩:=hsm i hi (by simpa using hci)
  intro j hj
  refine ⟨by have:=w1.le;omega,?_⟩
  rw [w1.stay (i*4+j) (fun z hz e=>hci (by have:=chL_mem hz;rw [show i=z - 1 by omega];exact this.2.2)),ha,h3]
  exact secAt_page h2 hj
end
section
open Go.RowKit Go.Maps
open Dsk (DS FS Sec Stay noughts was idx mem_idx idx_lt idx_rising crash1 crashN sureF crashF crashS n_le next_t crash1_len crashS_facts crashF_len sureF_ok crashF_ok disarmD startD crashD clip clip_le opsD tickD fullD known wr1 wrN wrN_ok writeD syncD cutF cutD lenD)
def ByteS(G:List Sec):Prop:=∀ x∈G,x.length=128∧∀ b∈x,b<256
structure ColdD (d:DS) (A:List Pg) (N:Nat):Prop where
 f0:d.f0=sureF (secsOf A)
 f1:∃ G,d.f1=sureF G∧ByteS G∧G.length≤N∧Jrn.hotN G.flatten=false
variable {G:List Sec}
theorem flat_last(hb:ByteS G):G.flatten.getD 127 0=(G.getD 0 []).getD 127 0:=by
 cases G with
 | nil=>rfl
 | cons x r=>
  have:=(hb x List.mem_cons_self).1
  simp only [List.flatten_cons,List.getD_cons_zero]
  rw [getD_app,if_pos (by omega)]
variable {F:FS}
theorem was_bytes(ho:∀ x∈F.old,∀ b∈x,b<256)(k:Nat):∀ b∈was F.old k,b<256:=by
 unfold was
 rcases Nat.lt_or_ge k F.old.length with h |h
 ·rw [List.getD,List.getElem?_eq_getElem h];exact ho _ (List.getElem_mem h)
 ·rw [getD_past _ h]
  intro b hb
  have:=List.eq_of_mem_replicate hb;omega
theorem crashed_bytes(ok:F.Ok)(hc:Crashed F G)(hn:∀ x∈F.now,∀ b∈x,b<256)(ho:∀ x∈F.old,∀ b∈x,b<256):ByteS G:=by
 intro x hx
 obtain ⟨k,hk,rfl⟩:=List.mem_iff_getElem.1 hx
 have h1:=hc.at_ k hk
 have hkn:k<F.now.length:=Nat.lt_of_lt_of_le hk hc.hi
 have e:G.getD k []=G[k]:=by rw [List.getD,List.getElem?_eq_getElem hk];rfl
 have en:F.now.getD k []=F.now[k]:=by rw [List.getD,List.getElem?_eq_getElem hkn];rfl
 rw [e,en]at h1
 have l1:=ok.sn _ (List.getElem_mem hkn)
 have b1:=hn _ (List.getElem_mem hkn)
 split at h1
 ·obtain ⟨n,hn8,h2⟩:=h1
  rw [h2]
  refine ⟨by rw [List.length_append,List.length_take,List.length_drop,wasLen ok,l1];omega,fun b hb=>?_⟩
  rcases List.mem_append.1 hb with h |h
  ·exact b1 b (List.mem_of_mem_take h)
  ·exact was_bytes ho k b (List.mem_of_mem_drop h)
 ·rw [h1];exact ⟨l1,b1⟩
theorem take_drop_last{x y:List Nat}{n:Nat}(hx:x.length=128)(hn:n≤128):(x.take n++y.drop n).getD 127 0=if n=128 then x.getD 127 0 else y.getD 127 0:=by
 rw [getD_app,List.length_take,hx]
 by_cases h:n=128
 ·subst h
  rw [if_pos (by omega),if_pos rfl]
  simp only [List.getD,List.getElem?_take,if_pos (show 127<128 by omega)]
 ·rw [if_neg (by omega),if_neg h]
  simp only [List.getD,List.getElem?_drop]
  rw [show n+(127 - min n 128)=127 by omega]
theorem wrN_new:∀ (ss:List Sec) (n o:List Sec) (dt:List Bool),wrN ⟨n,o,dt⟩ n.length ss=⟨n++ss,o,dt++List.replicate ss.length true⟩
 | [],n,o,dt=>by simp [wrN]
 | s::r,n,o,dt=>by
  have e:wr1 ⟨n,o,dt⟩ n.length s=⟨n++[s],o,dt++[true]⟩:=by unfold wr1;simp
  have:=wrN_new r (n++[s]) o (dt++[true])
  rw [List.length_append]at this
  show wrN (wr1 ⟨n,o,dt⟩ n.length s) (n.length+1) r=_
  rw [e]
  simp only [List.length_cons,List.length_nil,Nat.zero_add]at this
  rw [this]
  simp [List.replicate_succ]
variable {d:DS} {room:Nat} {arm tight:Prop}
theorem wr1_step(he:Env arm room d)(ss:List Sec)(hs:ss.length≠0)(hd:d.f1.dirt.length=d.f1.now.length)(hnf:tight∨ss.length≤d.f1.now.length∨d.f0.now.length+ss.length≤room) :
  Res (fun d'=>Env arm room d'∧d'=(tickD d).put 1 (wrN d.f1 0 ss)) (Dead arm room d) (fun d'=>tight∧d'=tickD d) ((Stp.wr 1 0 ss).go d):=by
 have hk:known 1=true:=rfl
 have hf:d.file 1=d.f1:=rfl
 have hsum:=he.sum;have hrm:=he.rm
 show Res _ _ _ (writeD d 1 0 ss)
 unfold writeD
 rw [he.on,hk,hf]
 simp only [Bool.false_eq_true,if_false,Bool.not_true]
 rw [if_neg (by omega),if_neg hs]
 by_cases hl:d.left=1
 ·rw [if_pos hl];exact .dead _ (he.dead hl)
 ·rw [if_neg hl,show (0:Int).toNat=0 from rfl,Nat.zero_add]
  obtain ⟨_,e2,_⟩:=wrN_at ss d.f1 0 (Nat.zero_le _) hd
  by_cases hfl:fullD d d.f1.now.length ss.length=true
  ·rw [if_pos hfl]
   refine .full _ ⟨?_,rfl⟩
   unfold fullD at hfl
   simp only [decide_eq_true_eq]at hfl
   rcases hnf with h |h |h
   ·exact h
   ·omega
   ·omega
  ·rw [if_neg hfl]
   refine .ok _ ⟨⟨he.on,fun h=>by have:=he.lf h;show d.left - 1=0;omega,he.rm,?_⟩,rfl⟩
   show d.f0.now.length+(wrN d.f1 0 ss).now.length≤d.room
   rw [e2]
   unfold fullD at hfl
   simp only [decide_eq_true_eq]at hfl
   omega
theorem Dead.f0sure{d':DS}(h:Dead arm room d d'){L:List Sec}(e:d.f0=sureF L):d'.f0=sureF L:=by
 obtain ⟨s,_,e2⟩:=h.f0
 rw [e2,e,(crashF_sure L s).1]
theorem chunks_head(k:Nat)(x y:List Nat)(hx:x.length=128):chunks (1+k) (x++y)=x::chunks k y:=by
 rw [Nat.add_comm,chunks,List.take_left' hx,List.drop_left' hx]
theorem chunksBytes:∀ (k:Nat) (x:List Nat),(∀ b∈x,b<256)→∀ s∈chunks k x,∀ b∈s,b<256
 | 0,_,_=>by intro s hs;cases hs
 | k+1,x,h=>by
  intro s hs
  rcases List.mem_cons.1 hs with rfl |hs
  ·exact fun b hb=>h b (List.mem_of_mem_take hb)
  ·exact chunksBytes k (x.drop 128) (fun b hb=>h b (List.mem_of_mem_drop hb)) s hs
variable {M N:Nat} {A:List Pg}
theorem rec_res{L:Nat}{X:Nat→Prop}(h0 h1 r:List Nat)(hA:Base (sureF (secsOf A)) A A.length M X)(he:Env arm room d)(hs:Sured d A)
  (l0:h0.length=128) (l1:h1.length=128) (lr:r.length=5*L*128) (b0:∀ b∈h0,b<256) (b1:∀ b∈h1,b<256) (br:∀ b∈r,b<256) (z0:h0.getD 127 0=0) (hN:1+5*L≤N) (ht:tight∨A.length*4+(1+5*L)≤room) :
  Res (fun d'=>Env arm room d'∧d'.f0=sureF (secsOf A)∧d'.f1=sureF (chunks (1+5*L) (h1++r))) (fun d'=>arm∧d'.off=true∧d'.room=room∧(ColdD d' A N∨HotD d' A A.length M X (chunks (1+5*L) (h1++r)))) (fun d'=>tight∧Env arm room d'∧Sured d' A)
   (firstD [.wr 1 0 (chunks (1+5*L) (h0++r)),.sy 1,.wr 1 0 (chunks 1 h1),.sy 1] d):=by
 obtain ⟨S0,hS0⟩:∃ S0,S0=chunks (1+5*L) (h0++r):=⟨_,rfl⟩
 have eS:S0=h0::chunks (5*L) r:=by rw [hS0,chunks_head _ _ _ l0]
 have eJ:chunks (1+5*L) (h1++r)=h1::chunks (5*L) r:=chunks_head _ _ _ l1
 have eH:chunks 1 h1 = [h1]:=by
  have:=chunks_head 0 h1 [] l1
  simpa [chunks] using this
 have hSl:S0.length=1+5*L:=by rw [hS0,chunks_length]
 have bS:ByteS S0:=fun x hx=>⟨chunks_each (1+5*L) (h0++r) (by rw [List.length_append,l0,lr];omega) x (by rw [←hS0];exact hx),chunksBytes _ _ (by intro b hb;rcases List.mem_append.1 hb with h |h;exact b0 b h;exact br b h) x (by rw [←hS0];exact hx)⟩
 have okS:∀ G,ByteS G→(sureF G).Ok:=fun G h=>sureF_ok (fun x hx=>(h x hx).1)
 have l0A:(sureF (secsOf A)).now.length=A.length*4:=secsOf_length A
 rw [←hS0,eH,eJ]
 -- what is not hot
 have cold:∀ {d d':DS} {G:List Sec},Dead arm room d d'→d.f0=sureF (secsOf A)→d.f1=sureF G→ByteS G→G.length≤N→(G.getD 0 []).getD 127 0=0→ColdD d' A N:=fun hd e0 e1 hb hl hz=>⟨hd.f0sure e0,_,hd.f1 _ e1,hb,hl,Jrn.not_hot _ (by rw [flat_last hb];exact hz)⟩
 have z1:(S0.getD 0 []).getD 127 0=0:=by rw [eS];exact z0
 refine Res.cons (I:=fun d'=>Env arm room d'∧d'.f0=sureF (secsOf A)∧d'.f1=⟨S0,[],List.replicate S0.length true⟩) ((wr1_step (tight:=tight) he S0 (by omega) (by rw [hs.f1];rfl) (by rcases ht with h |h;exact Or.inl h;(right;right;rw [hs.f0,l0A,hSl];exact h))).imp (fun d' h=>?_) (fun d' h=>?_) (fun d' h=>?_)) (fun d1 h=>?_)
 ·obtain ⟨h1,h2⟩:=h
  rw [h2]at h1 ⊢
  refine ⟨h1,hs.f0,?_⟩
  show wrN d.f1 0 S0=_
  rw [hs.f1]
  exact (wrN_new S0 [] [] []).trans (by simp)
 ·exact ⟨h.arm,h.off,h.rm,Or.inl (cold h hs.f0 hs.f1 (by intro x hx;cases hx) (Nat.zero_le _) rfl)⟩
 ·obtain ⟨h1,h2⟩:=h
  rw [h2]
  exact ⟨h1,⟨he.on,fun h=>by have:=he.lf h;show d.left - 1=0;omega,he.rm,he.sum⟩,hs.f0,hs.f1⟩
 obtain ⟨e1,p1,q1⟩:=h
 have ok1:(FS.mk S0 [] (List.replicate S0.length true)).Ok:=⟨by simp,by simp,fun x hx=>(bS x hx).1,(fun x hx=>by cases hx),fun i hi hd=>by
  simp only [List.getD,List.getElem?_replicate,if_pos (show i<S0.length from hi)]at hd
  cases hd⟩
 refine Res.cons (I:=fun d'=>Env arm room d'∧d'.f0=sureF (secsOf A)∧d'.f1=sureF S0) ((sync_step e1 1 (Or.inr rfl)).imp (fun d' h=>?_) (fun d' h=>?_) (fun d' h=>h.elim)) (fun d2 h=>?_)
 ·obtain ⟨h1,h2⟩:=h
  rw [h2]at h1 ⊢
  refine ⟨h1,p1,?_⟩
  show sureF d1.f1.now=_
  rw [q1]
 ·refine ⟨h.arm,h.off,h.rm,Or.inl ⟨h.f0sure p1,?_⟩⟩
  obtain ⟨s,hs8,e⟩:=h.g1 (by rw [p1];exact hA.ok)
  rw [q1]at e
  obtain ⟨G,eG,hc⟩:=crashF_is ok1 hs8
  have hbG:=crashed_bytes ok1 hc (fun x hx=>(bS x hx).2) (fun x hx=>by cases hx)
  have hGl:G.length≤S0.length:=hc.hi
  refine ⟨G,e.trans eG,hbG,by omega,Jrn.not_hot _ ?_⟩
  rw [flat_last hbG]
  rcases Nat.eq_zero_or_pos G.length with hz |hz
  ·rw [List.eq_nil_of_length_eq_zero hz];rfl
  ·have h3:=hc.at_ 0 hz
   rw [if_pos (by simp [eS])]at h3
   obtain ⟨n,hn,h4⟩:=h3
   rw [h4,eS]
   simp only [List.getD_cons_zero]
   rw [take_drop_last l0 hn]
   split
   ·exact z0
   ·simp [was,noughts]
 obtain ⟨e2,p2,q2⟩:=h
 have ok2:=okS S0 bS
 refine Res.cons (I:=fun d'=>Env arm room d'∧d'.f0=sureF (secsOf A)∧d'.f1=⟨h1::chunks (5*L) r,S0,true::List.replicate (5*L) false⟩) ((wr1_step (tight:=False) e2 [h1] (by simp) (by rw [q2];exact ok2.ld) (by right;left;rw [q2];show 1≤S0.length;omega)).imp (fun d' h=>?_) (fun d' h=>?_) (fun d' h=>h.1.elim)) (fun d3 h=>?_)
 ·obtain ⟨h1',h2⟩:=h
  rw [h2]at h1' ⊢
  refine ⟨h1',p2,?_⟩
  show wrN d2.f1 0 [h1]=_
  rw [q2]
  show wr1 (sureF S0) 0 h1=_
  unfold wr1
  rw [if_pos (show 0<(sureF S0).now.length by show 0<S0.length;omega)]
  simp only [sureF]
  rw [hSl,eS,Nat.add_comm,List.replicate_succ]
  rfl
 ·exact ⟨h.arm,h.off,h.rm,Or.inl (cold h p2 q2 bS (by omega) z1)⟩
 obtain ⟨e3,p3,q3⟩:=h
 have hcr:(chunks (5*L) r).length=5*L:=chunks_length _ _
 have ok3:(FS.mk (h1::chunks (5*L) r) S0 (true::List.replicate (5*L) false)).Ok:=by
  refine ⟨by simp [hcr],by simp [hcr,hSl];omega,fun x hx=>?_,fun x hx=>(bS x hx).1,fun i hi hd=>?_⟩
  ·rcases List.mem_cons.1 hx with rfl |hx
   ·exact l1
   ·exact (bS x (by rw [eS];exact List.mem_cons_of_mem _ hx)).1
  ·cases i with
   | zero=>simp at hd
   | succ i=>
    simp only [List.length_cons,hcr]at hi
    refine ⟨by rw [hSl];omega,?_⟩
    show (h1::chunks (5*L) r).getD (i+1) []=S0.getD (i+1) noughts
    rw [eS,List.getD_cons_succ,List.getD_cons_succ,List.getD,List.getD,List.getElem?_eq_getElem (by rw [hcr];omega)];rfl
 refine Res.cons (I:=fun d'=>Env arm room d'∧d'.f0=sureF (secsOf A)∧d'.f1=sureF (h1::chunks (5*L) r)) ((sync_step e3 1 (Or.inr rfl)).imp (fun d' h=>?_) (fun d' h=>?_) (fun d' h=>h.elim)) (fun d4 h=>.ok d4 h)
 ·obtain ⟨h1',h2⟩:=h
  rw [h2]at h1' ⊢
  refine ⟨h1',p3,?_⟩
  show sureF d3.f1.now=_
  rw [q3]
 ·refine ⟨h.arm,h.off,h.rm,?_⟩
  obtain ⟨s,hs8,e⟩:=h.g1 (by rw [p3];exact hA.ok)
  rw [q3]at e
  obtain ⟨G,eG,hc⟩:=crashF_is ok3 hs8
  have hlo:S0.length≤G.length:=hc.lo
  have hhi:=hc.hi
  simp only [List.length_cons,hcr]at hhi
  have hbG:ByteS G:=crashed_bytes ok3 hc (fun x hx=>by rcases List.mem_cons.1 hx with rfl |hx;exact b1;exact (bS x (by rw [eS];exact List.mem_cons_of_mem _ hx)).2) (fun x hx=>(bS x hx).2)
  have h3:=hc.at_ 0 (by omega)
  simp only [List.getD_cons_zero,if_true]at h3
  obtain ⟨n,hn,h4⟩:=h3
  have ew:was S0 0=h0:=by unfold was;rw [eS];rfl
  rw [ew]at h4
  by_cases hn8:n=128
  ·right
   refine ⟨by rw [h.f0sure p3];exact hA,?_⟩
   have hG:G=h1::chunks (5*L) r:=by
    refine ext_at [] (by simp [hcr];omega) (fun i hi=>?_)
    simp only [List.length_cons,hcr]at hi
    cases i with
    | zero=>rw [h4,hn8,List.take_of_length_le (by omega),List.drop_of_length_le (by omega)];simp
    | succ i=>
     have h5:=hc.at_ (i+1) (by omega)
     simp only [List.getD_cons_succ]at h5
     rw [getD_replicate]at h5
     simpa using h5
   rw [e.trans eG,hG]
  ·left
   refine ⟨h.f0sure p3,G,e.trans eG,hbG,by omega,Jrn.not_hot _ ?_⟩
   rw [flat_last hbG,h4,take_drop_last l1 hn,if_neg hn8];exact z0
theorem off_first(ho:d.off=true):∀ l,firstD l d=(0,d)∨firstD l d=(4,d)
 | []=>Or.inl rfl
 | s::r=>by
  have h:s.go d=(0,d)∨s.go d=(4,d):=by
   cases s with
   | wr f a ss=>right;show writeD d f a ss=_;unfold writeD;rw [ho];rfl
   | sy f=>right;show syncD d f=_;unfold syncD;rw [ho];rfl
   | ct f n=>
    show (if _ then _ else cutD d f n)=_∨(if _ then _ else cutD d f n)=_
    split
    ·left;rfl
    ·right;unfold cutD;rw [ho];rfl
  rw [firstD]
  rcases h with h |h
  ·rw [h,if_pos rfl];exact off_first ho r
  ·rw [h,if_neg (show ¬(4:Int)=0 by decide)];right;rfl
theorem off_undone(ho:d.off=true)(l:List Stp):undoneD 4 l d=(4,d):=by
 unfold undoneD
 rcases off_first ho l with h |h<;>rw [h]<;>simp
theorem ops_step(s:Stp)(d:DS):(s.go d).2.ops≤d.ops+1∧(s.go d).2.room=d.room:=by
 cases s with
 | wr f a ss=>
  show (writeD d f a ss).2.ops≤_∧(writeD d f a ss).2.room=_
  unfold writeD
  repeat' split
  all_goals first |exact ⟨Nat.le_refl _,rfl⟩ |exact ⟨Nat.le_succ _,rfl⟩ |(simp only [DS.put];split<;>exact ⟨Nat.le_refl _,rfl⟩)
 | sy f=>
  show (syncD d f).2.ops≤_∧(syncD d f).2.room=_
  unfold syncD
  repeat' split
  all_goals first |exact ⟨Nat.le_refl _,rfl⟩ |exact ⟨Nat.le_succ _,rfl⟩ |(simp only [DS.put];split<;>exact ⟨Nat.le_refl _,rfl⟩)
 | ct f n=>
  show (if _ then _ else cutD d f n).2.ops≤_∧(if _ then _ else cutD d f n).2.room=_
  split
  ·exact ⟨by simp,rfl⟩
  ·unfold cutD
   repeat' split
   all_goals first |exact ⟨Nat.le_refl _,rfl⟩ |exact ⟨Nat.le_succ _,rfl⟩ |(simp only [DS.put];split<;>exact ⟨Nat.le_refl _,rfl⟩)
theorem ops_first:∀ (l:List Stp) (d:DS),(firstD l d).2.ops≤d.ops+l.length∧(firstD l d).2.room=d.room
 | [],d=>⟨Nat.le_refl _,rfl⟩
 | s::r,d=>by
  have h:=ops_step s d
  rw [firstD]
  split
  ·have h2:=ops_first r (s.go d).2
   exact ⟨by simp only [List.length_cons];omega,h2.2.trans h.2⟩
  ·exact ⟨by simp only [List.length_cons];omega,h.2⟩
theorem ops_undone(e:Int)(l:List Stp)(d:DS):(undoneD e l d).2.ops≤d.ops+l.length:=by
 have:=(ops_first l d).1
 unfold undoneD;split<;>exact this
theorem backL_map(A:List Pg)(c:List Bool)(np:Nat):backL (jP c np A.length) (jD A c np A.length) (jL c np A.length)=(pastL c np A.length).map (pageStp A):=by
 unfold backL
 apply List.ext_getElem
 ·simp [jL]
 ·intro i h1 h2
  simp only [List.length_map]at h2
  simp only [List.getElem_map,List.getElem_range,pageStp,jP,jD]
  rw [List.getD,List.getElem?_eq_getElem h2];rfl
def KB(A B:List Pg):Nat:=min A.length B.length
def jS(A:List Pg)(c:List Bool)(np m:Nat):List Sec:=chunks (1+5*jL c np A.length) (Jrn.bytesN (jL c np A.length:Int) (A.length:Int) m true (jL c np A.length) (jP c np A.length) (jD A c np A.length))
def RDead(arm:Prop)(room:Nat)(A:List Pg)(K M N:Nat)(X:Nat→Prop)(J:List Sec)(d:DS):Prop:=arm∧d.off=true∧d.room=room∧(ColdD d A N∨HotD d A K M X J)
theorem store_res{B:List Pg}{c:List Bool}(hA:Whole A)(hB:Whole B)(he:Env arm room d)(hs:Sured d A)(hc:c.length=B.length)(hMA:A.length≤M)(hMB:B.length≤M)
  (hsm:∀ i,i<B.length→c.getD i false=false→i<A.length∧B.getD i []=A.getD i []) (okA:(sureF (secsOf A)).Ok)
  (lr:(Jrn.recsN (jP c B.length A.length) (jD A c B.length A.length) d.ops 0 (jL c B.length A.length)).length=5*jL c B.length A.length*128)
  (bb:∀ wh,∀ x∈Jrn.headN (jL c B.length A.length) A.length d.ops wh,x<256) (br:∀ x∈Jrn.recsN (jP c B.length A.length) (jD A c B.length A.length) d.ops 0 (jL c B.length A.length),x<256)
  (hN:1+5*jL c B.length A.length≤N) (ht:tight∨M*4+(1+5*jL c B.length A.length)≤room) :
  Res (fun d'=>Env arm room d'∧Sured d' B) (RDead arm room A (KB A B) M N (fun i=>i+1∈pastL c B.length A.length) (jS A c B.length d.ops)) (fun d'=>tight∧Env arm room d'∧Sured d' A) (storeD d A B c B.length):=by
 obtain ⟨l,hl⟩:∃ l,l=pastL c B.length A.length:=⟨_,rfl⟩
 obtain ⟨L,hL⟩:∃ L,L=jL c B.length A.length:=⟨_,rfl⟩
 obtain ⟨r,hr⟩:∃ r,r=Jrn.recsN (jP c B.length A.length) (jD A c B.length A.length) d.ops 0 (jL c B.length A.length):=⟨_,rfl⟩
 obtain ⟨J,hJ⟩:∃ J,J=jS A c B.length d.ops:=⟨_,rfl⟩
 have eb:∀ wh,Jrn.bytesN (jL c B.length A.length:Int) (A.length:Int) d.ops wh (jL c B.length A.length) (jP c B.length A.length) (jD A c B.length A.length)=Jrn.headN L A.length d.ops wh++r:=fun wh=>by unfold Jrn.bytesN;rw [hr,hL];rfl
 have hJl:J.length=1+5*L:=by rw [hJ,jS,chunks_length,hL]
 have baseA:∀ K,K≤A.length→Base (sureF (secsOf A)) A K M (fun i=>i+1∈l):=fun K hK=>⟨okA,by show _≤(secsOf A).length;rw [secsOf_length];omega,by show (secsOf A).length≤_;rw [secsOf_length];omega,hK,fun k hk _=>⟨getD_replicate _ _ _,rfl⟩⟩
 have hR:=rec_res (arm:=arm) (tight:=tight) (room:=room) (A:=A) (M:=M) (L:=L) (N:=N) (X:=fun i=>i+1∈l) (d:=d) (Jrn.headN L A.length d.ops false) (Jrn.headN L A.length d.ops true) r (baseA A.length (Nat.le_refl _)) he hs (Jrn.headN_length _ _ _ _) (Jrn.headN_length _ _ _ _) (by rw [hr,hL];exact lr) (by rw [hL];exact bb false) (by rw [hL];exact bb true) (by rw [hr];exact br) (by rw [Jrn.head_last];rfl) (by rw [hL];exact hN) (by rcases ht with h |h;exact Or.inl h;(right;rw [hL];omega))
 have eJ:chunks (1+5*L) (Jrn.headN L A.length d.ops true++r)=J:=by rw [hJ,jS,eb true,←hL]
 rw [eJ]at hR
 have er:recL (jL c B.length A.length) A.length d.ops (jP c B.length A.length) (jD A c B.length A.length) = [.wr 1 0 (chunks (1+5*L) (Jrn.headN L A.length d.ops false++r)),.sy 1,.wr 1 0 (chunks 1 (Jrn.headN L A.length d.ops true)),.sy 1]:=by
  unfold recL;rw [eb false,←hL]
 unfold storeD
 rw [er]
 obtain ⟨R1,hR1⟩:∃ R1,firstD [.wr 1 0 (chunks (1+5*L) (Jrn.headN L A.length d.ops false++r)),.sy 1,.wr 1 0 (chunks 1 (Jrn.headN L A.length d.ops true)),.sy 1] d=R1:=⟨_,rfl⟩
 rw [hR1]at hR ⊢
 simp only
 rw [←hJ,←hl]
 have kba:KB A B≤A.length:=by unfold KB;omega
 cases hR with
 | dead d' h=>
  obtain ⟨h1,h2,h3,h4⟩:=h
  rw [if_neg (show ¬(4:Int)=0 by decide)]
  simp only
  rw [off_undone h2]
  refine .dead _ ⟨h1,h2,h3,?_⟩
  rcases h4 with h4 |h4
  ·exact Or.inl h4
  ·exact Or.inr ⟨⟨h4.base.ok,by have:=h4.base.lo;omega,h4.base.hi,kba,fun k hk hx=>h4.base.at_ k (by omega) hx⟩,h4.f1⟩
 | full d' h=>
  obtain ⟨h1,h2,h3⟩:=h
  rw [if_neg (show ¬(3:Int)=0 by decide)]
  simp only
  have e:undoneD 3 [.ct 1 0] d'=(3,d'):=by
   have:firstD [.ct 1 0] d'=(0,d'):=by
    have hz:lenD d' 1=0:=by
     show d'.f1.now.length=0
     rw [h3.f1];rfl
    have hg:(Stp.ct 1 0).go d'=(0,d'):=if_pos (by rw [hz];exact Int.le_refl _)
    rw [firstD,hg];rfl
   unfold undoneD;rw [this];rfl
  rw [e]
  exact .full _ ⟨h1,h2,h3⟩
 | ok d1 h=>
  obtain ⟨e1,p1,q1⟩:=h
  rw [if_pos rfl]
  simp only
  have hH:HotD d1 A (KB A B) M (fun i=>i+1∈l) J:=⟨by rw [p1];exact baseA _ kba,q1⟩
  have hW:=written_res (arm:=arm) (tight:=tight) (room:=room) (l:=l) hB e1 hH p1 hc hMB hsm (fun z hz h=>by rw [hl];exact List.mem_append_left _ (List.mem_filter.2 ⟨hz,by simpa using h⟩)) (by rw [hJl,hL];exact ht)
  obtain ⟨R2,hR2⟩:∃ R2,firstD (writtenL B (chL c) B.length) d1=R2:=⟨_,rfl⟩
  rw [hR2]at hW ⊢
  cases hW with
  | ok d2 h=>rw [if_pos rfl];exact .ok _ h
  | dead d2 h=>
   obtain ⟨h1,h2,h3,h4⟩:=h
   rw [if_neg (show ¬(4:Int)=0 by decide)]
   simp only
   rw [off_undone h2]
   exact .dead _ ⟨h1,h2,h3,Or.inr h4⟩
  | full d2 h=>
   obtain ⟨h1,h2,h3,h4⟩:=h
   rw [if_neg (show ¬(3:Int)=0 by decide)]
   simp only
   have hrp:replayL (A.length:Int) (jP c B.length A.length) (jD A c B.length A.length) (jL c B.length A.length)=l.map (pageStp A)++[.ct 0 ((A.length:Int)*4),.sy 0,.ct 1 0]:=by
    unfold replayL;rw [backL_map,hl]
   rw [hrp]
   have hY:=replay_res (arm:=arm) (tight:=False) (room:=room) (n:=A.length) hA h2 h3 (by rw [hl];exact pastL_rising (by omega)) (fun z hz=>pastL_mem (by rw [←hl];exact hz)) hMA (fun y h5 h6=>by
    rw [hl]
    refine List.mem_append_right _ (List.mem_map.2 ⟨y - 1 - B.length,List.mem_range.2 ?_,?_⟩)
    ·omega
    ·omega) (by omega) (by omega) (Or.inr (Or.inl (Nat.le_refl _)))
   obtain ⟨R3,hR3⟩:∃ R3,firstD (l.map (pageStp A)++[.ct 0 ((A.length:Int)*4),.sy 0,.ct 1 0]) d2=R3:=⟨_,rfl⟩
   unfold undoneD
   rw [hR3]at hY ⊢
   cases hY with
   | ok d3 h=>rw [if_pos rfl];exact .full _ ⟨h1,h⟩
   | dead d3 h=>
    rw [if_neg (show ¬(4:Int)=0 by decide)]
    obtain ⟨k1,k2,k3,k4⟩:=h
    exact .dead _ ⟨k1,k2,k3,Or.inr k4⟩
   | full d3 h=>exact h.elim
end
end Go.Proofs.YtgjgkpnjchflaaaGreatDoor
