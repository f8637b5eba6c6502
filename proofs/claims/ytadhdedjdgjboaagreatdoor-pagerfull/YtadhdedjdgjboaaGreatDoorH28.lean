/- What the transaction made is taken for what is on the disk; no statement of the seat is proved here. -/
import Derived.Test.YtadhdedjdgjboaaGreatDoorH27
import Derived.Test.YtadhdedjdgjboaaGreatDoorH17
set_option maxHeartbeats 16000000
set_option maxRecDepth 20000
namespace Go.Proofs.YtadhdedjdgjboaaGreatDoor
section
open Go.RowKit Go.Maps
open Dsk (gt hid undrew keep_old keep_cell lt_cell Rd DS FS Sec DiskP DFrame Grew From op_at idx dirtD was secD)
open Cch (CS CP Fr Row shedL p52 wpAnyK wpAnyK_take wpAnyK_pure wpAnyK_ready wpAnyK_done wp_region_K AllReadyK.cons AllReadyK.nil)
variable {l:List Pg}
theorem getD_set{i j:Nat}{b:Pg}:(l.set i b).getD j []=if i=j∧j<l.length then b else l.getD j []:=by
 simp only [List.getD,List.getElem?_set]
 by_cases h:i=j
 ·subst h
  by_cases h2:i<l.length
  ·simp [h2]
  ·simp [h2]
 ·simp [h]
variable {s:CS}
theorem Fits.set(h:Fits s l){i:Nat}(hi:i<l.length)(b:List Nat):Fits (s.put ((i+1:Nat):Int) b) (l.set i b):=by
 have hrow:(s.rowFor ((i+1:Nat):Int)).page=((i+1:Nat):Int)∧(s.rowFor ((i+1:Nat):Int)).pins=0∧(s.rowFor ((i+1:Nat):Int)).dirty=false:=by
  unfold Cch.CS.rowFor
  cases hf:s.find ((i+1:Nat):Int) with
  | none=>exact ⟨rfl,rfl,rfl⟩
  | some r=>
   have hrk:=(List.find?_eq_some_iff_append.1 hf).1
   obtain ⟨j,_,_,_,h4,h5⟩:=h.kept r (List.mem_of_find?_eq_some hf)
   exact ⟨by simpa using hrk,h4,h5⟩
 have hol:(s.others ((i+1:Nat):Int)).length≤s.l.length:=List.length_filter_le _ _
 have hpl:(s.putL ((i+1:Nat):Int) b).length=(s.others ((i+1:Nat):Int)).length+1:=by simp [Cch.CS.putL]
 have hl:=h.len
 have hr8:=h.room
 refine ⟨fun x hx=>?_,?_,h.room⟩
 ·have hx':=(shedL_sub _ _ _).subset hx
  rcases List.mem_append.1 hx' with h1 |h1
  ·obtain ⟨hm,hne⟩:=List.mem_filter.1 h1
   obtain ⟨j,e1,e2,e3,e4⟩:=h.kept x hm
   refine ⟨j,e1,by rw [List.length_set];exact e2,?_,e4⟩
   have hji:¬i=j:=fun e=>by subst e;simp [e1]at hne
   rw [getD_set,if_neg (fun hh=>hji hh.1)];exact e3
  ·rw [List.mem_singleton.1 h1]
   exact ⟨i,hrow.1,by rw [List.length_set];exact hi,by rw [getD_set,if_pos ⟨rfl,hi⟩],hrow.2.1,hrow.2.2⟩
 ·show (shedL (p52 ((i+1:Nat):Int)) ((s.putL ((i+1:Nat):Int) b).length - s.room) (s.putL ((i+1:Nat):Int) b)).length≤s.room
  rcases Nat.lt_or_ge (s.others ((i+1:Nat):Int)).length s.room with h1 |h1
  ·rw [hpl,show (s.others ((i+1:Nat):Int)).length+1 - s.room=0 by omega,Cch.shedL_zero,hpl];omega
  ·rw [hpl,show (s.others ((i+1:Nat):Int)).length+1 - s.room=1 by omega]
   unfold Cch.CS.putL
   cases ho:s.others ((i+1:Nat):Int) with
   | nil=>rw [ho]at h1;simp at h1;omega
   | cons r t=>
    have hr:r∈s.others ((i+1:Nat):Int):=by rw [ho];exact List.mem_cons_self
    obtain ⟨hm,hne⟩:=List.mem_filter.1 hr
    obtain ⟨j,_,_,_,h4,h5⟩:=h.kept r hm
    have hp:p52 ((i+1:Nat):Int) r=true:=by
     unfold p52
     rw [h4,h5]
     simpa using hne
    rw [List.cons_append,Cch.shed_yes (by omega) hp,Cch.shedL_zero]
    rw [ho]at hol
    simp only [List.length_cons]at hol
    simp only [List.length_append,List.length_singleton];omega
theorem Fits.drop(h:Fits s l)(k:Int):Fits (s.drop k).1 l∧(∀ r∈(s.drop k).1.l,r∈s.l∧r.page≠k)∧(s.drop k).1.room=s.room∧(s.drop k).1.hit=s.hit∧(s.drop k).1.miss=s.miss:=by
 unfold Cch.CS.drop
 cases hf:s.find k with
 | none=>
  refine ⟨h,fun r hr=>⟨hr,fun e=>?_⟩,rfl,rfl,rfl⟩
  have:=List.find?_eq_none.1 hf r hr
  simp [e]at this
 | some r0=>
  obtain ⟨j,_,_,_,h4,_⟩:=h.kept r0 (List.mem_of_find?_eq_some hf)
  simp only [h4,if_true]
  refine ⟨⟨fun r hr=>h.kept r (List.mem_filter.1 hr).1,Nat.le_trans (List.length_filter_le _ _) h.len,h.room⟩,fun r hr=>?_,by first |rfl |trivial⟩
  obtain ⟨h1,h2⟩:=List.mem_filter.1 hr
  exact ⟨h1,by simpa using h2⟩
theorem put_count(s:CS)(k:Int)(b:List Nat):(s.put k b).hit=s.hit∧(s.put k b).miss=s.miss∧(s.put k b).room=s.room:=⟨rfl,rfl,rfl⟩
def mid0(sure now:List Pg):List Pg:=(List.range now.length).map fun i=>sure.getD i []
def midL(sure now:List Pg)(l:List Nat)(j:Nat):List Pg:=(l.take j).foldl (fun m z=>m.set (z - 1) (now.getD (z - 1) [])) (mid0 sure now)
theorem mid0_length(sure now:List Pg):(mid0 sure now).length=now.length:=by simp [mid0]
theorem mid0_get(sure now:List Pg){i:Nat}(h:i<now.length):(mid0 sure now).getD i []=sure.getD i []:=by
 simp [mid0,List.getD,h]
theorem foldl_len(now:List Pg)(l:List Nat)(m:List Pg):(l.foldl (fun m z=>m.set (z - 1) (now.getD (z - 1) [])) m).length=m.length:=by
 induction l generalizing m with
 | nil=>rfl
 | cons z r ih=>rw [List.foldl_cons,ih,List.length_set]
theorem midL_length(sure now:List Pg)(l:List Nat)(j:Nat):(midL sure now l j).length=now.length:=by rw [midL,foldl_len,mid0_length]
theorem midL_succ(sure now:List Pg){l:List Nat}{j:Nat}(h:j<l.length):midL sure now l (j+1)=(midL sure now l j).set (l.getD j 0 - 1) (now.getD (l.getD j 0 - 1) []):=by
 have e:l.take (j+1)=l.take j++[l.getD j 0]:=by
  rw [List.take_add_one,List.getElem?_eq_getElem h];simp [List.getD,List.getElem?_eq_getElem h]
 rw [midL,e,List.foldl_append];rfl
theorem foldl_get(now:List Pg)(l:List Nat)(m:List Pg)(hm:m.length=now.length)(hl:∀ z∈l,1≤z){i:Nat}(hi:i<now.length):(l.foldl (fun m z=>m.set (z - 1) (now.getD (z - 1) [])) m).getD i []=if (i+1)∈l then now.getD i [] else m.getD i []:=by
 induction l generalizing m with
 | nil=>simp
 | cons z r ih=>
  rw [List.foldl_cons,ih _ (by rw [List.length_set];exact hm) (fun y hy=>hl y (List.mem_cons_of_mem _ hy))]
  have hz:=hl z List.mem_cons_self
  by_cases h1:(i+1)∈r
  ·rw [if_pos h1,if_pos (List.mem_cons_of_mem _ h1)]
  ·rw [if_neg h1,getD_set]
   by_cases h2:z=i+1
   ·subst h2
    rw [if_pos ⟨by omega,by omega⟩,if_pos List.mem_cons_self]
    rfl
   ·rw [if_neg (by omega),if_neg (by
     intro h3
     rcases List.mem_cons.1 h3 with h4 |h4
     ·exact h2 h4.symm
     ·exact h1 h4)]
theorem ext_getD{a b:List Pg}(hl:a.length=b.length)(h:∀ i,i<b.length→a.getD i []=b.getD i []):a=b:=by
 apply List.ext_getElem hl
 intro i h1 h2
 have:=h i h2
 rwa [List.getD,List.getD,List.getElem?_eq_getElem h1,List.getElem?_eq_getElem h2]at this
variable {c:List Bool} {sure now:List Pg}
theorem midL_end(hsm:∀ i,i<now.length→c.getD i false=false→i<sure.length∧now.getD i []=sure.getD i []):midL sure now (chL c) (chL c).length=now:=by
 refine ext_getD (midL_length _ _ _ _) (fun i hi=>?_)
 rw [midL,List.take_length,foldl_get now _ _ (mid0_length _ _) (fun z hz=>(chL_mem hz).1) hi,mid0_get _ _ hi]
 split
 ·rfl
 ·rename_i h
  refine (hsm i hi ?_).2.symm
  cases hc:c.getD i false
  ·rfl
  ·exact absurd (Dsk.mem_idx.2 (by simpa using hc)) h
abbrev S8(p:Nat)(x:PC)(n:Nat)(D:DataW Unit)(W:World):Prop:=PgAt W p x∧W.ownsMap Tryz.prog 3 slR x.m n D
structure SetI (w W:World) (p:Nat) (x:PC) (P:Dsk.Parts) (C C':Cch.Parts) (d:DS) (s s':CS) (n:Nat) (now:List Pg) (c:List Bool) (enc:List Sec) (l:List Pg):Prop where
 core:Core W p x P C' d s'
 chg:Chg W (NC p x P C') x.m n now c enc
 mo:Out W (NC p x P C') x.m
 fits:Fits s' l
 more:More p x P P C C' w
 fr:Fr (NC p x P C) w W
 cnt:s'.hit=s.hit∧s'.miss=s.miss∧s'.room=s.room
 tab:Jrn.Tab W
 t0:Out W (NC p x P C') 0
variable {enc:List Sec} {n p:Nat} {s':CS} {d:DS} {x:PC} {w W W':World}
theorem SetI.later{P:Dsk.Parts}{C C':Cch.Parts}(h:SetI w W p x P C C' d s s' n now c enc l)(hb:Below W.heap.size W W'):SetI w W' p x P C C' d s s' n now c enc l:=
 ⟨h.core.later hb,h.chg.later hb,h.mo.later hb.size,h.fits,h.more,fr_trans h.fr (fr_below (S:=NC p x P C) hb) (fun _ h=>Or.inl h),h.cnt,h.tab.keep hb,h.t0.later hb.size⟩
theorem SetI.step{P:Dsk.Parts}{C C' C2:Cch.Parts}{s2:CS}{l2:List Pg}(h:SetI w W p x P C C' d s s' n now c enc l)(k:Cch.Step W W' x.k C' C2 s2)(hf:Fits s2 l2)(hc:s2.hit=s'.hit∧s2.miss=s'.miss∧s2.room=s'.room):SetI w W' p x P C C2 d s s2 n now c enc l2:=by
 obtain ⟨h1,h2,h3⟩:=h.core.cache k
 have hk:∀ b,Out W (NC p x P C') b→W'.heap[b]? = W.heap[b]?:=fun b ho=>h3.blk b ho.1 (fun hS=>ho.2 (Or.inr (Or.inl hS)))
 exact ⟨h1,h.chg.turn (hk _ h.mo) (fun _ ho=>h2.out h3.size ho) (fun _ _ _ ho hcell=>(World.cell?_of_block (hk _ ho)).trans hcell),h2.out h3.size h.mo,hf,h.more.trans h2 h.fr.size,
  fr_trans h.fr (fr_imp h3 (S1:=NC p x P C') (fun b hb=>Or.inr (Or.inl hb))) (fun b hb=>h.more b hb),⟨hc.1.trans h.cnt.1,hc.2.1.trans h.cnt.2.1,hc.2.2.trans h.cnt.2.2⟩,tab_of h.tab (hk _ h.t0),h2.out h3.size h.t0⟩
theorem fr_undrew{S:Nat→Prop}{w':World}(h:Fr S w.drew w'):Fr S w w':=⟨h.os,h.tape,h.output,h.size,h.blk⟩
theorem fits_mid(h:Fits s sure)(hr:∀ r∈s.l,r.page≤(now.length:Int)):Fits s (mid0 sure now):=by
 refine ⟨fun r hm=>?_,h.len,h.room⟩
 obtain ⟨i,e1,e2,e3,e4⟩:=h.kept r hm
 have:=hr r hm
 have hi:i<now.length:=by omega
 exact ⟨i,e1,by rw [mid0_length];exact hi,by rw [mid0_get _ _ hi];exact e3,e4⟩
theorem settle_calle(p:Nat)(x:PC)(P:Dsk.Parts)(C:Cch.Parts)(d:DS)(s:CS)(sure:List Pg)(n:Nat)(now:List Pg)(c:List Bool)(enc:List Sec)(w:World)(h:Tx w p x P C d s sure n now c enc)(hcom:x.com≤1000000) :
  Calls Tryz.prog 65 #[.pointer (some ⟨p,0,none⟩)] w fun e w'=>e=.returned (.tuple #[])∧∃ C' s' m,Tx w' p ({ x with pages:=now.length,com:=x.com+1 }.ended m) P C' d s' now 0 now (List.replicate now.length false) (List.replicate (now.length+1) [])∧More p x P P C C' w∧Fr (NC p x P C) w w'∧s'.hit=s.hit∧s'.miss=s.miss∧s'.room=s.room∧w.heap.size≤m:=by
 have hxn:=h.np;have hxp:=h.pages;have hcl:=h.chg.len
 have hbn:=h.bn;have hbs:=h.bs
 have HSM:=hid h.sm;have HWN:=hid h.wn
 obtain ⟨np,hnp⟩:∃ np,now.length=np:=⟨_,rfl⟩
 obtain ⟨T,hT⟩:∃ T,sure.length=T:=⟨_,rfl⟩
 have I0:SetI w w p x P C C d s s n now c enc sure:=⟨h.core,h.chg,h.mo,h.fits,More.refl _ _ _ _ _,Fr.refl _ _,⟨rfl,rfl,rfl⟩,h.tab,h.t0⟩
 have HI:=hid I0
 have HXN:Hid (x.np=np):=hid (hxn.trans hnp)
 have HXP:Hid (x.pages=T):=hid (hxp.trans hT)
 have HNN:=hid hnp;have HTT:=hid hT;have HCL:=hid hcl
 have hnpb:np≤4000:=by omega
 have hTb:T≤4000:=by omega
 have hcb:c.length≤4000:=by omega
 obtain ⟨K,hK⟩:∃ K,T - np=K:=⟨_,rfl⟩
 have HK:=hid hK
 have hKb:K≤4000:=by omega
 obtain ⟨a0,a1,a2,a3,a4,a5,a6,a7,a8,a9,a10,a11⟩:=h.core.hd.cells
 rw [HXN.out]at a6;rw [HXP.out]at a4
 have HRP:Hid (∀ r∈s.l,r.page≤(T:Int)):=hid (fun r hr=>by
  obtain ⟨i,e1,e2,_⟩:=h.fits.kept r hr
  omega)
 clear h hxn hxp hcl hnp hT I0 hbn hbs hK
 go_enter Tryz.func65,Tryz.ntmps65
 go_wp2
 go_loopw [2] (fun v W=>∃ (j J:Nat) (C':Cch.Parts) (s':CS),j≤K∧Hid (J=np+1+j)∧v=.int .i64 (J:Int)∧Hid (SetI w W p x P C C' d s s' n now c enc sure)∧Hid (∀ r∈s'.l,r.page≤(np:Int)∨((np+j:Nat):Int)<r.page)) (fun v _=>np+1+K - (Lib.intOf v).toNat)
 case atStart=>exact ⟨0,np+1,C,s,by omega,hid rfl,by go_num,HI,hid (fun r _=>by omega)⟩
 case round=>
  obtain ⟨j,J,C',s',hj,HJ,rfl,I,RR⟩:=hrel
  clear HI a0 a1 a2 a3 a4 a5 a6 a7 a8 a9 a10 a11
  have hJb:J≤10000:=by have:=HJ.out;omega
  obtain ⟨a0,a1,a2,a3,a4,a5,a6,a7,a8,a9,a10,a11⟩:=I.out.core.hd.cells
  rw [HXN.out]at a6;rw [HXP.out]at a4
  by_cases hjK:j<K
  ·have hle:(J:Int)≤(T:Int):=by have:=HK.out;have:=HJ.out;omega
   have cd:=hid (Cch.drop_call x.k C' s' (J:Int) wr I.out.core.ck (Dsk.wf_i64 J (by omega)))
   go_wp2_with (go_at_call 94;refine cd.out.mono ?_;rintro e w5 ⟨rfl,C5,hst⟩;have ST:=hid hst;clear hst)
   go_roundw
   case rel=>
    obtain ⟨f1,f2,f3,f4,f5⟩:=I.out.fits.drop (J:Int)
    exact ⟨j+1,J+1,C5,_,by omega,hid (by have:=HJ.out;omega),by go_num,hid (I.out.step ST.out f1 ⟨f4,f5,f3⟩),hid (fun r hr=>by
     obtain ⟨g1,g2⟩:=f2 r hr
     have:=HJ.out
     rcases RR.out r g1 with h1 |h1
     ·exact Or.inl h1
     ·right;omega)⟩
   case measure=>simp [Lib.intOf];have:=HJ.out;omega
  ·obtain rfl:j=K:=by omega
   have hgt:¬(J:Int)≤(T:Int):=by have:=HK.out;have:=HJ.out;omega
   have hcl:=chL_length c
   have hrows:∀ r∈s'.l,r.page≤(now.length:Int):=fun r hr=>by
    obtain ⟨i,e1,e2,_⟩:=I.out.fits.kept r hr
    have h1:=HK.out;have h2:=HTT.out;have h3:=HNN.out
    rcases RR.out r hr with h4 |h4<;>omega
   have I1:=hid (show SetI w wr p x P C C' d s s' n now c enc (mid0 sure now) from { I.out with fits:=fits_mid I.out.fits hrows })
   obtain ⟨l,hll⟩:∃ l,chL c=l:=⟨_,rfl⟩
   have c56:=hid (changed_any (np:Int) x.m n (false::c) enc wr I.out.chg.map (by unfold chL at hcl;omega))
   rw [show idx (false::c)=l from hll]at c56
   have HLM:Hid (∀ z∈l,1≤z∧z≤c.length∧c.getD (z - 1) false=true):=hid (fun z hz=>chL_mem (by rw [hll];exact hz))
   have HEND:Hid (midL sure now l l.length=now):=hid (by rw [←hll];exact midL_end HSM.out)
   rw [hll]at hcl
   obtain ⟨L,hL⟩:∃ L,l.length=L:=⟨_,rfl⟩
   rw [hL]at c56 hcl HEND
   have HLL:=hid hL
   have I2:Hid (SetI w wr p x P C C' d s s' n now c enc (midL sure now l 0)):=I1
   clear hrows I1 hll hL I RR
   obtain ⟨wq,hwq⟩:∃ y,y=wr:=⟨_,rfl⟩
   subst hwq
   go_wp2_with (go_at_call 56;refine c56.out.mono ?_;rintro e w2 ⟨v2,rfl,o2,n2,b2⟩;obtain ⟨ao2,c2,rfl⟩:=row_slice o2;have O2:=hid o2;have I3:=hid (I2.out.later b2);have NCL:Hid (∀ b,NC p x P C' b→b<wq.heap.size):=hid (fun b hb=>I2.out.core.lt hb);have B2s:=hid b2.size;clear o2 n2 b2 a0 a1 a2 a3 a4 a5 a6 a7 a8 a9 a10 a11)
   go_loopw [31] (fun cc W=>∃ (i:Nat) (C2:Cch.Parts) (s2:CS),i≤L∧cc=.int .i64 (i:Int)∧Hid (SetI w W p x P C C2 d s s2 n now c enc (midL sure now l i))∧Hid (Fr (NC p x P C') w2 W)∧Hid (∀ b,NC p x P C2 b→NC p x P C' b∨w2.heap.size≤b)) (fun cc _=>L - (Lib.intOf cc).toNat)
   case atStart=>exact ⟨0,C',s',by omega,rfl,I3,hid (Fr.refl _ _),hid (fun b hb=>Or.inl hb)⟩
   case round=>
    obtain ⟨i,C2,s2,hi,rfl,I,HF2,HM2⟩:=hrel
    clear I2 I3
    by_cases hiL:i<L
    ·obtain ⟨g,hcp,hv,hg2,hglt⟩:=O2.out.form (by omega)
     simp only [Value.slice.injEq]at hv
     obtain ⟨rfl,-,rfl⟩:=hv
     obtain ⟨z,hz⟩:∃ z,l.getD i 0=z:=⟨_,rfl⟩
     have hgN:¬NC p x P C' g:=fun hk=>by have:=NCL.out g hk;omega
     have hcz:wr.cell? ⟨g,i,none⟩=some (.int .i64 (z:Int)):=fr_cell HF2.out (by rw [O2.out.cellAt i (by omega),zI_get (by rw [HLL.out];exact hiL),hz]) hgN
     have hzl:z∈l:=by
      rw [←hz,List.getD,List.getElem?_eq_getElem (by rw [HLL.out];exact hiL)]
      exact List.getElem_mem _
     obtain ⟨hz1',hz2,hz3⟩:=HLM.out z hzl
     replace I:=hid (I.out.later (Below.refl _ _).drew)
     obtain ⟨b,o,cap,hen,hrd,hob0⟩:=I.out.chg.at_ (z - 1) hz3
     rw [show z - 1+1=z by omega]at hen
     obtain ⟨dd,hd⟩:∃ d,now.getD (z - 1) []=d:=⟨_,rfl⟩
     rw [hd]at hrd
     have hwz:Hid ((Lit.int .i64 (z:Int)).wf=true):=hid (Dsk.wf_i64 z (by omega))
     have hz1:Hid (1≤(z:Int)):=hid (by omega)
     have hat:Hid ((dirtD (false::c) enc).atKey (.int .i64 (z:Int)) (secD [])=secD [b,o,512,cap]):=hid (by
      rw [Dsk.at_dirt _ _ _ (by cases z with |zero=>omega |succ z=>simpa using hz3),hen])
     have rdw:Hid (∀ W,Below wr.drew.heap.size wr.drew W→Rd W (some ⟨b,o,none⟩) 512 cap dd):=hid (fun W hW=>hrd.keep hW)
     have hnb:Hid (¬C2.S x.k b):=hid (fun hS=>hob0.2 (Or.inr (Or.inl hS)))
     have hks:Hid (C2.ks.length<1000000):=hid (by
      have h1:=I.out.fits.len
      rw [I.out.core.ck.ls,List.length_map]at h1
      have:=I.out.core.ck.rm
      omega)
     have FIT:Hid (Fits (s2.put (z:Int) dd) (midL sure now l (i+1))):=hid (by
      have hzi:z - 1<(midL sure now l i).length:=by rw [midL_length];have:=HCL.out;omega
      have:=I.out.fits.set hzi dd
      rw [show z - 1+1=z by omega]at this
      rw [midL_succ sure now (by rw [HLL.out];exact hiL),hz,hd];exact this)
     have MP:Hid (wr.drew.ownsMap Tryz.prog 3 slR x.m n (dirtD (false::c) enc)):=hid I.out.chg.map
     have HP:=hid I.out.core.hd
     have hiI:(i:Int)<(L:Int):=by omega
     have hi0:(0:Int)≤(i:Int):=by omega
     clear hz hzl hz1' hz2 hz3 hen hrd hob0 hd hg2 hgN
     go_upto_region 7 with fail
     clear hcz
     refine wp_region_K (S:=S8 p x n (dirtD (false::c) enc)) (fun _=>false) (by kernel_rfl) ⟨HP.out,MP.out⟩ (fun hHeld=>?_)
     refine gkp 0 ?_
     refine gkp 1 ?_
     refine gkp 2 ?_
     refine gkt 3 ?_ (h:=by intro W hSw;obtain ⟨a0,a1,a2,a3,a4,a5,a6,a7,a8,a9,a10,a11⟩:=hSw.1.cells;go_simp;first |done |with_reducible rfl)
     refine gkp 4 ?_
     refine gkp 5 ?_
     refine gkp 6 ?_
     refine gkp 7 ?_
     refine gkp 8 ?_
     refine gkt 9 ?_ (h:=by intro W hSw;obtain ⟨a0,a1,a2,a3,a4,a5,a6,a7,a8,a9,a10,a11⟩:=hSw.1.cells;go_simp;first |done |with_reducible rfl)
     refine gkp 10 ?_
     refine gkt 11 ?_ (h:=by intro W hSw;have lk:=lookB hSw.2 (z:Int) hwz.out b o 512 cap hat.out;go_simp;first |done |with_reducible rfl)
     refine gk1 12 (fun K hK=>?_)
     go_simp
     go_at_call 95;refine (Cch.put_call x.k b o cap C2 s2 (z:Int) dd wr.drew I.out.core.ck hwz.out hz1.out (rdw.out wr.drew (Below.refl _ _)) hnb.out hks.out).mono ?_;rintro e w5 ⟨rfl,C5,hst⟩;have I5:=hid (I.out.step hst FIT.out (put_count s2 (z:Int) dd));have F5:=hid hst.fr;have G5:=hid hst.gr;have hR:S8 p x n (dirtD (false::c) enc) w5:=⟨I5.out.core.hd,I5.out.chg.map⟩;clear hst
     refine hK.out _ _ hR (fun hHeld=>?_)
     clear hK K
     (try simp only [Act.put,sA,sZ,sS])
     clear hR
     refine wpAnyK_done (by kernel_rfl) ?_ _
     go_wp2
     go_roundw
     case rel=>exact ⟨i+1,C5,_,by omega,by go_num,I5,hid (fr_trans HF2.out (fr_imp (fr_undrew F5.out) (S1:=NC p x P C2) (fun b hb=>Or.inr (Or.inl hb))) (fun b hb=>HM2.out b hb)),hid (fun b hb=>by
      rcases hb with hb |hb |hb
      ·exact HM2.out b (Or.inl hb)
      ·rcases G5.out b hb with h1 |h1
       ·exact HM2.out b (Or.inr (Or.inl h1))
       ·exact Or.inr (Nat.le_trans HF2.out.size h1)
      ·exact HM2.out b (Or.inr (Or.inr hb)))⟩
     case measure=>simp [Lib.intOf];omega
    ·obtain rfl:i=L:=by omega
     have hend:=HEND.out
     have hI:=I.out
     rw [hend]at hI
     replace I:=hid hI
     clear hI
     obtain ⟨a0,a1,a2,a3,a4,a5,a6,a7,a8,a9,a10,a11⟩:=I.out.core.hd.cells
     rw [HXN.out]at a6
     have f4:=I.out.core.hd.frozen 4;have f10:=I.out.core.hd.frozen 10
     obtain ⟨wy,hwy⟩:∃ wy,wy=(wr.setCell ⟨p,4,none⟩ (.int .i64 (np:Int))).setCell ⟨p,10,none⟩ (.int .i64 ((x.com:Int)+1)):=⟨_,rfl⟩
     have hoth:∀ b,b≠p→wy.heap[b]? = wr.heap[b]?:=fun b hb=>by rw [hwy,heap_setCell_other _ _ _ _ hb,heap_setCell_other _ _ _ _ hb]
     have hysz:wy.heap.size=wr.heap.size:=by rw [hwy];simp
     have hPy:PgAt wy p { x with pages:=now.length,com:=x.com+1 }:=by
      have h1:=Cch.blk_set (Cch.blk_set I.out.core.hd (i:=4) (v:=.int .i64 (np:Int))) (i:=10) (v:=.int .i64 ((x.com:Int)+1))
      unfold PgAt
      rw [hwy,h1,←HNN.out,show (x.com:Int)+1=((x.com+1:Nat):Int) by omega];rfl
     have hCy:Core wy p { x with pages:=now.length,com:=x.com+1 } P C2 d s2:=
      ⟨hPy,I.out.core.dk.stay (Nat.le_of_eq hysz.symm) (fun b _ hd=>hoth b (fun e=>I.out.core.dp (by rcases hd with h1 |h1;exact Or.inr (e▸h1);exact Or.inl (e▸h1)))),I.out.core.ck.stay (fun b _ hS=>hoth b (fun e=>I.out.core.cp (e▸hS))),I.out.core.dc,I.out.core.dp,I.out.core.cp⟩
     have hp0:0≠p:=fun e=>I.out.t0.2 (Or.inr (Or.inr e))
     have FF:Hid (∀ w',w'=(((((wy.setCell ⟨p,5,none⟩ (.bool false)).setCell ⟨p,6,none⟩ (.int .i64 (now.length:Int))).setCell ⟨p,7,none⟩ (.map (some wy.heap.size))).setCell ⟨p,8,none⟩ (.slice none 0 0)).setCell ⟨p,9,none⟩ (.int .i64 0)).alloc (.map #[] 0)→_):=
      hid (fun w' hw=>tx_fresh (x:={ x with pages:=now.length,com:=x.com+1 }) hCy I.out.fits rfl HWN.out (by have:=HNN.out;omega) (tab_of I.out.tab (hoth 0 hp0)) ⟨by rw [hysz];exact I.out.t0.1,I.out.t0.2⟩ hw)
     have ce:=hid (end_raw p { x with pages:=now.length,com:=x.com+1 } wy hPy)
     have FY:Hid (Fr (NC p x P C) w wy):=hid (fr_trans I.out.fr (S1:=fun b=>b=p) ⟨by rw [hwy];rfl,by rw [hwy];rfl,by rw [hwy];rfl,Nat.le_of_eq hysz.symm,fun b _ hn=>hoth b hn⟩ (fun b hb=>Or.inl (Or.inr (Or.inr hb))))
     have HWY:=hid hwy
     clear hwy hoth hysz hPy hCy
     go_wp2_with (go_at_call 44;rw [←HWY.out];refine ce.out.mono ?_;rintro e w9 ⟨rfl,hw9⟩;have HW9:=hid hw9;clear hw9)
     go_end0
     obtain ⟨t1,t2⟩:=FF.out w9 HW9.out
     exact ⟨rfl,C2,s2,wy.heap.size,t1,I.out.more,fr_trans FY.out t2 (fun b hb=>Or.inl (Or.inr (Or.inr hb))),I.out.cnt.1,I.out.cnt.2.1,I.out.cnt.2.2,FY.out.size⟩
end
section
open Go.RowKit Go.Maps
open Dsk (gt hid undrew keep_old keep_cell lt_cell Rd DS FS Sec DiskP DFrame Grew From op_at idx dirtD was secD)
open Cch (CS CP Fr)
def Rest(w:World)(p:Nat)(x:PC)(P:Dsk.Parts)(C:Cch.Parts)(d:DS)(s:CS)(sure:List Pg):Prop:=
 Tx w p x P C d s sure 0 sure (List.replicate sure.length false) (List.replicate (sure.length+1) [])
def idle(sure now:List Pg)(c:List Bool):Bool:=decide ((chL c).length=0)&&decide (now.length=sure.length)
theorem commit_idlee(p:Nat)(x:PC)(P:Dsk.Parts)(C:Cch.Parts)(d:DS)(s:CS)(sure:List Pg)(n:Nat)(now:List Pg)(c:List Bool)(enc:List Sec)(w:World)(h:Tx w p x P C d s sure n now c enc)(hb:x.busy=true)(hi:idle sure now c=true) :
  Calls Tryz.prog 27 #[.pointer (some ⟨p,0,none⟩)] w fun e w'=>e=.returned (.int .i64 0)∧∃ m,Rest w' p (x.ended m) P C d s sure∧Fr (fun b=>b=p) w w'∧w.heap.size≤m:=by
 have cw:=within_live p x w h.core.hd
 rw [hb]at cw
 have CW:=hid cw
 have cu:∀ W,Below w.heap.size w W→Calls Tryz.prog 63 #[.pointer (some ⟨p,0,none⟩)] W fun e w'=>e=.returned (.bool true)∧Below W.heap.size W w':=fun W hW=>by
  have:=unchanged_call p x n c enc W (h.core.hd.later hW) (h.later hW).chg.map
  rw [h.np,h.pages,show (decide ((chL c).length=0)&&decide (now.length=sure.length))=true from hi]at this
  exact this
 have CU:=hid cu;have H:=hid h
 clear cw cu h hb hi
 go_enter Tryz.func27,Tryz.ntmps27
 go_wp2_with (first
  | (go_at_call 55;refine CW.out.mono ?_;rintro e w1 ⟨rfl,hb1⟩;have B1:=hid hb1;clear hb1)
  | (go_at_call 63;refine (CU.out w1 B1.out).mono ?_;rintro e w2 ⟨rfl,hb2⟩;have B2:=hid (gt B1.out hb2);clear hb2)
  | (go_at_call 44;refine (end_raw p x w2 (H.out.core.hd.later B2.out)).mono ?_;rintro e w3 ⟨rfl,hw3⟩;have H2:=hid (H.out.later B2.out);have T3:=hid (tx_fresh H2.out.core H2.out.fits H2.out.pages H2.out.ws H2.out.bs H2.out.tab H2.out.t0 hw3);clear hw3))
 go_ret
 exact ⟨rfl,w2.heap.size,T3.out.1,fr_trans (fr_below B2.out) T3.out.2 (fun _ hb=>Or.inl hb),B2.out.size⟩
theorem pre_commit{p:Nat}{x:PC}{P:Dsk.Parts}{C:Cch.Parts}{d:DS}{s:CS}{sure:List Pg}{n:Nat}{now:List Pg}{c:List Bool}{enc:List Sec}{w:World}(h:Tx w p x P C d s sure n now c enc)(hi:idle sure now c=false)(W:World)(hW:Below w.heap.size w W) :
  Calls Tryz.prog 63 #[.pointer (some ⟨p,0,none⟩)] W fun e w'=>e=.returned (.bool false)∧Below W.heap.size W w':=by
 have:=unchanged_call p x n c enc W (h.core.hd.later hW) (h.later hW).chg.map
 rw [h.np,h.pages,show (decide ((chL c).length=0)&&decide (now.length=sure.length))=false from hi]at this
 exact this
theorem commit_oke(p:Nat)(x:PC)(P:Dsk.Parts)(C:Cch.Parts)(d d':DS)(s:CS)(sure:List Pg)(n:Nat)(now:List Pg)(c:List Bool)(enc:List Sec)(w:World)(h:Tx w p x P C d s sure n now c enc)(hb:x.busy=true)(hi:idle sure now c=false)
  (hf:d.f0.now=secsOf sure) (ho:d.off=false∨pastL c now.length sure.length = []) (hh:s.hit+s.miss≤800000) (hL:jL c now.length sure.length≤150) (hop:d.ops≤900000000) (hcom:x.com≤1000000) (hr:storeD d sure now c now.length=(0,d')) :
  Calls Tryz.prog 27 #[.pointer (some ⟨p,0,none⟩)] w fun e w'=>e=.returned (.int .i64 0)∧∃ P' C' s' m,Rest w' p ({ x with pages:=now.length,com:=x.com+1 }.ended m) P' C' d' s' now∧More p x P P' C C' w∧Fr (NC p x P C) w w'∧s'.hit+s'.miss≤s.hit+s.miss+(pastL c x.np x.pages).length∧s'.room=s.room∧w.heap.size≤m:=by
 have cw:=within_live p x w h.core.hd
 rw [hb]at cw
 have CW:=hid cw
 have CU:=hid (pre_commit h hi)
 have CS:=hid (fun W (hW:Below w.heap.size w W)=>store_call p x P C d s sure n now c enc W (h.later hW) hf ho hh hL hop)
 rw [hr]at CS
 have H:=hid h
 clear cw h hb hi hf ho hh hL hop hr
 go_enter Tryz.func27,Tryz.ntmps27
 go_wp2_with (first
  | (go_at_call 55;refine CW.out.mono ?_;rintro e w1 ⟨rfl,hb1⟩;have B1:=hid hb1;clear hb1)
  | (go_at_call 63;refine (CU.out w1 B1.out).mono ?_;rintro e w2 ⟨rfl,hb2⟩;have B2:=hid (gt B1.out hb2);clear hb2)
  | (go_at_call 64;refine (CS.out w2 B2.out).mono ?_;rintro e w3 ⟨rfl,⟨P3,C3,s3,ht3,hm3,hc3,hr3⟩,hf3⟩;have T3:=hid ht3;have M3:=hid hm3;have K3:=hid (And.intro hc3 hr3);have F3:=hid hf3;clear ht3 hm3 hc3 hr3 hf3)
  | (go_at_call 65;refine (settle_calle p x P3 C3 d' s3 sure n now c enc w3 T3.out hcom).mono ?_;rintro e w4 ⟨rfl,C4,s4,m4,ht4,hm4,hf4,e1,e2,e3,e4⟩;have T4:=hid ht4;have M4:=hid hm4;have F4:=hid hf4;have K4:=hid (And.intro e1 (And.intro e2 e3));have L4:=hid e4;clear ht4 hm4 hf4 e1 e2 e3 e4))
 go_ret
 refine ⟨rfl,P3,C4,s4,m4,T4.out,fun b hb=>?_,fr_trans (fr_trans (fr_below (S:=NC p x P C) B2.out) F3.out (fun b hb=>Or.inl hb)) F4.out (fun b hb=>?_),?_,?_,Nat.le_trans B2.out.size (Nat.le_trans F3.out.size L4.out)⟩
 ·rcases M4.out b hb with h1 |h1
  ·rcases M3.out b h1 with h2 |h2
   ·exact Or.inl h2
   ·exact Or.inr (Nat.le_trans B2.out.size h2)
  ·exact Or.inr (Nat.le_trans B2.out.size (Nat.le_trans F3.out.size h1))
 ·rcases M3.out b hb with h2 |h2
  ·exact Or.inl h2
  ·exact Or.inr (Nat.le_trans B2.out.size h2)
 ·obtain ⟨e1,e2,e3⟩:=K4.out
  have:=K3.out.1
  omega
 ·exact K4.out.2.2.trans K3.out.2
theorem commit_ok(p:Nat)(x:PC)(P:Dsk.Parts)(C:Cch.Parts)(d d':DS)(s:CS)(sure:List Pg)(n:Nat)(now:List Pg)(c:List Bool)(enc:List Sec)(w:World)(h:Tx w p x P C d s sure n now c enc)(hb:x.busy=true)(hi:idle sure now c=false)
  (hf:d.f0.now=secsOf sure) (ho:d.off=false∨pastL c now.length sure.length = []) (hh:s.hit+s.miss≤800000) (hL:jL c now.length sure.length≤150) (hop:d.ops≤900000000) (hcom:x.com≤1000000) (hr:storeD d sure now c now.length=(0,d')) :
  Calls Tryz.prog 27 #[.pointer (some ⟨p,0,none⟩)] w fun e w'=>e=.returned (.int .i64 0)∧∃ P' C' s' m,Rest w' p ({ x with pages:=now.length,com:=x.com+1 }.ended m) P' C' d' s' now∧More p x P P' C C' w∧Fr (NC p x P C) w w'∧s'.hit+s'.miss≤s.hit+s.miss+(pastL c x.np x.pages).length∧s'.room=s.room:=
 (commit_oke p x P C d d' s sure n now c enc w h hb hi hf ho hh hL hop hcom hr).mono fun _ _ ⟨h1,P',C',s',m,h2,h3,h4,h5,h6,_⟩=>⟨h1,P',C',s',m,h2,h3,h4,h5,h6⟩
theorem commit_full(p:Nat)(x:PC)(P:Dsk.Parts)(C:Cch.Parts)(d d':DS)(r:Int)(s:CS)(sure:List Pg)(n:Nat)(now:List Pg)(c:List Bool)(enc:List Sec)(w:World)(h:Tx w p x P C d s sure n now c enc)(hb:x.busy=true)(hi:idle sure now c=false)
  (hf:d.f0.now=secsOf sure) (ho:d.off=false∨pastL c now.length sure.length = []) (hh:s.hit+s.miss≤800000) (hL:jL c now.length sure.length≤150) (hop:d.ops≤900000000) (hr:storeD d sure now c now.length=(r,d')) (h0:r≠0) (h4:r≠4) :
  Calls Tryz.prog 27 #[.pointer (some ⟨p,0,none⟩)] w fun e w'=>e=.returned (.int .i64 r)∧TxTo w w' p x P C d' s sure n now c enc:=by
 have cw:=within_live p x w h.core.hd
 rw [hb]at cw
 have CW:=hid cw
 have CU:=hid (pre_commit h hi)
 have CS:=hid (fun W (hW:Below w.heap.size w W)=>store_call p x P C d s sure n now c enc W (h.later hW) hf ho hh hL hop)
 rw [hr]at CS
 have H:=hid h
 clear cw h hb hi hf ho hh hL hop hr
 go_enter Tryz.func27,Tryz.ntmps27
 go_wp2_with (first
  | (go_at_call 55;refine CW.out.mono ?_;rintro e w1 ⟨rfl,hb1⟩;have B1:=hid hb1;clear hb1)
  | (go_at_call 63;refine (CU.out w1 B1.out).mono ?_;rintro e w2 ⟨rfl,hb2⟩;have B2:=hid (gt B1.out hb2);clear hb2)
  | (go_at_call 64;refine (CS.out w2 B2.out).mono ?_;rintro e w3 ⟨rfl,⟨P3,C3,s3,ht3,hm3,hc3,hr3⟩,hf3⟩;have T3:=hid ht3;have M3:=hid hm3;have K3:=hid (And.intro hc3 hr3);have F3:=hid hf3;clear ht3 hm3 hc3 hr3 hf3))
 go_ret
 refine ⟨rfl,⟨P3,C3,s3,T3.out,fun b hb=>?_,K3.out.1,K3.out.2⟩,fr_trans (fr_below (S:=NC p x P C) B2.out) F3.out (fun b hb=>Or.inl hb)⟩
 rcases M3.out b hb with h2 |h2
 ·exact Or.inl h2
 ·exact Or.inr (Nat.le_trans B2.out.size h2)
end
end Go.Proofs.YtadhdedjdgjboaaGreatDoor
