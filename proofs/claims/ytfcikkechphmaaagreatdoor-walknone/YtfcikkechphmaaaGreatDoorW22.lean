/- The keys of a map of sectors, sorted; no statement of the seat is proved here. -/
import Derived.Test.YtfcikkechphmaaaGreatDoorW18
import Derived.Test.YtfcikkechphmaaaGreatDoorW20
import Derived.Test.YtfcikkechphmaaaGreatDoorW21
import Derived.Test.YtfcikkechphmaaaGreatDoorW12
set_option maxHeartbeats 16000000
set_option maxRecDepth 20000
namespace Go.Proofs.YtfcikkechphmaaaGreatDoor
namespace Dsk
open Go.RowKit Go.Maps Go.Sort Go.Shelf
theorem sortsA(m:Nat):AnyZI.SortsIn Tryz.prog Tryz.sortedA_ren Fence.wide m:=
 ⟨fun blk off cap ss W hH hblk hsz=>callsIn_wide.2 (AnyM.slices_Sort_int Tryz.sortA blk off cap ss W hH hblk hsz),
  fun p cap W=>callsIn_wide.2 (AnyM.slices_Sort_int_none Tryz.sortA p cap W)⟩
theorem keys_any(mb:Option Nat)(w:World):Calls Tryz.prog 336 #[.map mb] w fun e w'=>e=.returned (.func (.func 338) #[] #[.pointer (some ⟨w.heap.size,0,none⟩)])∧w'=w.alloc (.cells #[.map mb] 185):=
 (callsIn_wide (n:=5)).1 (AnyZI.keys_in Tryz.keysA Fence.wide 5 trivial rfl mb w)
theorem sorted_any(b:Nat)(F:FS)(w:World)(hown:w.ownsMap Tryz.prog 3 secR b (idx F.dirt).length (dirtD F.dirt F.old))(hmax:(idx F.dirt).length≤100000) :
  Calls Tryz.prog 335 #[.func (.func 338) #[] #[.pointer (some ⟨w.heap.size,0,none⟩)]] (w.alloc (.cells #[.map (some b)] 185)) fun e w'=>∃ v:Value,e=.returned v ∧
   w'.ownsRow w.heap.size 3 1 v (idx F.dirt).length ((idx F.dirt).map fun i:Nat=>.int .i64 (i:Int))∧Below w.heap.size w w':=by
 have hbl:=hown.lt
 have hseq:SeqGives Fence.wide 2 Tryz.prog 338 #[.pointer (some ⟨w.heap.size,0,none⟩)] encZ (fun ss=>ss.Perm (intKeys (dirtD F.dirt F.old))) (Maps.size (dirtD F.dirt F.old)) (w.alloc (.cells #[.map (some b)] 185)):=
  AnyZI.keys_gives (ρ:=Tryz.keysA_ren) { Tryz.keysA with } Fence.wide _ trivial rfl (by omega) w.heap.size b _ (dirtD F.dirt F.old) _ (by simp) (by simp) (map_stay hown (heap_alloc_old _ _ _ hbl))
 have hs:=size_dirt F.dirt F.old
 have cS:=AnyZI.sorted_in Tryz.sortedA Fence.wide 5 trivial trivial trivial trivial rfl (by omega) (sortsA _) (enters_of Tryz.func121 (by kernel_rfl) rfl) 338 #[.pointer (some ⟨w.heap.size,0,none⟩)] trivial (enters_of Tryz.func338 (by kernel_rfl) rfl) _ _ (by rw [hs];unfold maxLen;omega) (by rw [hs];omega) _ hseq
 change CallsIn _ _ Tryz.prog 335 _ _ _ at cS
 refine (callsIn_wide.1 cS).mono ?_
 rintro e w' ⟨v,ss,rfl,hS,hrow,_,hb⟩
 rw [keys_sorted hS]at hrow
 have hl:ss.length=(idx F.dirt).length:=by rw [hS.length_eq,keys_dirt];simp
 rw [hl,List.map_map]at hrow
 refine ⟨v,rfl,ownsRow_base_a hrow (by simp),((Below.refl _ w).alloc (Nat.le_refl _) _).trans (hb.mono (by simp))⟩
end Dsk
namespace Dsk
open Go.RowKit Go.Maps
def crash1(old:List Sec)(r:List Sec×Nat×Stay)(i:Nat):List Sec×Nat×Stay:=
 (r.1.set i ((r.1.getD i []).take r.2.2.n++(was old i).drop r.2.2.n),if 0<r.2.2.n then max r.2.1 (i+1) else r.2.1,r.2.2.next)
def crashN(F:FS)(s:Stay):List Sec×Nat×Stay:=(idx F.dirt).foldl (crash1 F.old) (F.now,F.old.length,s)
def sureF(now:List Sec):FS:=⟨now,now,List.replicate now.length false⟩
def crashF(F:FS)(s:Stay):FS:=sureF ((crashN F s).1.take (crashN F s).2.1)
def crashS(F:FS)(s:Stay):Stay:=(crashN F s).2.2
variable {now:List Sec}
theorem sureF_ok(h:∀ x∈now,x.length=128):(sureF now).Ok:=by
 refine ⟨by simp [sureF],Nat.le_refl _,h,h,fun i hi _=>⟨hi,?_⟩⟩
 simp only [sureF,was,List.getD]at hi ⊢
 rw [List.getElem?_eq_getElem hi];rfl
variable {s:Stay}
theorem n_le(h:s.t≤128):s.n≤128:=by unfold Stay.n;split<;>omega
theorem next_t(h:s.t≤128):s.next.t≤128:=by unfold Stay.next;simp only;split<;>omega
theorem crash1_len(old:List Sec)(r:List Sec×Nat×Stay)(i:Nat):(crash1 old r i).1.length=r.1.length:=by simp [crash1]
variable {F:FS}
theorem crash1_sn(ok:F.Ok){r:List Sec×Nat×Stay}(h:∀ x∈r.1,x.length=128){i:Nat}(hi:i<r.1.length)(ht:r.2.2.t≤128):∀ x∈(crash1 F.old r i).1,x.length=128:=by
 intro x hx
 rcases List.mem_or_eq_of_mem_set hx with h1 |rfl
 ·exact h x h1
 ·have hl:(r.1.getD i []).length=128:=by rw [List.getD,List.getElem?_eq_getElem hi];exact h _ (List.getElem_mem hi)
  have:=n_le ht
  rw [List.length_append,List.length_take,List.length_drop,was_len ok,hl];omega
theorem crash_inv(ok:F.Ok)(s:Stay)(hs:s.t≤128):∀ (l:List Nat) (r:List Sec×Nat×Stay),(∀ i∈l,i<F.now.length)→r.1.length=F.now.length→(∀ x∈r.1,x.length=128)→r.2.1≤F.now.length→r.2.2.t≤128 →
  (l.foldl (crash1 F.old) r).1.length=F.now.length∧(∀ x∈(l.foldl (crash1 F.old) r).1,x.length=128)∧(l.foldl (crash1 F.old) r).2.1≤F.now.length∧(l.foldl (crash1 F.old) r).2.2.t≤128∧(l.foldl (crash1 F.old) r).2.2.keep=r.2.2.keep∧(l.foldl (crash1 F.old) r).2.2.k=r.2.2.k+l.length
 | [],r,_,h1,h2,h3,h4=>⟨h1,h2,h3,h4,rfl,rfl⟩
 | i::l,r,hl,h1,h2,h3,h4=>by
  have hi:i<r.1.length:=by rw [h1];exact hl i List.mem_cons_self
  have:=crash_inv ok s hs l (crash1 F.old r i) (fun j hj=>hl j (List.mem_cons_of_mem _ hj)) (by rw [crash1_len,h1]) (crash1_sn ok h2 hi h4) (by simp only [crash1];split<;>omega) (next_t h4)
  refine ⟨this.1,this.2.1,this.2.2.1,this.2.2.2.1,this.2.2.2.2.1,?_⟩
  rw [List.foldl_cons,this.2.2.2.2.2]
  simp [crash1,Stay.next];omega
theorem crashF_ok(ok:F.Ok){s:Stay}(hs:s.t≤128):(crashF F s).Ok:=by
 have:=crash_inv ok s hs (idx F.dirt) (F.now,F.old.length,s) (fun i hi=>by rw [←ok.ld];exact idx_lt hi) rfl ok.sn ok.lo hs
 exact sureF_ok fun x hx=>this.2.1 x (List.mem_of_mem_take hx)
theorem crashF_len(ok:F.Ok){s:Stay}(hs:s.t≤128):(crashF F s).now.length≤F.now.length:=by
 have:=crash_inv ok s hs (idx F.dirt) (F.now,F.old.length,s) (fun i hi=>by rw [←ok.ld];exact idx_lt hi) rfl ok.sn ok.lo hs
 simp only [crashF,sureF,List.length_take]
 unfold crashN
 omega
theorem crashS_facts(ok:F.Ok){s:Stay}(hs:s.t≤128):(crashS F s).t≤128∧(crashS F s).keep=s.keep∧(crashS F s).k=s.k+(idx F.dirt).length:=by
 have:=crash_inv ok s hs (idx F.dirt) (F.now,F.old.length,s) (fun i hi=>by rw [←ok.ld];exact idx_lt hi) rfl ok.sn ok.lo hs
 exact ⟨this.2.2.2.1,this.2.2.2.2.1,this.2.2.2.2.2⟩
variable {w:World}
theorem wpList_lookup_sec0{P:Program}{ops:Array Oper}{rest:List Oper}{o:Oper}{a:Act}{Q:Exit→Act→World→Prop}(hg:o.guard=none)(m x:Operand)(t:TypeId)(hop:o.op=Op.lookup t m x false)
  (k e:TypeId) (K:Keyed P k) (ht:P.underlying t=some (.map k e)) (hz:(zeroValue e).run P w=.ok (secV noughts) w) (b n:Nat) (D:DataW Unit)
  (hm:a.eval m=.map (some b)) (hown:w.ownsMap P k secR b n D) (key:Value) (kl:Lit) (hx:a.eval x=key) (hkey:keyOf P k key=some kl) (X:Sec) (hat:D.atKey kl (secD noughts)=secD X)
  (hK:wpList P ops Q rest (a.put o.dst (secV X)) w):wpList P ops Q (o::rest) a w:=by
 refine wpList_plain hg fun K' hK'=>?_
 obtain ⟨v,ps,hrun,hv⟩:=hown.lookup K ht hz (secR_mk noughts) hkey
 rw [hat]at hv
 obtain rfl:=secR_inv hv
 unfold Oper.wp
 simp [execOp,hop,hm,hx,hrun,Result.andThen]
 exact hK' _ _ hK
variable {cap:Nat} {ao:Option Addr}
theorem row_cut(h:w.ownsRow 0 306 128 (.slice ao now.length cap) now.length (secs now))(sn:∀ x∈now,x.length=128)(k:Nat)(hk:k≤now.length) :
  w.ownsRow 0 306 128 (.slice ao (now.take k).length cap) (now.take k).length (secs (now.take k)):=by
 have hl:(now.take k).length=k:=by simp;omega
 have e:secs (now.take k)=(secs now).take (k*128):=by
  have h1:secs now=secs (now.take k)++secs (now.drop k):=by rw [←secs_append,List.take_append_drop]
  have h2:(secs (now.take k)).length=k*128:=by rw [secs_length (fun x hx=>sn x (List.mem_of_mem_take hx)),hl]
  rw [h1,List.take_append_of_le_length (Nat.le_of_eq h2.symm)]
  exact (List.take_of_length_le (Nat.le_of_eq h2)).symm
 rw [hl]
 refine ⟨by rw [secs_length (fun x hx=>sn x (List.mem_of_mem_take hx)),hl],?_⟩
 rcases h.2 with ⟨hn,hz⟩ | ⟨g,cap',cur,hv,hb',hg,hnc,hcm,hcs,htk⟩
 ·simp only [Value.slice.injEq]at hn
  obtain ⟨rfl,_,rfl⟩:=hn
  exact .inl ⟨by simp;omega,by omega⟩
 ·simp only [Value.slice.injEq,true_and]at hv
  obtain ⟨rfl,rfl⟩:=hv
  refine .inr ⟨g,cap,cur,rfl,hb',hg,by omega,hcm,hcs,?_⟩
  rw [e,←htk,List.take_take,Nat.min_eq_left (Nat.mul_le_mul_right _ hk)]
variable {S:Nat→Prop} {p o ib tb:Nat} {w':World}
theorem FileAt.aside{m:Nat}(h:FileAt w p o S ao cap m F)(hf:SFrame w w' ib tb)(hi:¬S ib)(ht:¬S tb)(hpi:p≠ib)(hpt:p≠tb):FileAt w' p o S ao cap m F:=
 h.stay (fun k _ hk=>hf.block k (fun e=>hi (e▸hk)) (fun e=>ht (e▸hk))) (fun _ _ _=>World.cell?_of_block (hf.block p hpi hpt)) (fun _=>World.frozen?_of_block (hf.block p hpi hpt))
theorem SFrame.ff(h:SFrame w w' ib tb)(hpi:p≠ib)(hpt:p≠tb)(hi:S ib)(ht:S tb):FFrame w w' p o S:=
 ⟨h.os,h.tape,h.output,Nat.le_of_eq h.size.symm,fun k _ _ hk=>h.block k (fun e=>hk (e▸hi)) (fun e=>hk (e▸ht)),fun _ _ _ _=>World.cell?_of_block (h.block p hpi hpt),fun _=>World.frozen?_of_block (h.block p hpi hpt)⟩
theorem FFrame.imp{S':Nat→Prop}(h:FFrame w w' p o S)(hi:∀ k,k<w.heap.size→S k→S' k):FFrame w w' p o S':=
 ⟨h.os,h.tape,h.output,h.size,fun k hk hp hn=>h.block k hk hp (fun hs=>hn (hi k hk hs)),h.cell,h.fz⟩
theorem foldl_drop(l:List Nat)(i:Nat)(hi:i<l.length)(f:List Sec×Nat×Stay→Nat→List Sec×Nat×Stay)(r:List Sec×Nat×Stay):(l.drop i).foldl f r=(l.drop (i+1)).foldl f (f r (l.getD i 0)):=by
 rw [List.drop_eq_getElem_cons hi,List.foldl_cons,List.getD,List.getElem?_eq_getElem hi];rfl
end Dsk
namespace Dsk
open Go.RowKit Go.Maps
theorem sorted_form(b:Nat)(F:FS)(w:World)(hown:w.ownsMap Tryz.prog 3 secR b (idx F.dirt).length (dirtD F.dirt F.old))(hmax:(idx F.dirt).length≤100000) :
  Calls Tryz.prog 335 #[.func (.func 338) #[] #[.pointer (some ⟨w.heap.size,0,none⟩)]] (w.alloc (.cells #[.map (some b)] 185)) fun e w'=>∃ vo vc,e=.returned (.slice vo (idx F.dirt).length vc)∧Below w.heap.size w w' ∧
   (0<(idx F.dirt).length→∃ gv,vo=some ⟨gv,0,none⟩∧w.heap.size≤gv∧gv<w'.heap.size∧∀ i,i<(idx F.dirt).length→w'.cell? ⟨gv,i,none⟩=some (.int .i64 (((idx F.dirt).getD i 0:Nat):Int))):=by
 refine (sorted_any b F w hown hmax).mono ?_
 rintro e w' ⟨v,rfl,hrow,hb⟩
 rcases hrow.2 with ⟨rfl,h0⟩ | ⟨g,cap,cur,rfl,hg,hgb,_⟩
 ·refine ⟨none,0,by rw [h0],hb,fun h=>by omega⟩
 ·refine ⟨some ⟨g,0,none⟩,cap,rfl,hb,fun _=>⟨g,rfl,hg,(Array.getElem?_eq_some_iff.1 hgb).1,fun i hi=>?_⟩⟩
  rw [hrow.cellAt i (by omega),List.getElem?_map,List.getElem?_eq_getElem hi,List.getD,List.getElem?_eq_getElem hi];rfl
def Reads7(p o g L cap:Nat)(W:World):Prop:=W.cell? ⟨p,o,none⟩=some (.slice (some ⟨g,0,none⟩) L cap)
variable {w:World}
theorem step_copy_none{P:Program}{ops:Array Oper}{o:Oper}{a:Act}{K:Act→World→Prop}{Q:Exit→Act→World→Prop}{E:Prop}(hgd:o.guard=none)(d s:Operand)(dT sT:TypeId)
  (ho:o.op=.call { callee:=.builtin .copy,args:=#[d,s],argTypes:=#[dT,sT] }) (elem:TypeId) (hu:P.underlying dT=some (.slice elem)) (hsz:(P.info? elem).map (·.size)=some 1)
  (dp sp:Option Addr) (dLen dCap sLen sCap:Nat) (hd:a.eval d=.slice dp dLen dCap) (hs:a.eval s=.slice sp sLen sCap) (hn:Nat.min sLen dLen=0)
  (h:K (a.put o.dst (goInt 0)) w):if Region.wanted o (yielded ops a.tmps)=true then Oper.wp P o a w K Q else E:=by
 have hw:Region.wanted o (yielded ops a.tmps)=true:=by simp [Region.wanted,hgd]
 rw [if_pos hw]
 have hrun:=run_copy_none (P:=P) w dT sT o.type elem dp sp dLen dCap sLen sCap hu hsz hn
 unfold Oper.wp
 simp [execOp,ho,resolve,invoke,builtin,hd,hs,hrun,Result.andThen]
 exact h
theorem set_all{now:List Sec}{i:Nat}(hi:i<now.length)(sn:∀ x∈now,x.length=128)(y:Sec)(hy:y.length=128):now.set i ((now.getD i []).take 128++y.drop 128)=now:=by
 have hl:(now.getD i []).length=128:=by rw [List.getD,List.getElem?_eq_getElem hi];exact sn _ (List.getElem_mem hi)
 rw [List.take_of_length_le (by omega),List.drop_eq_nil_of_le (by omega),List.append_nil,List.getD,List.getElem?_eq_getElem hi]
 simp
theorem FFrame.undrew{w':World}{p o:Nat}{S:Nat→Prop}(h:FFrame w.drew w' p o S):FFrame w w' p o S:=⟨h.os,h.tape,h.output,h.size,h.block,h.cell,h.fz⟩
theorem crash_any(p o:Nat)(S:Nat→Prop)(ao:Option Addr)(cap m:Nat)(F:FS)(cb ib tb:Nat)(T:Nat→Prop)(s:Stay)(w:World)
  (hF:FileAt w p o S ao cap m F) (ok:F.Ok) (hbn:F.now.length≤100000) (hS:∀ k,S k→k<w.heap.size) (hst:StayAt w cb ib tb T s) (hT:∀ k,T k→k<w.heap.size∧¬S k∧k≠p)
  (hk:s.k+F.now.length≤1000000) (hl:s.keep.length≤100) (ht:s.t≤128) :
  Calls Tryz.prog 332 #[.pointer (some ⟨p,o,none⟩),.func (.func 334) #[] #[.pointer (some ⟨cb,0,none⟩),.pointer (some ⟨ib,0,none⟩),.pointer (some ⟨tb,0,none⟩)]] w fun e w'=>e=.returned (.tuple #[]) ∧
   ∃ ao' cap' m',FileAt w' p o (From S w) ao' cap' m' (crashF F s)∧StayAt w' cb ib tb T (crashS F s)∧FFrame w w' p o (fun k=>S k∨k=ib∨k=tb):=by
 have HF:=hid hF;have HK:=hid ok;have HS:=hid hS;have HST:=hid hst;have HT:=hid hT;have Hk:=hid hk;have Hl:=hid hl;have Ht:=hid ht
 have hib:=(HT.out ib hst.tib);have htb:=(HT.out tb hst.ttb)
 have HIB:=hid hib;have HTB:=hid htb
 have c0:=hF.c0;have c1:=hF.c1;have c2:=hF.c2;have hplt:=hF.plt
 clear hF ok hS hst hT hk hl ht hib htb
 have hidx:(idx F.dirt).length≤F.now.length:=by have:=idx_le F.dirt;rw [HK.out.ld]at this;exact this
 obtain ⟨KK,hK⟩:∃ KK,KK=(idx F.dirt).length:=⟨_,rfl⟩
 have so:=sorted_form m F w HF.out.map (by omega)
 rw [←hK]at so hidx
 have SO:=hid so
 have HKK:=hid hK
 have HIX:=hid hidx
 clear so hK
 obtain ⟨L,hL⟩:∃ L,L=F.now.length:=⟨_,rfl⟩
 obtain ⟨E0,hE0⟩:∃ E0,E0=F.old.length:=⟨_,rfl⟩
 rw [←hL]at c0 hidx hbn
 rw [←hE0]at c1
 have hEL:E0≤L:=by rw [hE0,hL];exact HK.out.lo
 have HL:=hid hL;have HE0:=hid hE0
 clear hL hE0
 go_enter Tryz.func332,Tryz.ntmps332
 go_wp2_with (first
  | (go_at_call 336;refine (keys_any _ _).mono ?_;rintro e w' ⟨rfl,rfl⟩)
  | (go_at_call 335;refine SO.out.mono ?_;rintro e w1 ⟨vo,vc,rfl,hb1,hv⟩;replace hb1:=hid hb1;replace hv:=hid hv;clear SO))
 have hFr0:FFrame w w1 p o (fun k=>S k∨k=ib∨k=tb):=(FFrame.refl w p o _).later hplt hb1.out
 have HF1:=hid (HF.out.later hb1.out)
 have HST1:=hid (HST.out.stay (fun k hk=>hb1.out.block k (HT.out k hk).1))
 have hkb:KK≤1000000:=by omega
 go_loopw [4,20] (fun e c W=>∃ (i En:Nat) (now:List Sec) (st:Stay),e=.int .i64 (En:Int)∧c=.int .i64 (i:Int)∧i≤KK∧En≤L∧Hid (now.length=L)∧Hid (∀ x∈now,x.length=128)∧Hid (st.t≤128∧st.keep.length≤100∧st.k+(KK - i)≤1000000) ∧
   Hid (((idx F.dirt).drop i).foldl (crash1 F.old) (now,En,st)=crashN F s)∧Hid (FileAt W p o S ao cap m ⟨now,F.old,F.dirt⟩)∧Hid (StayAt W cb ib tb T st)∧Hid (FFrame w1 W p o (fun k=>S k∨k=ib∨k=tb))) (fun _ c _=>KK - (intOf c).toNat)
 case atStart=>exact ⟨0,E0,F.now,s,rfl,rfl,Nat.zero_le _,hEL,hid HL.out.symm,hid HK.out.sn,hid ⟨Ht.out,Hl.out,by have:=Hk.out;have:=HL.out;have:=HKK.out;omega⟩,hid (by rw [HE0.out];rfl),HF1,HST1,hid (FFrame.refl _ _ _ _)⟩
 case round=>
  obtain ⟨i,En,now,st,rfl,rfl,hi,hEn,hnl,hsn,hst',hfold,hF',hS',hfr⟩:=hrel
  clear c0 c1 c2
  have c0:=hF'.out.c0;have c2:=hF'.out.c2;have f0:=hF'.out.f0
  simp only at c0
  rw [hnl.out]at c0
  have hpw:p<wr.heap.size:=lt_cell c0
  have hpw':¬p=wr.heap.size:=by omega
  by_cases hik:i<KK
  ·obtain ⟨gv,hvo,hgv1,hgv2,hgc⟩:=hv.out (by omega)
   subst hvo
   have hcell:wr.cell? ⟨gv,i,none⟩=w1.cell? ⟨gv,i,none⟩:=World.cell?_of_block (hfr.out.block gv hgv2 (by omega) (fun h=>by rcases h with h |h |h;have:=HS.out gv h;omega;have:=HIB.out.1;omega;have:=HTB.out.1;omega))
   rw [hgc i hik]at hcell
   have HGC:=hid hgc
   clear hgc
   obtain ⟨A,hA⟩:∃ A,A=(idx F.dirt).getD i 0:=⟨_,rfl⟩
   rw [←hA]at hcell
   have hAm:A∈idx F.dirt:=by rw [hA,List.getD,List.getElem?_eq_getElem (by have:=HKK.out;omega)];exact List.getElem_mem _
   have hAL:A<L:=by rw [HL.out,←HK.out.ld];exact idx_lt hAm
   have HD:=hid (mem_idx.1 hAm)
   have HA:=hid hA
   clear hA hAm
   have hiI:(i:Int)<(KK:Int):=by omega
   have HWF:=hid (wf_i64 A (by omega))
   obtain ⟨g,hg⟩:∃ g,ao=some ⟨g,0,none⟩:=by
    have:=hF'.out.row
    simp only at this
    obtain ⟨g,_,hv',_⟩:=this.form (by rw [hnl.out];omega)
    simp only [Value.slice.injEq]at hv'
    exact ⟨g,hv'.1⟩
   subst hg
   have cst:=hid (stays1_any cb ib tb T st wr hS'.out (by have:=hst'.out;omega) hst'.out.2.1 hst'.out.1)
   have hnn:=n_le hst'.out.1
   obtain ⟨nn,hnn'⟩:∃ nn,nn=st.n:=⟨_,rfl⟩
   rw [←hnn']at cst hnn
   have HNN:=hid hnn'
   clear hnn'
   have hfold2:=hfold.out
   rw [foldl_drop _ _ (by have:=HKK.out;omega),←HA.out]at hfold2
   have HFO:=hid hfold2
   clear hfold2
   obtain ⟨N,hN⟩:∃ N,N=(bs noughts).toArray:=⟨_,rfl⟩
   have al:=alloc80
   rw [←hN]at al
   have AL:=hid al;have HN:=hid hN
   clear al hN
   by_cases hn128:nn=128
   ·subst hn128
    have hn0':(0:Int)<((128:Nat):Int):=by omega
    go_wp2_with (first
     | (go_at_call 334;refine cst.out.mono ?_;rintro e w2 ⟨rfl,hst2,hsf⟩;have HF2:=hid (hF'.out.aside hsf HIB.out.2.1 HTB.out.2.1 (Ne.symm HIB.out.2.2) (Ne.symm HTB.out.2.2));have HFR2:=hid (hfr.out.trans ((hsf.ff (S:=From (fun k=>S k∨k=ib∨k=tb) w1) (Ne.symm HIB.out.2.2) (Ne.symm HTB.out.2.2) (Or.inl (Or.inr (Or.inl rfl))) (Or.inl (Or.inr (Or.inr rfl))))));clear hsf;have HST2:=hid hst2;clear hst2 cst;have c20:=HF2.out.c0;have c22:=HF2.out.c2;simp only at c20;rw [hnl.out]at c20;clear c0 c2 f0)
     | ((with_reducible refine here_op 31 ?_);refine wpList_lookup_sec0 rfl (.tmp 29) (.tmp 30) 185 rfl 3 306 (int_keyed Tryz.underlying3) Tryz.underlying185 (zero80 _) m _ (dirtD F.dirt F.old) rfl HF2.out.map _ (.int .i64 (A:Int)) rfl (keyOf_int_mk Tryz.underlying3 HWF.out) (was F.old A) (at_dirt _ _ _ HD.out _) ?_)
     | ((with_reducible refine here_op 8 ?_);refine wpList_alloc_run rfl 306 rfl _ _ (AL.out _) ?_)
     | ((with_reducible refine here_store 306 ?_);refine wpList_store_run rfl 306 (.tmp 8) (.tmp 31) rfl ⟨w2.heap.size,0,none⟩ rfl (secV (was F.old A)) rfl _ (store80 (cur:=N.toList) (was_len HK.out A) (by rw [HN.out];simp [bs_length,noughts_length]) (by rw [heap_alloc_new])) ?_;obtain ⟨W3,hW3⟩:∃ W3,W3=(w2.alloc (.cells N 306)).setRow w2.heap.size (bs (was F.old A)).toArray:=⟨_,rfl⟩;rw [←hW3];have hB3:Below w2.heap.size w2 W3:=(by rw [hW3];exact below_setRow ((Below.refl _ _).alloc (Nat.le_refl _) _) (Nat.le_refl _) _);have hG3:W3.heap[w2.heap.size]? = some (.cells (bs (was F.old A)).toArray 306 (0,0)):=(by rw [hW3];exact setRow_heap _ _ _ _ _ _ (heap_alloc_new _ _));clear hW3;have HF3:=hid (HF2.out.later hB3);have HFR3:=hid (HFR2.out.later HF2.out.plt hB3);have HST3:=hid (HST2.out.stay (fun k hk=>hB3.block k (Nat.lt_of_lt_of_le (HT.out k hk).1 (Nat.le_trans hb1.out.size HFR2.out.size))));clear hB3;have HG3:=hid hG3;clear hG3;have c30:=HF3.out.c0;simp only at c30;rw [hnl.out]at c30))
    refine wp_region_held_drew (S:=Reads7 p o g L cap) (by kernel_rfl) c30 (fun hHeld=>?_)
    refine ght 0 ?_ (h:=by intro W q0;unfold Reads7 at q0;go_simp;first |done |with_reducible rfl)
    refine ght 1 ?_ (h:=by intro W q0;unfold Reads7 at q0;go_simp;first |done |with_reducible rfl)
    refine ght 2 ?_ (h:=by intro W q0;unfold Reads7 at q0;go_simp;first |done |with_reducible rfl)
    refine ght 3 ?_ (h:=by intro W q0;unfold Reads7 at q0;go_simp;first |done |with_reducible rfl)
    refine ght 4 ?_ (h:=by intro W q0;unfold Reads7 at q0;go_simp;first |done |with_reducible rfl)
    refine ght 5 ?_ (h:=by intro W q0;unfold Reads7 at q0;go_simp;first |done |with_reducible rfl)
    refine ght 6 ?_ (h:=by intro W q0;unfold Reads7 at q0;go_simp;first |done |with_reducible rfl)
    refine ght 7 ?_ (h:=by intro W q0;unfold Reads7 at q0;go_simp;first |done |with_reducible rfl)
    refine ght 8 ?_ (h:=by intro W q0;unfold Reads7 at q0;go_simp;first |done |with_reducible rfl)
    refine ght 9 ?_ (h:=by intro W q0;unfold Reads7 at q0;go_simp;first |done |with_reducible rfl)
    refine gh1 10 (fun K hK=>?_)
    refine step_copy_none rfl (.tmp 39) (.tmp 41) 48 48 rfl 5 Tryz.underlying48 (by kernel_rfl) _ _ _ _ _ _ rfl rfl (by first |rfl |simp |(simp;omega)) ?_
    obtain ⟨W4,hW4⟩:∃ W4,W4=W3.drew:=⟨_,rfl⟩
    rw [←hW4]
    have HF4:Hid (FileAt W4 p o S (some ⟨g,0,none⟩) cap m ⟨now,F.old,F.dirt⟩):=by rw [hW4];exact hid (HF3.out.stay (w':=W3.drew) (fun _ _ _=>rfl) (fun _ _ _=>rfl) (fun _=>rfl))
    have HFR4:Hid (FFrame w1 W4 p o (fun k=>S k∨k=ib∨k=tb)):=by rw [hW4];exact hid ⟨HFR3.out.os,HFR3.out.tape,HFR3.out.output,HFR3.out.size,HFR3.out.block,HFR3.out.cell,HFR3.out.fz⟩
    have HST4:Hid (StayAt W4 cb ib tb T st.next):=by rw [hW4];exact hid (HST3.out.stay (w':=W3.drew) (fun _ _=>rfl))
    clear hW4
    have c40:=HF4.out.c0
    simp only at c40
    rw [hnl.out]at c40
    refine hK.out _ _ c40 (fun hHeld=>?_)
    clear hK K hHeld;clear hHeld c30 c20 c22
    refine wpAnyH_done (by kernel_rfl) ?_ _
    (try simp only [Act.put,sA,sZ,sS])
    go_wp2
    have hc1:crash1 F.old (now,En,st) A=(now,max En (A+1),st.next):=by simp only [crash1,←HNN.out];rw [set_all (by rw [hnl.out];exact hAL) hsn.out _ (was_len HK.out A)];simp
    have hfo:=HFO.out
    rw [hc1]at hfo
    have hsn2:=crash1_sn HK.out (r:=(now,En,st)) hsn.out (i:=A) (by show A<now.length;rw [hnl.out];exact hAL) hst'.out.1
    rw [hc1]at hsn2
    refine ⟨⟨i+1,max En (A+1),now,st.next,by congr 1;omega,by simp,by omega,by omega,hid (by exact hnl.out),hid hsn2,hid ⟨next_t hst'.out.1,hst'.out.2.1,by have:=hst'.out.2.2;simp only [Stay.next];omega⟩,hid hfo,HF4,HST4,HFR4⟩,by simp [intOf];omega⟩
   ·have hn1:nn<128:=by omega
    have hn1':(nn:Int)≤128:=by omega
    have hn1n:¬128=nn:=by omega
    by_cases hn0:nn=0
    ·have hn0a:¬0<nn:=by omega
     have hn0b:¬(0:Int)<(nn:Int):=by omega
     have hn0c:decide ((0:Int)<(nn:Int))=false:=by simp;omega
     go_wp2_with (first
      | (go_at_call 334;refine cst.out.mono ?_;rintro e w2 ⟨rfl,hst2,hsf⟩;have HF2:=hid (hF'.out.aside hsf HIB.out.2.1 HTB.out.2.1 (Ne.symm HIB.out.2.2) (Ne.symm HTB.out.2.2));have HFR2:=hid (hfr.out.trans ((hsf.ff (S:=From (fun k=>S k∨k=ib∨k=tb) w1) (Ne.symm HIB.out.2.2) (Ne.symm HTB.out.2.2) (Or.inl (Or.inr (Or.inl rfl))) (Or.inl (Or.inr (Or.inr rfl))))));clear hsf;have HST2:=hid hst2;clear hst2 cst;have c20:=HF2.out.c0;have c22:=HF2.out.c2;simp only at c20;rw [hnl.out]at c20;clear c0 c2 f0)
      | ((with_reducible refine here_op 31 ?_);refine wpList_lookup_sec0 rfl (.tmp 29) (.tmp 30) 185 rfl 3 306 (int_keyed Tryz.underlying3) Tryz.underlying185 (zero80 _) m _ (dirtD F.dirt F.old) rfl HF2.out.map _ (.int .i64 (A:Int)) rfl (keyOf_int_mk Tryz.underlying3 HWF.out) (was F.old A) (at_dirt _ _ _ HD.out _) ?_)
      | ((with_reducible refine here_op 8 ?_);refine wpList_alloc_run rfl 306 rfl _ _ (AL.out _) ?_)
      | ((with_reducible refine here_store 306 ?_);refine wpList_store_run rfl 306 (.tmp 8) (.tmp 31) rfl ⟨w2.heap.size,0,none⟩ rfl (secV (was F.old A)) rfl _ (store80 (cur:=N.toList) (was_len HK.out A) (by rw [HN.out];simp [bs_length,noughts_length]) (by rw [heap_alloc_new])) ?_;obtain ⟨W3,hW3⟩:∃ W3,W3=(w2.alloc (.cells N 306)).setRow w2.heap.size (bs (was F.old A)).toArray:=⟨_,rfl⟩;rw [←hW3];have hB3:Below w2.heap.size w2 W3:=(by rw [hW3];exact below_setRow ((Below.refl _ _).alloc (Nat.le_refl _) _) (Nat.le_refl _) _);have hG3:W3.heap[w2.heap.size]? = some (.cells (bs (was F.old A)).toArray 306 (0,0)):=(by rw [hW3];exact setRow_heap _ _ _ _ _ _ (heap_alloc_new _ _));clear hW3;have HF3:=hid (HF2.out.later hB3);have HFR3:=hid (HFR2.out.later HF2.out.plt hB3);have HST3:=hid (HST2.out.stay (fun k hk=>hB3.block k (Nat.lt_of_lt_of_le (HT.out k hk).1 (Nat.le_trans hb1.out.size HFR2.out.size))));clear hB3;have HG3:=hid hG3;clear hG3;have c30:=HF3.out.c0;simp only at c30;rw [hnl.out]at c30))
     refine wp_region_held_drew (S:=Reads7 p o g L cap) (by kernel_rfl) c30 (fun hHeld=>?_)
     refine ght 0 ?_ (h:=by intro W q0;unfold Reads7 at q0;go_simp;first |done |with_reducible rfl)
     refine ght 1 ?_ (h:=by intro W q0;unfold Reads7 at q0;go_simp;first |done |with_reducible rfl)
     refine ght 2 ?_ (h:=by intro W q0;unfold Reads7 at q0;go_simp;first |done |with_reducible rfl)
     refine ght 3 ?_ (h:=by intro W q0;unfold Reads7 at q0;go_simp;first |done |with_reducible rfl)
     refine ght 4 ?_ (h:=by intro W q0;unfold Reads7 at q0;go_simp;first |done |with_reducible rfl)
     refine ght 5 ?_ (h:=by intro W q0;unfold Reads7 at q0;go_simp;first |done |with_reducible rfl)
     refine ght 6 ?_ (h:=by intro W q0;unfold Reads7 at q0;go_simp;first |done |with_reducible rfl)
     refine ght 7 ?_ (h:=by intro W q0;unfold Reads7 at q0;go_simp;first |done |with_reducible rfl)
     refine ght 8 ?_ (h:=by intro W q0;unfold Reads7 at q0;go_simp;first |done |with_reducible rfl)
     refine ght 9 ?_ (h:=by intro W q0;unfold Reads7 at q0;go_simp;first |done |with_reducible rfl)
     refine gh1 10 (fun K hK=>?_)
     obtain ⟨cur,hg,hle,_,hcp⟩:=step_copy (x:=(now.getD A []).take nn++(was F.old A).drop nn) (i:=A) (HF3.out.stay (w':=W3.drew) (fun _ _ _=>rfl) (fun _ _ _=>rfl) (fun _=>rfl)) hsn.out (by show A<now.length;rw [hnl.out];exact hAL) (by have hl1:(now.getD A []).length=128:=(by rw [List.getD,List.getElem?_eq_getElem (show A<now.length by rw [hnl.out];exact hAL)];exact hsn.out _ (List.getElem_mem _));rw [List.length_append,List.length_take,List.length_drop,was_len HK.out,hl1];omega)
     have hyl:((was F.old A).drop nn).length=128 - nn:=by rw [List.length_drop,was_len HK.out]
     have hcc:=hcp nn ((was F.old A).drop nn) (by rw [hyl];omega) rfl
     clear hcp
     have hbl:(bs ((was F.old A).drop nn)).length=128 - nn:=by rw [bs_length,hyl]
     refine step_copy_row rfl (.tmp 39) (.tmp 41) 48 48 rfl 5 Tryz.underlying48 (by kernel_rfl) g (A*128+nn) (128 - nn) (128 - nn) ⟨w2.heap.size,nn,none⟩ (128 - nn) (128 - nn) (by first |rfl |(simp [Act.eval];omega)) (by first |rfl |(simp [Act.eval];omega)) cur 306 hg (bs ((was F.old A).drop nn)) (by rw [hbl];exact (Nat.min_self _).symm) (fun j v hj=>by rw [Addr.add_lit,World.cell?_of_block (w':=W3.drew) (w:=W3) rfl,cell_of_row _ _ _ _ _ _ HG3.out];obtain ⟨hj1,rfl⟩:=bs_get' _ _ _ hj;rw [hyl]at hj1;simp only [List.getElem?_toArray];rw [bs_get _ _ (by rw [was_len HK.out];omega)];simp [List.getD]) (by rw [hbl];omega) (bs_one _) ?_
     obtain ⟨W4,hW4⟩:∃ W4,W4=W3.drew.setRow g (cur.toList.take (A*128+nn)++(bs ((was F.old A).drop nn)++cur.toList.drop (A*128+nn+(bs ((was F.old A).drop nn)).length))).toArray:=⟨_,rfl⟩
     rw [←hW4]at hcc ⊢
     clear hW4 hle hg
     have HF4:=hid hcc.1
     have HFR4:=hid (HFR3.out.trans ((FFrame.imp (w:=W3.drew) (S':=From (fun k=>S k∨k=ib∨k=tb) w1) hcc.2 (fun k _ hk=>Or.inl (Or.inl hk))).undrew))
     have HST4:=hid (HST3.out.stay (w':=W4) (fun k hk=>hcc.2.block k (Nat.lt_of_lt_of_le (HT.out k hk).1 (Nat.le_trans hb1.out.size HFR3.out.size)) (HT.out k hk).2.2 (HT.out k hk).2.1))
     clear hcc
     have c40:=HF4.out.c0
     simp only [List.length_set]at c40
     rw [hnl.out]at c40
     refine hK.out _ _ c40 (fun hHeld=>?_)
     clear hK K hHeld;clear hHeld c30 c20 c22
     refine wpAnyH_done (by kernel_rfl) ?_ _
     (try simp only [Act.put,sA,sZ,sS])
     go_wp2
     have hc1:crash1 F.old (now,En,st) A=(now.set A ((now.getD A []).take nn++(was F.old A).drop nn),En,st.next):=by simp only [crash1,←HNN.out,if_neg hn0a]
     have hfo:=HFO.out
     rw [hc1]at hfo
     have hsn2:=crash1_sn HK.out (r:=(now,En,st)) hsn.out (i:=A) (by show A<now.length;rw [hnl.out];exact hAL) hst'.out.1
     rw [hc1]at hsn2
     refine ⟨⟨i+1,En,now.set A ((now.getD A []).take nn++(was F.old A).drop nn),st.next,by simp,by simp,by omega,by omega,hid (by rw [List.length_set];exact hnl.out),hid hsn2,hid ⟨next_t hst'.out.1,hst'.out.2.1,by have:=hst'.out.2.2;simp only [Stay.next];omega⟩,hid hfo,HF4,HST4,HFR4⟩,by simp [intOf];omega⟩
    ·have hn0':(0:Int)<(nn:Int):=by omega
     have hn0'':0<nn:=by omega
     go_wp2_with (first
      | (go_at_call 334;refine cst.out.mono ?_;rintro e w2 ⟨rfl,hst2,hsf⟩;have HF2:=hid (hF'.out.aside hsf HIB.out.2.1 HTB.out.2.1 (Ne.symm HIB.out.2.2) (Ne.symm HTB.out.2.2));have HFR2:=hid (hfr.out.trans ((hsf.ff (S:=From (fun k=>S k∨k=ib∨k=tb) w1) (Ne.symm HIB.out.2.2) (Ne.symm HTB.out.2.2) (Or.inl (Or.inr (Or.inl rfl))) (Or.inl (Or.inr (Or.inr rfl))))));clear hsf;have HST2:=hid hst2;clear hst2 cst;have c20:=HF2.out.c0;have c22:=HF2.out.c2;simp only at c20;rw [hnl.out]at c20;clear c0 c2 f0)
      | ((with_reducible refine here_op 31 ?_);refine wpList_lookup_sec0 rfl (.tmp 29) (.tmp 30) 185 rfl 3 306 (int_keyed Tryz.underlying3) Tryz.underlying185 (zero80 _) m _ (dirtD F.dirt F.old) rfl HF2.out.map _ (.int .i64 (A:Int)) rfl (keyOf_int_mk Tryz.underlying3 HWF.out) (was F.old A) (at_dirt _ _ _ HD.out _) ?_)
      | ((with_reducible refine here_op 8 ?_);refine wpList_alloc_run rfl 306 rfl _ _ (AL.out _) ?_)
      | ((with_reducible refine here_store 306 ?_);refine wpList_store_run rfl 306 (.tmp 8) (.tmp 31) rfl ⟨w2.heap.size,0,none⟩ rfl (secV (was F.old A)) rfl _ (store80 (cur:=N.toList) (was_len HK.out A) (by rw [HN.out];simp [bs_length,noughts_length]) (by rw [heap_alloc_new])) ?_;obtain ⟨W3,hW3⟩:∃ W3,W3=(w2.alloc (.cells N 306)).setRow w2.heap.size (bs (was F.old A)).toArray:=⟨_,rfl⟩;rw [←hW3];have hB3:Below w2.heap.size w2 W3:=(by rw [hW3];exact below_setRow ((Below.refl _ _).alloc (Nat.le_refl _) _) (Nat.le_refl _) _);have hG3:W3.heap[w2.heap.size]? = some (.cells (bs (was F.old A)).toArray 306 (0,0)):=(by rw [hW3];exact setRow_heap _ _ _ _ _ _ (heap_alloc_new _ _));clear hW3;have HF3:=hid (HF2.out.later hB3);have HFR3:=hid (HFR2.out.later HF2.out.plt hB3);have HST3:=hid (HST2.out.stay (fun k hk=>hB3.block k (Nat.lt_of_lt_of_le (HT.out k hk).1 (Nat.le_trans hb1.out.size HFR2.out.size))));clear hB3;have HG3:=hid hG3;clear hG3;have c30:=HF3.out.c0;simp only at c30;rw [hnl.out]at c30))
     refine wp_region_held_drew (S:=Reads7 p o g L cap) (by kernel_rfl) c30 (fun hHeld=>?_)
     refine ght 0 ?_ (h:=by intro W q0;unfold Reads7 at q0;go_simp;first |done |with_reducible rfl)
     refine ght 1 ?_ (h:=by intro W q0;unfold Reads7 at q0;go_simp;first |done |with_reducible rfl)
     refine ght 2 ?_ (h:=by intro W q0;unfold Reads7 at q0;go_simp;first |done |with_reducible rfl)
     refine ght 3 ?_ (h:=by intro W q0;unfold Reads7 at q0;go_simp;first |done |with_reducible rfl)
     refine ght 4 ?_ (h:=by intro W q0;unfold Reads7 at q0;go_simp;first |done |with_reducible rfl)
     refine ght 5 ?_ (h:=by intro W q0;unfold Reads7 at q0;go_simp;first |done |with_reducible rfl)
     refine ght 6 ?_ (h:=by intro W q0;unfold Reads7 at q0;go_simp;first |done |with_reducible rfl)
     refine ght 7 ?_ (h:=by intro W q0;unfold Reads7 at q0;go_simp;first |done |with_reducible rfl)
     refine ght 8 ?_ (h:=by intro W q0;unfold Reads7 at q0;go_simp;first |done |with_reducible rfl)
     refine ght 9 ?_ (h:=by intro W q0;unfold Reads7 at q0;go_simp;first |done |with_reducible rfl)
     refine gh1 10 (fun K hK=>?_)
     obtain ⟨cur,hg,hle,_,hcp⟩:=step_copy (x:=(now.getD A []).take nn++(was F.old A).drop nn) (i:=A) (HF3.out.stay (w':=W3.drew) (fun _ _ _=>rfl) (fun _ _ _=>rfl) (fun _=>rfl)) hsn.out (by show A<now.length;rw [hnl.out];exact hAL) (by have hl1:(now.getD A []).length=128:=(by rw [List.getD,List.getElem?_eq_getElem (show A<now.length by rw [hnl.out];exact hAL)];exact hsn.out _ (List.getElem_mem _));rw [List.length_append,List.length_take,List.length_drop,was_len HK.out,hl1];omega)
     have hyl:((was F.old A).drop nn).length=128 - nn:=by rw [List.length_drop,was_len HK.out]
     have hcc:=hcp nn ((was F.old A).drop nn) (by rw [hyl];omega) rfl
     clear hcp
     have hbl:(bs ((was F.old A).drop nn)).length=128 - nn:=by rw [bs_length,hyl]
     refine step_copy_row rfl (.tmp 39) (.tmp 41) 48 48 rfl 5 Tryz.underlying48 (by kernel_rfl) g (A*128+nn) (128 - nn) (128 - nn) ⟨w2.heap.size,nn,none⟩ (128 - nn) (128 - nn) (by first |rfl |(simp [Act.eval];omega)) (by first |rfl |(simp [Act.eval];omega)) cur 306 hg (bs ((was F.old A).drop nn)) (by rw [hbl];exact (Nat.min_self _).symm) (fun j v hj=>by rw [Addr.add_lit,World.cell?_of_block (w':=W3.drew) (w:=W3) rfl,cell_of_row _ _ _ _ _ _ HG3.out];obtain ⟨hj1,rfl⟩:=bs_get' _ _ _ hj;rw [hyl]at hj1;simp only [List.getElem?_toArray];rw [bs_get _ _ (by rw [was_len HK.out];omega)];simp [List.getD]) (by rw [hbl];omega) (bs_one _) ?_
     obtain ⟨W4,hW4⟩:∃ W4,W4=W3.drew.setRow g (cur.toList.take (A*128+nn)++(bs ((was F.old A).drop nn)++cur.toList.drop (A*128+nn+(bs ((was F.old A).drop nn)).length))).toArray:=⟨_,rfl⟩
     rw [←hW4]at hcc ⊢
     clear hW4 hle hg
     have HF4:=hid hcc.1
     have HFR4:=hid (HFR3.out.trans ((FFrame.imp (w:=W3.drew) (S':=From (fun k=>S k∨k=ib∨k=tb) w1) hcc.2 (fun k _ hk=>Or.inl (Or.inl hk))).undrew))
     have HST4:=hid (HST3.out.stay (w':=W4) (fun k hk=>hcc.2.block k (Nat.lt_of_lt_of_le (HT.out k hk).1 (Nat.le_trans hb1.out.size HFR3.out.size)) (HT.out k hk).2.2 (HT.out k hk).2.1))
     clear hcc
     have c40:=HF4.out.c0
     simp only [List.length_set]at c40
     rw [hnl.out]at c40
     refine hK.out _ _ c40 (fun hHeld=>?_)
     clear hK K hHeld;clear hHeld c30 c20 c22
     refine wpAnyH_done (by kernel_rfl) ?_ _
     (try simp only [Act.put,sA,sZ,sS])
     go_wp2
     have hc1:crash1 F.old (now,En,st) A=(now.set A ((now.getD A []).take nn++(was F.old A).drop nn),max En (A+1),st.next):=by simp only [crash1,←HNN.out,if_pos hn0'']
     have hfo:=HFO.out
     rw [hc1]at hfo
     have hsn2:=crash1_sn HK.out (r:=(now,En,st)) hsn.out (i:=A) (by show A<now.length;rw [hnl.out];exact hAL) hst'.out.1
     rw [hc1]at hsn2
     refine ⟨⟨i+1,max En (A+1),now.set A ((now.getD A []).take nn++(was F.old A).drop nn),st.next,by congr 1;omega,by simp,by omega,by omega,hid (by rw [List.length_set];exact hnl.out),hid hsn2,hid ⟨next_t hst'.out.1,hst'.out.2.1,by have:=hst'.out.2.2;simp only [Stay.next];omega⟩,hid hfo,HF4,HST4,HFR4⟩,by simp [intOf];omega⟩
  ·have hiK:i=KK:=by omega
   subst hiK
   clear hik
   have hfin:=hfold.out
   rw [List.drop_eq_nil_of_le (by rw [←HKK.out];exact Nat.le_refl _)]at hfin
   simp only [List.foldl_nil]at hfin
   have HFIN:=hid hfin
   clear hfin hfold
   have hEc:En≤cap:=by
    rcases hF'.out.row.2 with ⟨hn,hz⟩ | ⟨g,cap',cur,hv',_,_,hnc,_⟩
    ·simp only at hz;rw [hnl.out]at hz;omega
    ·simp only [Value.slice.injEq]at hv';simp only at hnc;rw [hnl.out]at hnc;obtain ⟨_,_,rfl⟩:=hv';omega
   have hEc':(En:Int)≤(cap:Int):=by omega
   have haf:ao=none∨∃ g,ao=some ⟨g,0,none⟩:=by
    rcases hF'.out.row.2 with ⟨hn,_⟩ | ⟨g,cap',cur,hv',_⟩
    ·simp only [Value.slice.injEq]at hn;exact Or.inl hn.1
    ·simp only [Value.slice.injEq]at hv';exact Or.inr ⟨g,hv'.1⟩
   clear haf
   obtain ⟨W5,hW5⟩:∃ W5,W5=wr.setCell ⟨p,o,none⟩ (.slice ao En cap):=⟨_,rfl⟩
   have htl:(now.take En).length=En:=by rw [List.length_take,hnl.out];omega
   have hb5:∀ k,k≠p→W5.heap[k]? = wr.heap[k]?:=fun k hk=>by rw [hW5];exact set_heap _ _ _ _ _ hk
   have hc5:∀ j,j≠o→W5.cell? ⟨p,j,none⟩=wr.cell? ⟨p,j,none⟩:=fun j hj=>by rw [hW5];exact set_off _ _ _ (Ne.symm hj)
   have hf5:∀ j,W5.frozen? ⟨p,j,none⟩=wr.frozen? ⟨p,j,none⟩:=fun j=>by rw [hW5];exact World.frozen?_setCell _ _ _ _
   have hz5:W5.heap.size=wr.heap.size:=by rw [hW5];simp
   have hrow5:=row_cut hF'.out.row hsn.out En (by show En≤now.length;rw [hnl.out];exact hEn)
   have cst:=settle_any p o cap S ao (F.old.length:Int) (some m) (now.take En) W5 (by rw [htl,hW5];exact set_same c0) ((hc5 _ (by omega)).trans hF'.out.c1) ((hc5 _ (by omega)).trans hF'.out.c2) ((hf5 _).trans hF'.out.f0) ((hf5 _).trans hF'.out.f1) ((hf5 _).trans hF'.out.f2) (row_stay hrow5 (fun a ha=>hb5 _ (hF'.out.row_block a ha).2)) hF'.out.np hF'.out.ina
   have fr5:FFrame wr W5 p o (From (fun k=>S k∨k=ib∨k=tb) w1):=⟨by rw [hW5];rfl,by rw [hW5];rfl,by rw [hW5];rfl,Nat.le_of_eq hz5.symm,fun k _ hk _=>hb5 k hk,fun j h0 _ _=>hc5 j h0,hf5⟩
   have HC:=hid cst;have HFR5:=hid (hFr0.trans ((hfr.out.trans fr5).imp (fun k _ hk=>Or.inl hk)))
   have HST5:=hid (hS'.out.stay (w':=W5) (fun k hk=>hb5 k (HT.out k hk).2.2))
   have HZ:Hid (w.heap.size≤W5.heap.size):=hid HFR5.out.size
   clear cst fr5 hrow5 hb5 hc5 hf5 hz5 htl
   have HW5:=hid hW5
   clear hW5
   go_wp2_with (go_at_call 106;rw [←HW5.out];refine HC.out.mono ?_;rintro e w9 ⟨rfl,hF9,hfr9⟩)
   go_end0
   refine ⟨rfl,ao,cap,W5.heap.size,?_,?_,HFR5.out.trans (hfr9.imp (fun k _ hk=>Or.inl (Or.inl hk)))⟩
   ·rw [crashF,←HFIN.out]
    exact hF9.imp (fun k hk=>by rcases hk with h |h;exact Or.inl h;exact Or.inr (Nat.le_trans HZ.out h)) (fun h=>by rcases h with h |h;exact HF.out.np h;omega)
   ·rw [crashS,←HFIN.out]
    exact HST5.out.stay (fun k hk=>hfr9.block k (Nat.lt_of_lt_of_le (HT.out k hk).1 HZ.out) (HT.out k hk).2.2 (HT.out k hk).2.1)
end Dsk
end Go.Proofs.YtfcikkechphmaaaGreatDoor
