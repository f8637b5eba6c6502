/- What the sectors are behind one step of a write; how a sector is looked up. No statement of the seat is proved here. -/
import Derived.Test.YtgjgkpnjchflaaaGreatDoorH12
set_option maxHeartbeats 16000000
set_option maxRecDepth 20000
namespace Go.Proofs.YtgjgkpnjchflaaaGreatDoor
namespace Dsk
open Go.RowKit Go.Maps
variable {w:World} {a:Act} {o:Oper} {ops:Array Oper} {P:Program}
theorem wpList_lookup_sec{rest:List Oper}{Q:Exit→Act→World→Prop}(hg:o.guard=none)(m x:Operand)(t:TypeId)(hop:o.op=Op.lookup t m x true)
  (k e:TypeId) (K:Keyed P k) (ht:P.underlying t=some (.map k e)) (hz:(zeroValue e).run P w=.ok (secV noughts) w) (b n:Nat) (D:DataW Unit)
  (hm:a.eval m=.map (some b)) (hown:w.ownsMap P k secR b n D) (key:Value) (kl:Lit) (hx:a.eval x=key) (hkey:keyOf P k key=some kl) (X:Sec) (h:Bool) (hat:D.atKey kl (secD noughts)=secD X) (hh:Maps.has D kl=h)
  (hK:wpList P ops Q rest (a.put o.dst (.tuple #[secV X,.bool h])) w):wpList P ops Q (o::rest) a w:=
 wpList_lookup_own_ok w hg m x t hop k e K ht secR hz (secD noughts) [] (secR_mk _) b n D hm hown key kl hx hkey (fun v ps hv=>by
  rw [hat]at hv
  rw [secR_inv hv,hh]
  exact hK)
theorem exec_load{ρ:Operand→Value}{ty:TypeId}{x:Operand}{ad:Addr}{v:Value}{W:World}(ho:o.op=.load ty x)(hx:ρ x=.pointer (some ad))(hrun:(loadVar ty ad).run P W=.ok v W):(execOp ρ o).run P W=.ok (.value v) W:=by
 simp [execOp,ho,hx,Instr.loadAt,Instr.sureAddr,hrun]
variable {E:Prop}
theorem step_mapUpdate{K:Act→World→Prop}{Q:Exit→Act→World→Prop}(hgd:o.guard=none)(m x v:Operand)(t:TypeId)(hop:o.op=Op.mapUpdate t m x v)
  (k e:TypeId) (KK:Keyed P k) (ht:P.underlying t=some (.map k e)) (R:Value→Option (DataW Unit×List MemPlace)) (b n:Nat) (D:DataW Unit)
  (hm:a.eval m=.map (some b)) (hown:w.ownsMap P k R b n D) (hn:n<maxLen) (key val:Value) (kl:Lit) (hx:a.eval x=key) (hv:a.eval v=val) (hkey:keyOf P k key=some kl)
  (d:DataW Unit) (ps:List MemPlace) (hval:R val=some (d,ps))
  (hK:∀ w',w'.ownsMap P k R b (n+1) (D.put kl d)→w.grownBy w' (some b)→K (a.put o.dst undef) w') :
  if Region.wanted o (yielded ops a.tmps)=true then Oper.wp P o a w K Q else E:=by
 have hw:Region.wanted o (yielded ops a.tmps)=true:=by simp [Region.wanted,hgd]
 rw [if_pos hw]
 obtain ⟨w',hrun,r1,r2⟩:=hown.update KK ht hn hkey hval
 unfold Oper.wp
 simp [execOp,hop,hm,hx,hv,hrun,Result.andThen]
 exact hK w' r1 r2
theorem step_copy_row{K:Act→World→Prop}{Q:Exit→Act→World→Prop}(hgd:o.guard=none)(d s:Operand)(dT sT:TypeId)
  (ho:o.op=.call { callee:=.builtin .copy,args:=#[d,s],argTypes:=#[dT,sT] }) (elem:TypeId) (hu:P.underlying dT=some (.slice elem)) (hsz:(P.info? elem).map (·.size)=some 1)
  (g off dLen dCap:Nat) (ad:Addr) (sLen sCap:Nat) (hd:a.eval d=.slice (some ⟨g,off,none⟩) dLen dCap) (hs:a.eval s=.slice (some ad) sLen sCap)
  (cur:Array Value) (t:TypeId) (hg:w.heap[g]? = some (.cells cur t (0,0))) (cs:List Value) (hn:cs.length=Nat.min sLen dLen)
  (hsrc:∀ j v,cs[j]? = some v→w.cell? (ad.add j)=some v) (hfit:off+cs.length≤cur.size) (h1:∀ v∈cs,v.oneCell'=true)
  (h:K (a.put o.dst (goInt cs.length)) (w.setRow g (cur.toList.take off++(cs++cur.toList.drop (off+cs.length))).toArray)) :
  if Region.wanted o (yielded ops a.tmps)=true then Oper.wp P o a w K Q else E:=by
 have hw:Region.wanted o (yielded ops a.tmps)=true:=by simp [Region.wanted,hgd]
 rw [if_pos hw]
 have hrun:=run_copy_row (P:=P) w dT sT o.type elem g off dLen dCap ad sLen sCap cur t cs hu hsz hg hn hsrc hfit h1
 unfold Oper.wp
 simp [execOp,ho,resolve,invoke,builtin,hd,hs,hrun,Result.andThen]
 exact h
variable {F:FS}
theorem wr1_ok(ok:F.Ok){i:Nat}(hi:i≤F.now.length){s:Sec}(hs:s.length=128):(wr1 F i s).Ok:=by
 unfold wr1
 split
 ·rename_i h
  refine ⟨by simp [ok.ld],by simpa using ok.lo,fun x hx=>?_,ok.so,fun j hj hd=>?_⟩
  ·rcases List.mem_or_eq_of_mem_set hx with h1 |rfl
   ·exact ok.sn x h1
   ·exact hs
  ·simp only [List.length_set]at hj
   simp only [List.getD,List.getElem?_set]at hd ⊢
   by_cases hij:i=j
   ·subst hij;simp [ok.ld,h]at hd
   ·rw [if_neg hij]at hd ⊢
    exact ok.cl j hj hd
 ·rename_i h
  have e:i=F.now.length:=by omega
  refine ⟨by simp [ok.ld],by have:=ok.lo;simp;omega,fun x hx=>?_,ok.so,fun j hj hd=>?_⟩
  ·rcases List.mem_append.1 hx with h1 |h1
   ·exact ok.sn x h1
   ·simp only [List.mem_singleton]at h1;rw [h1];exact hs
  ·simp only [List.length_append,List.length_singleton]at hj
   by_cases hjl:j<F.now.length
   ·simp only [List.getD]at hd ⊢
    rw [List.getElem?_append_left (by rw [ok.ld];exact hjl)]at hd
    rw [List.getElem?_append_left hjl]
    exact ok.cl j hjl hd
   ·have:j=F.dirt.length:=by rw [ok.ld];omega
    subst this
    simp [List.getD]at hd
variable {i:Nat}
theorem wr1_in(hi:i<F.now.length)(s:Sec):wr1 F i s=⟨F.now.set i s,F.old,F.dirt.set i true⟩:=by simp [wr1,hi]
theorem wr1_end(s:Sec):wr1 F F.now.length s=⟨(F.now++[noughts]).set F.now.length s,F.old,F.dirt++[true]⟩:=by simp [wr1]
theorem wr1_len(F:FS)(i:Nat)(s:Sec)(hi:i≤F.now.length):(wr1 F i s).now.length≤max F.now.length (i+1)∧i+1≤(wr1 F i s).now.length:=by
 unfold wr1
 split
 ·simp;omega
 ·simp;omega
variable {d:List Bool}
theorem set_dirt(hi:i<d.length)(j:Nat):(d.set i true).getD j false=(d.getD j false||decide (j=i)):=by
 simp only [List.getD,List.getElem?_set]
 by_cases h:i=j
 ·subst h;simp [hi]
 ·rw [if_neg h];simp [Ne.symm h]
theorem set_same_dirt(h:d.getD i false=true):d.set i true=d:=by
 apply List.ext_getElem?
 intro j
 rw [List.getElem?_set]
 split
 ·rename_i e;subst e
  split
  ·rename_i hl;rw [List.getD,List.getElem?_eq_getElem hl]at h;rw [List.getElem?_eq_getElem hl];simpa using h.symm
  ·rename_i hl;rw [List.getElem?_eq_none (by omega)]
 ·rfl
theorem app_dirt(d:List Bool)(j:Nat):(d++[true]).getD j false=(d.getD j false||decide (j=d.length)):=by
 simp only [List.getD]
 rcases Nat.lt_trichotomy j d.length with h |h |h
 ·rw [List.getElem?_append_left h];simp [show j≠d.length by omega]
 ·subst h;simp
 ·rw [List.getElem?_eq_none (by simp;omega),List.getElem?_eq_none (by omega)];simp [show j≠d.length by omega]
theorem end_clean(d:List Bool):d.getD d.length false=false:=by simp [List.getD]
theorem was_end(ok:F.Ok):was F.old F.now.length=noughts:=by
 rw [was,List.getD,List.getElem?_eq_none ok.lo];rfl
theorem was_len(ok:F.Ok)(i:Nat):(was F.old i).length=128:=by
 rw [was,List.getD]
 cases h:F.old[i]? with
 | none=>exact noughts_length
 | some x=>exact ok.so x (List.mem_of_getElem? h)
end Dsk
end Go.Proofs.YtgjgkpnjchflaaaGreatDoor
