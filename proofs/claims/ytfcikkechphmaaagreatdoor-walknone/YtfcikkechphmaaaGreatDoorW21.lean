/- What stays behind a loss of power: the function that tells it, sector by sector; no statement of the seat is proved here. -/
import Derived.Test.YtfcikkechphmaaaGreatDoorW20
import Derived.BigQuiet
import Derived.Deep.QuietTactic
set_option maxHeartbeats 16000000
set_option maxRecDepth 20000
namespace Go.Proofs.YtfcikkechphmaaaGreatDoor
namespace Dsk
open Go.RowKit Go.Maps
structure Stay where
 keep:List Bool
 k:Nat
 t:Nat
def Stay.kept(s:Stay):Bool:=decide (0<s.keep.length)&&s.keep.getD (s.k % s.keep.length) false
def Stay.n(s:Stay):Nat:=if s.kept then 128 else s.t
def Stay.next(s:Stay):Stay:=⟨s.keep,s.k+1,if s.kept then s.t else 0⟩
def clip(t:Int):Nat:=if t<0 then 0 else if 128<t then 128 else t.toNat
def RdB(w:World)(ao:Option Addr)(xs:List Bool):Prop:=0<xs.length→∃ b off,ao=some ⟨b,off,none⟩∧∀ t,t<xs.length→w.cell? ⟨b,off+t,none⟩=some (.bool (xs.getD t false))
structure StayAt (w:World) (cb ib tb:Nat) (T:Nat→Prop) (s:Stay):Prop where
 c0:∃ ko kc,w.cell? ⟨cb,0,none⟩=some (.slice ko s.keep.length kc)∧RdB w ko s.keep∧(0<s.keep.length→∀ a,ko=some a→T a.block∧a.block≠ib∧a.block≠tb)
 ci:w.cell? ⟨ib,0,none⟩=some (.int .i64 (s.k:Int))
 ct:w.cell? ⟨tb,0,none⟩=some (.int .i64 (s.t:Int))
 fi:w.frozen? ⟨ib,0,none⟩=false
 ft:w.frozen? ⟨tb,0,none⟩=false
 it:ib≠tb
 ic:cb≠ib
 tc:cb≠tb
 tcb:T cb
 tib:T ib
 ttb:T tb
theorem stays1_raw(cb ib tb:Nat)(T:Nat→Prop)(s:Stay)(w:World)(h:StayAt w cb ib tb T s)(hk:s.k≤1000000)(hl:s.keep.length≤100)(ht:s.t≤128) :
  Calls Tryz.prog 334 #[.pointer (some ⟨cb,0,none⟩),.pointer (some ⟨ib,0,none⟩),.pointer (some ⟨tb,0,none⟩)] w fun e w'=>e=.returned (.int .i64 (s.n:Int)) ∧
   ∃ W:World,W.heap=w.heap∧W.os=w.os∧W.tape=w.tape∧W.output=w.output∧w'=(if s.kept then W.setCell ⟨ib,0,none⟩ (.int .i64 ((s.k+1:Nat):Int)) else (W.setCell ⟨ib,0,none⟩ (.int .i64 ((s.k+1:Nat):Int))).setCell ⟨tb,0,none⟩ (.int .i64 0)):=by
 obtain ⟨keep,k,t⟩:=s
 obtain ⟨⟨ko,kc,c0,hrd,_⟩,ci,ct,fi,ft,it,ic,tc,_,_,_⟩:=h
 simp only at c0 ci ct hk hl ht hrd
 have HR:=hid hrd
 clear hrd
 have e1:((k+1:Nat):Int)=(k:Int)+1:=by omega
 simp only [e1]
 rcases Nat.eq_zero_or_pos keep.length with h0 |h0
 ·have hkept:Stay.kept ⟨keep,k,t⟩=false:=by simp [Stay.kept,h0]
  have hn:Stay.n ⟨keep,k,t⟩=t:=by simp [Stay.n,hkept]
  simp only [hkept,hn]
  rw [h0]at c0
  have hd:decide ((0:Int)<((0:Nat):Int))=false:=by simp
  go_enter Tryz.func334,Tryz.ntmps334
  go_wp2_with fail
  go_quiet (fail)
  go_wp2
  go_ret
  exact ⟨rfl,w.drewN nq,rfl,rfl,rfl,rfl,rfl⟩
 ·obtain ⟨kb,ko',rfl,hc⟩:=HR.out h0
  clear HR
  obtain ⟨M,hM⟩:∃ M,M=k % keep.length:=⟨_,rfl⟩
  have hMl:M<keep.length:=by rw [hM];exact Nat.mod_lt _ h0
  have hcell:=hc M hMl
  obtain ⟨B,hB⟩:∃ B,B=keep.getD M false:=⟨_,rfl⟩
  rw [←hB]at hcell
  have hkept:Stay.kept ⟨keep,k,t⟩=B:=by simp [Stay.kept,h0,hB,hM]
  have hn:Stay.n ⟨keep,k,t⟩=if B then 128 else t:=by simp [Stay.n,hkept]
  simp only [hkept,hn]
  have hm:(k:Int).tmod (keep.length:Int)=(M:Int):=by rw [hM,Int.tmod_eq_emod_of_nonneg (by omega)];simp
  obtain ⟨l,hl2⟩:∃ l,l=keep.length:=⟨_,rfl⟩
  rw [←hl2]at c0 hMl hm h0 hl
  clear hc hM hB hn hkept hl2
  have h0':(0:Int)<(l:Int):=by omega
  have h0'':¬(l:Int)=0:=by omega
  have h0n:((l:Int) == 0)=false:=by simp;omega
  have hMi:(M:Int)<(l:Int):=by omega
  cases B
  ·go_enter Tryz.func334,Tryz.ntmps334
   go_wp2_with fail
   go_quiet (fail)
   go_wp2
   go_ret
   exact ⟨rfl,w.drewN nq,rfl,rfl,rfl,rfl,rfl⟩
  ·go_enter Tryz.func334,Tryz.ntmps334
   go_wp2_with fail
   go_quiet (fail)
   go_wp2
   go_ret
   exact ⟨rfl,w.drewN nq,rfl,rfl,rfl,rfl,rfl⟩
structure SFrame (w w':World) (ib tb:Nat):Prop where
 os:w'.os=w.os
 tape:w'.tape=w.tape
 output:w'.output=w.output
 size:w'.heap.size=w.heap.size
 block:∀ k,k≠ib→k≠tb→w'.heap[k]? = w.heap[k]?
variable {s:Stay} {T:Nat→Prop} {cb ib tb:Nat} {w:World}
theorem StayAt.kb(h:StayAt w cb ib tb T s){w':World}(hb:∀ k,k≠ib→k≠tb→w'.heap[k]? = w.heap[k]?) :
  ∃ ko kc,w'.cell? ⟨cb,0,none⟩=some (.slice ko s.keep.length kc)∧RdB w' ko s.keep∧(0<s.keep.length→∀ a,ko=some a→T a.block∧a.block≠ib∧a.block≠tb):=by
 obtain ⟨ko,kc,c0,hrd,hT⟩:=h.c0
 refine ⟨ko,kc,(World.cell?_of_block (hb cb h.ic h.tc)).trans c0,?_,hT⟩
 intro hp
 obtain ⟨b,off,rfl,hc⟩:=hrd hp
 have:=hT hp _ rfl
 exact ⟨b,off,rfl,fun t ht=>(World.cell?_of_block (a:=⟨b,off+t,none⟩) (hb b this.2.1 this.2.2)).trans (hc t ht)⟩
theorem StayAt.stay{w':World}(h:StayAt w cb ib tb T s)(e:∀ k,T k→w'.heap[k]? = w.heap[k]?):StayAt w' cb ib tb T s:=by
 obtain ⟨ko,kc,c0,hrd,hTa⟩:=h.c0
 refine ⟨⟨ko,kc,(World.cell?_of_block (e cb h.tcb)).trans c0,?_,hTa⟩,(World.cell?_of_block (e ib h.tib)).trans h.ci,(World.cell?_of_block (e tb h.ttb)).trans h.ct,(World.frozen?_of_block (e ib h.tib)).trans h.fi,(World.frozen?_of_block (e tb h.ttb)).trans h.ft,h.it,h.ic,h.tc,h.tcb,h.tib,h.ttb⟩
 intro hp
 obtain ⟨b,off,rfl,hc⟩:=hrd hp
 exact ⟨b,off,rfl,fun t ht=>(World.cell?_of_block (a:=⟨b,off+t,none⟩) (e b (hTa hp _ rfl).1)).trans (hc t ht)⟩
theorem stays1_any(cb ib tb:Nat)(T:Nat→Prop)(s:Stay)(w:World)(h:StayAt w cb ib tb T s)(hk:s.k≤1000000)(hl:s.keep.length≤100)(ht:s.t≤128) :
  Calls Tryz.prog 334 #[.pointer (some ⟨cb,0,none⟩),.pointer (some ⟨ib,0,none⟩),.pointer (some ⟨tb,0,none⟩)] w fun e w'=>e=.returned (.int .i64 (s.n:Int))∧StayAt w' cb ib tb T s.next∧SFrame w w' ib tb:=by
 refine (stays1_raw cb ib tb T s w h hk hl ht).mono ?_
 rintro e w' ⟨rfl,W,hh,ho,htp,hou,rfl⟩
 refine ⟨rfl,?_⟩
 have hW:∀ a,W.cell? a=w.cell? a:=fun a=>World.cell?_of_block (by rw [hh])
 have hWf:∀ a,W.frozen? a=w.frozen? a:=fun a=>World.frozen?_of_block (by rw [hh])
 have hne:(⟨ib,0,none⟩:Addr)≠⟨tb,0,none⟩:=by intro e;cases e;exact h.it rfl
 have hne':(⟨tb,0,none⟩:Addr)≠⟨ib,0,none⟩:=fun e=>hne e.symm
 by_cases hkp:s.kept=true
 ·have hn:s.next=⟨s.keep,s.k+1,s.t⟩:=by simp [Stay.next,hkp]
  rw [hn,if_pos hkp]
  have hb:∀ k,k≠ib→k≠tb→(W.setCell ⟨ib,0,none⟩ (.int .i64 ((s.k+1:Nat):Int))).heap[k]? = w.heap[k]?:=fun k h1 _=>by rw [set_heap _ _ _ _ _ h1,hh]
  exact ⟨⟨h.kb hb,set_same ((hW _).trans h.ci),(World.cell?_setCell_other _ _ _ _ hne).trans ((hW _).trans h.ct),by rw [World.frozen?_setCell,hWf];exact h.fi,by rw [World.frozen?_setCell,hWf];exact h.ft,h.it,h.ic,h.tc,h.tcb,h.tib,h.ttb⟩,ho,htp,hou,by simp [hh],hb⟩
 ·have hn:s.next=⟨s.keep,s.k+1,0⟩:=by simp [Stay.next,hkp]
  rw [hn,if_neg hkp]
  have hb:∀ k,k≠ib→k≠tb→((W.setCell ⟨ib,0,none⟩ (.int .i64 ((s.k+1:Nat):Int))).setCell ⟨tb,0,none⟩ (.int .i64 0)).heap[k]? = w.heap[k]?:=fun k h1 h2=>by rw [set_heap _ _ _ _ _ h2,set_heap _ _ _ _ _ h1,hh]
  refine ⟨⟨h.kb hb,?_,set_same ((World.cell?_setCell_other _ _ _ _ hne).trans ((hW _).trans h.ct)),by rw [World.frozen?_setCell,World.frozen?_setCell,hWf];exact h.fi,by rw [World.frozen?_setCell,World.frozen?_setCell,hWf];exact h.ft,h.it,h.ic,h.tc,h.tcb,h.tib,h.ttb⟩,ho,htp,hou,by simp [hh],hb⟩
  exact (World.cell?_setCell_other _ _ _ _ hne').trans (set_same ((hW _).trans h.ci))
theorem stays_any(ko:Option Addr)(kc:Nat)(keep:List Bool)(tn:Int)(w:World)(hk:RdB w ko keep)(htn : -9223372036854775808≤tn∧tn≤9223372036854775807)(T:Nat→Prop)(hT:0<keep.length→∀ a,ko=some a→T a.block) :
  Calls Tryz.prog 331 #[.agg #[.slice ko keep.length kc,.int .i64 tn]] w fun e w'=>∃ cb ib tb,e=.returned (.func (.func 334) #[] #[.pointer (some ⟨cb,0,none⟩),.pointer (some ⟨ib,0,none⟩),.pointer (some ⟨tb,0,none⟩)]) ∧
   StayAt w' cb ib tb (From T w) ⟨keep,0,clip tn⟩∧Below w.heap.size w w'∧w.heap.size≤ib∧w.heap.size≤tb∧w.heap.size≤cb:=by
 have key:∀ t:Nat,Below w.heap.size w (((w.alloc (.cells #[.slice ko keep.length kc,.int .i64 tn] 190)).alloc (.cells #[.int .i64 (t:Int)] 3)).alloc (.cells #[.int .i64 0] 3)) ∧
   StayAt (((w.alloc (.cells #[.slice ko keep.length kc,.int .i64 tn] 190)).alloc (.cells #[.int .i64 (t:Int)] 3)).alloc (.cells #[.int .i64 0] 3)) w.heap.size (w.heap.size+1+1) (w.heap.size+1) (From T w) ⟨keep,0,t⟩:=by
  intro t
  have hb:Below w.heap.size w (((w.alloc (.cells #[.slice ko keep.length kc,.int .i64 tn] 190)).alloc (.cells #[.int .i64 (t:Int)] 3)).alloc (.cells #[.int .i64 0] 3)):=(by repeat (first |with_reducible exact Below.refl _ _ |with_reducible assumption |with_reducible refine Below.drew ?_ |with_reducible refine below_drewN ?_ _ |with_reducible refine Below.alloc ?_ (by simp<;>omega) _ |with_reducible refine Below.setCell ?_ (by simp<;>omega) _))
  refine ⟨hb,⟨ko,kc,?_,?_,?_⟩,?_,?_,?_,?_,by omega,by omega,by omega,Or.inr (Nat.le_refl _),Or.inr (by omega),Or.inr (by omega)⟩
  ·rw [World.cell?_alloc_past _ _ _ (by simp;omega),World.cell?_alloc_past _ _ _ (by simp),World.cell?_alloc_at _ _ _ _ rfl];rfl
  ·intro hp
   obtain ⟨b,off,rfl,hc⟩:=hk hp
   exact ⟨b,off,rfl,fun t ht=>keep_old hb (hc t ht)⟩
  ·intro hp a ha
   obtain ⟨b,off,rfl,hc⟩:=hk hp
   cases ha
   have:b<w.heap.size:=lt_cell (hc 0 hp)
   exact ⟨Or.inl (hT hp _ rfl),by simp;omega,by simp;omega⟩
  ·rw [World.cell?_alloc_at _ _ _ _ (by simp)];rfl
  ·rw [World.cell?_alloc_past _ _ _ (by simp),World.cell?_alloc_at _ _ _ _ (by simp)];rfl
  ·rw [World.frozen?_alloc_at _ _ _ _ (by simp)]
  ·rw [World.frozen?_alloc_past _ _ _ (by simp),World.frozen?_alloc_at _ _ _ _ (by simp)]
 have fin:∀ t:Nat,clip tn=t→∃ cb ib tb,(Ending.returned (.func (.func 334) #[] #[.pointer (some ⟨w.heap.size,0,none⟩),.pointer (some ⟨w.heap.size+1+1,0,none⟩),.pointer (some ⟨w.heap.size+1,0,none⟩)]))=.returned (.func (.func 334) #[] #[.pointer (some ⟨cb,0,none⟩),.pointer (some ⟨ib,0,none⟩),.pointer (some ⟨tb,0,none⟩)]) ∧
   StayAt (((w.alloc (.cells #[.slice ko keep.length kc,.int .i64 tn] 190)).alloc (.cells #[.int .i64 (t:Int)] 3)).alloc (.cells #[.int .i64 0] 3)) cb ib tb (From T w) ⟨keep,0,clip tn⟩∧Below w.heap.size w (((w.alloc (.cells #[.slice ko keep.length kc,.int .i64 tn] 190)).alloc (.cells #[.int .i64 (t:Int)] 3)).alloc (.cells #[.int .i64 0] 3))∧w.heap.size≤ib∧w.heap.size≤tb∧w.heap.size≤cb:=by
  intro t ht
  refine ⟨_,_,_,rfl,?_,(key t).1,by omega,by omega,Nat.le_refl _⟩
  rw [ht];exact (key t).2
 have FIN:=hid fin
 clear fin key hk hT
 generalize keep.length=l at *
 by_cases h:tn<0
 ·have hc:=hid (FIN.out 0 (by simp [clip,h]))
  clear FIN
  go_enter Tryz.func331,Tryz.ntmps331
  go_wp2
  go_ret
  exact hc.out
 ·by_cases h2:128<tn
  ·have hc:=hid (FIN.out 128 (by simp [clip,h,h2]))
   clear FIN
   go_enter Tryz.func331,Tryz.ntmps331
   go_wp2
   go_ret
   exact hc.out
  ·obtain ⟨t,rfl⟩:=Int.eq_ofNat_of_zero_le (show 0≤tn by omega)
   have hc:=hid (FIN.out t (by simp [clip,h,h2]))
   clear FIN
   have ht:t≤128:=by omega
   have ht2:(t:Int)≤128:=by omega
   clear h h2 htn
   go_enter Tryz.func331,Tryz.ntmps331
   go_wp2
   go_ret
   exact hc.out
end Dsk
end Go.Proofs.YtfcikkechphmaaaGreatDoor
