/- What (*Source).Bytes does with a source that is in order; no statement of the seat is proved here. -/
import Derived.Test.YtenajbfeojljdaaGreatDoorV02
import Derived.Laws.CopyOwn
import Derived.Deep.DeepCutAuto
set_option maxHeartbeats 16000000
set_option maxRecDepth 20000
namespace Go.Proofs.YtenajbfeojljdaaGreatDoor
namespace Cel
open Go.RowKit
theorem op_at(l:List Oper)(i:Nat)(o:Oper)(h:l[i]? = some o):l.toArray[i]? = some o:=by simpa using h
variable {xs:List Nat} {b off n cap:Nat} {W:World}
theorem Rd.from_(h:Rd W (some ⟨b,off,none⟩) n cap xs)(k:Nat)(hk:k≤n) :
  (cap=k→Rd W (some ⟨b,off,none⟩) (n - k) (cap - k) (xs.drop k))∧(¬cap=k→Rd W (some ⟨b,off+k,none⟩) (n - k) (cap - k) (xs.drop k)):=by
 obtain ⟨hl,hc,hno,hat⟩:=h
 constructor
 ·intro h1
  refine ⟨by simp;omega,by omega,fun h=>(by cases h),fun hp=>?_⟩
  omega
 ·intro h1
  refine ⟨by simp;omega,by omega,fun h=>(by cases h),fun hp=>⟨b,off+k,rfl,fun t ht=>?_⟩⟩
  obtain ⟨b',off',e,hcell⟩:=hat (by omega)
  simp only [Option.some.injEq,Addr.mk.injEq,and_true]at e
  obtain ⟨rfl,rfl⟩:=e
  have:=hcell (k+t) (by omega)
  rw [show off+k+t=off+(k+t) by omega,this]
  simp [List.getD]
variable {k:Nat}
theorem bytes_hpos{W1:World}{g:Nat}(h:Rd W (some ⟨b,off,none⟩) n cap xs)(hb:Below W.heap.size W W1)(hk:k≤n):0<(bs (xs.take k)).length→some (⟨g,0,none⟩:Addr)=some ⟨g,0,none⟩∧∃ ad,some (⟨b,off,none⟩:Addr)=some ad∧∀ j v,(bs (xs.take k))[j]? = some v→W1.cell? (ad.add j)=some v:=by
 intro hp
 refine ⟨rfl,_,rfl,fun j v hv=>?_⟩
 obtain ⟨hj,rfl⟩:=bs_get' _ j v hv
 obtain ⟨hl,_,_,hat⟩:=h.keep hb
 simp at hj
 obtain ⟨b',off',e,hcell⟩:=hat (by omega)
 simp only [Option.some.injEq,Addr.mk.injEq,and_true]at e
 obtain ⟨rfl,rfl⟩:=e
 rw [Addr.add_lit,hcell j (by omega)]
 have hj2:j<k:=by omega
 simp [List.getD,hj2]
theorem bytes_hn(hl:xs.length=n)(hk:k≤n):(bs (xs.take k)).length=Nat.min n k:=by
 rw [bs_length,List.length_take,hl]
 show min k n=min n k
 omega
theorem bytes_end{w4:World}{p:Nat}{v:Value}{ao':Addr}(hp:W.heap[p]? = some (.cells #[.bool true,.slice (some ⟨b,off,none⟩) n cap,.int .i64 0] 331 (0,0)))
  (hr:Rd W (some ⟨b,off,none⟩) n cap xs) (hn:n≤9223372036854775807) (h5:T5 W b) (hk:k≤n) (hk2:k≤1000) (hb4:Below W.heap.size (W.alloc (.cells (Array.replicate k (.int .u8 0)) 5)).drew w4)
  (hg4:w4.heap[W.heap.size]? = some (.cells (splice (List.replicate k (.int .u8 0)) 0 (bs (xs.take k))).toArray 5 (0,0)))
  (hv:v=.slice (some ao') (n - k) (cap - k)) (ha:(cap=k∧ao'=⟨b,off,none⟩)∨(¬cap=k∧ao'=⟨b,off+k,none⟩)) :
  Rd (w4.setCell ⟨p,1,none⟩ v) (some ⟨W.heap.size,0,none⟩) k k (xs.take k)∧SrcAt (w4.setCell ⟨p,1,none⟩ v) p (xs.drop k)∧W.grownBy (w4.setCell ⟨p,1,none⟩ v) (some p)∧(∀ b' o',some (⟨W.heap.size,0,none⟩:Addr)=some ⟨b',o',none⟩→T5 (w4.setCell ⟨p,1,none⟩ v) b')∧(∀ b' o',some (⟨W.heap.size,0,none⟩:Addr)=some ⟨b',o',none⟩→W.heap.size≤b'):=by
 have hne:=t5_ne hp h5
 have hpl:=lt_of_block hp
 have hl:=hr.1
 have hb:Below W.heap.size W w4:=(Below.alloc (Below.refl _ _) (Nat.le_refl _) _).drew.trans hb4
 have hp4:w4.heap[p]? = some (.cells #[.bool true,.slice (some ⟨b,off,none⟩) n cap,.int .i64 0] 331 (0,0)):=by rw [hb.block p hpl];exact hp
 have hlt:(xs.take k).length=k:=by simp;omega
 have ho:=own_of_row (B:=W.heap.size) (n:=k) (cap:=k) (xs:=xs.take k) (Nat.le_refl _) hg4 (by rw [length_splice _ _ _ (by simp [bs];omega)];simp) (by omega) (by simpa using splice_zero k 0 (xs.take k) hlt) hlt (Nat.le_refl _)
 refine ⟨rd_set (rd_own ho) (fun _ _ e=>by simp only [Option.some.injEq,Addr.mk.injEq,and_true]at e;omega),?_,grow_trans (grow_below hb) (grow_set _ _ _ _),fun b' o' e=>by cases e;exact (show T5 w4 W.heap.size from ⟨_,_,hg4⟩).five (five_set hp4 (by decide)),fun b' o' e=>by cases e;exact Nat.le_refl _⟩
 have hf:=(hr.keep hb).from_ k hk
 subst hv
 rcases ha with ⟨h1,rfl⟩ | ⟨h1,rfl⟩
 ·exact ⟨_,_,_,_,src_set hp4,rd_set (hf.1 h1) (fun _ _ e=>by simp only [Option.some.injEq,Addr.mk.injEq,and_true]at e;rw [←e.1];exact hne),by omega,(h5.keep hb).five (five_set hp4 (by decide))⟩
 ·exact ⟨_,_,_,_,src_set hp4,rd_set (hf.2 h1) (fun _ _ e=>by simp only [Option.some.injEq,Addr.mk.injEq,and_true]at e;rw [←e.1];exact hne),by omega,(h5.keep hb).five (five_set hp4 (by decide))⟩
theorem bytes_ok(p:Nat)(xs:List Nat)(k:Nat)(W:World)(h:SrcAt W p xs)(hk:k≤xs.length)(hk2:k≤1000) :
  Calls Tryz.prog 208 #[.pointer (some ⟨p,0,none⟩),.int .i64 (k:Int)] W fun e w'=>∃ ao c,e=.returned (.slice ao k c)∧Rd w' ao k c (xs.take k)∧SrcAt w' p (xs.drop k)∧W.grownBy w' (some p)∧(∀ b o,ao=some ⟨b,o,none⟩→T5 w' b)∧(∀ b o,ao=some ⟨b,o,none⟩→W.heap.size≤b):=by
 have c26:=hid (err_ok p xs W h)
 have hmk:=make_any k k (Nat.le_refl _) (by omega)
 obtain ⟨b,off,n,cap,hp,hr,hn,h5⟩:=h
 replace h5:=hid h5
 have hne:=t5_ne hp h5.out
 obtain ⟨s0,s1,s2,f1,f2⟩:=src_cells hp
 have hpl:=lt_of_block hp
 have hl:=hr.1
 have hcap:=hr.2.1
 have hr':=hid hr
 have hp':=hid hp
 have hkn:k≤n:=by omega
 have hkc:k≤cap:=by omega
 have hk0:¬(n:Int)<(k:Int):=by omega
 have hk1:¬(k:Int)<0:=by omega
 have hkc2:(k:Int)≤(cap:Int):=by omega
 have hkn2:(k:Int)≤(n:Int):=by omega
 clear hp hr hk hl
 have hl':=hid hr'.out.1
 have hcs:(bs (xs.take k)).length=k:=by rw [bs_length];have:=hl'.out;simp;omega
 by_cases hck:cap=k
 ·have hnk:n=k:=by omega
  subst hck
  obtain rfl:=hnk
  go_enter Tryz.func208,Tryz.ntmps208
  go_upto_region 10 with (go_at_call 213;refine c26.out.mono ?_;rintro e w1 ⟨rfl,rfl⟩)
  refine wp_region_held_drew (S:=fun _=>True) (by kernel_rfl) (by trivial) (fun hHeld=>?_)
  refine wpAnyH_take (i:=0) (v:=?_) (op_at _ 0 _ rfl) (by kernel_rfl) (by kernel_rfl) (by kernel_rfl) (fun _ _ _ h=>h) (Or.inl ⟨by rfl,?_⟩) (by assumption) ?_
  rotate_left 1
  focus (intro w hSw;go_simp;first |done |with_reducible rfl)
  (try simp only [Act.put,List.setIfInBounds_toArray,List.set_cons_zero,List.set_cons_succ])
  refine wpAnyH_take (i:=1) (v:=?_) (op_at _ 1 _ rfl) (by kernel_rfl) (by kernel_rfl) (by kernel_rfl) (fun _ _ _ h=>h) (Or.inl ⟨by rfl,?_⟩) (by assumption) ?_
  rotate_left 1
  focus (intro w hSw;go_simp;first |done |with_reducible rfl)
  (try simp only [Act.put,List.setIfInBounds_toArray,List.set_cons_zero,List.set_cons_succ])
  refine wpAnyH_take (i:=2) (v:=?_) (op_at _ 2 _ rfl) (by kernel_rfl) (by kernel_rfl) (by kernel_rfl) (fun _ _ _ h=>h) (Or.inl ⟨by rfl,?_⟩) (by assumption) ?_
  rotate_left 1
  focus (intro w hSw;go_simp;first |done |with_reducible rfl)
  (try simp only [Act.put,List.setIfInBounds_toArray,List.set_cons_zero,List.set_cons_succ])
  refine wpAnyH_take (i:=3) (v:=?_) (op_at _ 3 _ rfl) (by kernel_rfl) (by kernel_rfl) (by kernel_rfl) (fun _ _ _ h=>h) (Or.inl ⟨by rfl,?_⟩) (by assumption) ?_
  rotate_left 1
  focus (intro w hSw;go_simp;first |done |with_reducible rfl)
  (try simp only [Act.put,List.setIfInBounds_toArray,List.set_cons_zero,List.set_cons_succ])
  refine wpAnyH_take (i:=5) (v:=?_) (op_at _ 5 _ rfl) (by kernel_rfl) (by kernel_rfl) (by kernel_rfl) (fun _ _ _ h=>h) (Or.inl ⟨by rfl,?_⟩) (by assumption) ?_
  rotate_left 1
  focus (intro w hSw;go_simp;first |done |with_reducible rfl)
  (try simp only [Act.put,List.setIfInBounds_toArray,List.set_cons_zero,List.set_cons_succ])
  refine wpAnyH_take (i:=6) (v:=?_) (op_at _ 6 _ rfl) (by kernel_rfl) (by kernel_rfl) (by kernel_rfl) (fun _ _ _ h=>h) (Or.inl ⟨by rfl,?_⟩) (by assumption) ?_
  rotate_left 1
  focus (intro w hSw;go_simp;first |done |with_reducible rfl)
  (try simp only [Act.put,List.setIfInBounds_toArray,List.set_cons_zero,List.set_cons_succ])
  refine wpAnyH_take (i:=7) (v:=?_) (op_at _ 7 _ rfl) (by kernel_rfl) (by kernel_rfl) (by kernel_rfl) (fun _ _ _ h=>h) (Or.inl ⟨by rfl,?_⟩) (by assumption) ?_
  rotate_left 1
  focus (intro w hSw;go_simp;first |done |with_reducible rfl)
  (try simp only [Act.put,List.setIfInBounds_toArray,List.set_cons_zero,List.set_cons_succ])
  refine wpAnyH_take (i:=8) (v:=?_) (op_at _ 8 _ rfl) (by kernel_rfl) (by kernel_rfl) (by kernel_rfl) (fun _ _ _ h=>h) (Or.inl ⟨by rfl,?_⟩) (by assumption) ?_
  rotate_left 1
  focus (intro w hSw;go_simp;first |done |with_reducible rfl)
  (try simp only [Act.put,List.setIfInBounds_toArray,List.set_cons_zero,List.set_cons_succ])
  refine wpAnyH_ready (rs:=[4,9]) (by kernel_rfl) (by simp) ?_
  refine AllReadyH.cons (op_at _ 4 _ rfl) (fun K hK=>?_) ?_
  ·go_simp
   refine hK.out _ _ (by trivial) (fun hHeld=>?_)
   clear hK K
   (try simp only [Act.put,List.setIfInBounds_toArray,List.set_cons_zero,List.set_cons_succ])
   refine wpAnyH_ready (rs:=[9]) (by kernel_rfl) (by simp) ?_
   refine AllReadyH.cons (op_at _ 9 _ rfl) (fun K hK=>?_) AllReadyH.nil
   go_simp
   refine hK.out _ _ (by trivial) (fun hHeld=>?_)
   clear hK K
   (try simp only [Act.put,List.setIfInBounds_toArray,List.set_cons_zero,List.set_cons_succ])
   refine wpAnyH_ready (rs:=[10]) (by kernel_rfl) (by simp) ?_
   refine AllReadyH.cons (op_at _ 10 _ rfl) (fun K hK=>?_) AllReadyH.nil
   refine step_copy_splice rfl (.tmp 32) (.tmp 36) 48 48 rfl 5 Tryz.underlying48 (by kernel_rfl) _ _ _ _ _ _ rfl rfl W.heap.size 0 (List.replicate n (.int .u8 0)) 5 (copy_hg W n) (bs (xs.take n)) (bytes_hn hl'.out hkn) (bytes_hpos hr'.out (Below.alloc (Below.refl _ _) (Nat.le_refl _) _).drew hkn) (by simp [bs];omega) (bs_one _) W.heap.size _ (Below.refl _ _) (Nat.le_refl _) ?_;intro w4 hg4 hb4;have t1:w4.cell? ⟨p,1,none⟩=some (.slice (some ⟨b,off,none⟩) n n):=keep_cell hb4 (by simpa using keep_old (Below.alloc (Below.refl _ _) (Nat.le_refl _) _).drew s1) hpl;have tf:w4.frozen? ⟨p,1,none⟩=false:=by rw [keep_frozen hb4 hpl,keep_frozen (Below.alloc (Below.refl W.heap.size W) (Nat.le_refl _) _).drew hpl];exact f1
   refine hK.out _ _ (by trivial) (fun hHeld=>?_)
   clear hK K
   (try simp only [Act.put,List.setIfInBounds_toArray,List.set_cons_zero,List.set_cons_succ])
   refine wpAnyH_ready (rs:=[11]) (by kernel_rfl) (by simp) ?_
   refine AllReadyH.cons (op_at _ 11 _ rfl) (fun K hK=>?_) AllReadyH.nil
   go_simp
   refine hK.out _ _ (by trivial) (fun hHeld=>?_)
   clear hK K
   (try simp only [Act.put,List.setIfInBounds_toArray,List.set_cons_zero,List.set_cons_succ])
   refine wpAnyH_take (i:=12) (v:=?_) (op_at _ 12 _ rfl) (by kernel_rfl) (by kernel_rfl) (by kernel_rfl) (fun _ _ _ h=>h) (Or.inl ⟨by rfl,?_⟩) (by assumption) ?_
   rotate_left 1
   focus (intro w hSw;go_simp;first |done |with_reducible rfl)
   (try simp only [Act.put,List.setIfInBounds_toArray,List.set_cons_zero,List.set_cons_succ])
   refine wpAnyH_take (i:=13) (v:=?_) (op_at _ 13 _ rfl) (by kernel_rfl) (by kernel_rfl) (by kernel_rfl) (fun _ _ _ h=>h) (Or.inl ⟨by rfl,?_⟩) (by assumption) ?_
   rotate_left 1
   focus (intro w hSw;go_simp;first |done |with_reducible rfl)
   (try simp only [Act.put,List.setIfInBounds_toArray,List.set_cons_zero,List.set_cons_succ])
   refine wpAnyH_ready (rs:=[14]) (by kernel_rfl) (by simp) ?_
   refine AllReadyH.cons (op_at _ 14 _ rfl) (fun K hK=>?_) AllReadyH.nil
   go_simp
   refine hK.out _ _ (by trivial) (fun hHeld=>?_)
   clear hK K
   (try simp only [Act.put,List.setIfInBounds_toArray,List.set_cons_zero,List.set_cons_succ])
   refine wpAnyH_done (by kernel_rfl) ?_ _
   go_wp2
   go_ret
   exact ⟨_,_,rfl,bytes_end hp'.out hr'.out hn h5.out hkn hk2 hb4 hg4.out (by simp) (Or.inl ⟨rfl,rfl⟩)⟩
  refine AllReadyH.cons (op_at _ 9 _ rfl) (fun K hK=>?_) ?_
  ·go_simp
   refine hK.out _ _ (by trivial) (fun hHeld=>?_)
   clear hK K
   (try simp only [Act.put,List.setIfInBounds_toArray,List.set_cons_zero,List.set_cons_succ])
   refine wpAnyH_ready (rs:=[4,10]) (by kernel_rfl) (by simp) ?_
   refine AllReadyH.cons (op_at _ 4 _ rfl) (fun K hK=>?_) ?_
   ·go_simp
    refine hK.out _ _ (by trivial) (fun hHeld=>?_)
    clear hK K
    (try simp only [Act.put,List.setIfInBounds_toArray,List.set_cons_zero,List.set_cons_succ])
    refine wpAnyH_ready (rs:=[10]) (by kernel_rfl) (by simp) ?_
    refine AllReadyH.cons (op_at _ 10 _ rfl) (fun K hK=>?_) AllReadyH.nil
    refine step_copy_splice rfl (.tmp 32) (.tmp 36) 48 48 rfl 5 Tryz.underlying48 (by kernel_rfl) _ _ _ _ _ _ rfl rfl W.heap.size 0 (List.replicate n (.int .u8 0)) 5 (copy_hg W n) (bs (xs.take n)) (bytes_hn hl'.out hkn) (bytes_hpos hr'.out (Below.alloc (Below.refl _ _) (Nat.le_refl _) _).drew hkn) (by simp [bs];omega) (bs_one _) W.heap.size _ (Below.refl _ _) (Nat.le_refl _) ?_;intro w4 hg4 hb4;have t1:w4.cell? ⟨p,1,none⟩=some (.slice (some ⟨b,off,none⟩) n n):=keep_cell hb4 (by simpa using keep_old (Below.alloc (Below.refl _ _) (Nat.le_refl _) _).drew s1) hpl;have tf:w4.frozen? ⟨p,1,none⟩=false:=by rw [keep_frozen hb4 hpl,keep_frozen (Below.alloc (Below.refl W.heap.size W) (Nat.le_refl _) _).drew hpl];exact f1
    refine hK.out _ _ (by trivial) (fun hHeld=>?_)
    clear hK K
    (try simp only [Act.put,List.setIfInBounds_toArray,List.set_cons_zero,List.set_cons_succ])
    refine wpAnyH_ready (rs:=[11]) (by kernel_rfl) (by simp) ?_
    refine AllReadyH.cons (op_at _ 11 _ rfl) (fun K hK=>?_) AllReadyH.nil
    go_simp
    refine hK.out _ _ (by trivial) (fun hHeld=>?_)
    clear hK K
    (try simp only [Act.put,List.setIfInBounds_toArray,List.set_cons_zero,List.set_cons_succ])
    refine wpAnyH_take (i:=12) (v:=?_) (op_at _ 12 _ rfl) (by kernel_rfl) (by kernel_rfl) (by kernel_rfl) (fun _ _ _ h=>h) (Or.inl ⟨by rfl,?_⟩) (by assumption) ?_
    rotate_left 1
    focus (intro w hSw;go_simp;first |done |with_reducible rfl)
    (try simp only [Act.put,List.setIfInBounds_toArray,List.set_cons_zero,List.set_cons_succ])
    refine wpAnyH_take (i:=13) (v:=?_) (op_at _ 13 _ rfl) (by kernel_rfl) (by kernel_rfl) (by kernel_rfl) (fun _ _ _ h=>h) (Or.inl ⟨by rfl,?_⟩) (by assumption) ?_
    rotate_left 1
    focus (intro w hSw;go_simp;first |done |with_reducible rfl)
    (try simp only [Act.put,List.setIfInBounds_toArray,List.set_cons_zero,List.set_cons_succ])
    refine wpAnyH_ready (rs:=[14]) (by kernel_rfl) (by simp) ?_
    refine AllReadyH.cons (op_at _ 14 _ rfl) (fun K hK=>?_) AllReadyH.nil
    go_simp
    refine hK.out _ _ (by trivial) (fun hHeld=>?_)
    clear hK K
    (try simp only [Act.put,List.setIfInBounds_toArray,List.set_cons_zero,List.set_cons_succ])
    refine wpAnyH_done (by kernel_rfl) ?_ _
    go_wp2
    go_ret
    exact ⟨_,_,rfl,bytes_end hp'.out hr'.out hn h5.out hkn hk2 hb4 hg4.out (by simp) (Or.inl ⟨rfl,rfl⟩)⟩
   refine AllReadyH.cons (op_at _ 10 _ rfl) (fun K hK=>?_) ?_
   ·refine step_copy_splice rfl (.tmp 32) (.tmp 36) 48 48 rfl 5 Tryz.underlying48 (by kernel_rfl) _ _ _ _ _ _ rfl rfl W.heap.size 0 (List.replicate n (.int .u8 0)) 5 (copy_hg W n) (bs (xs.take n)) (bytes_hn hl'.out hkn) (bytes_hpos hr'.out (Below.alloc (Below.refl _ _) (Nat.le_refl _) _).drew hkn) (by simp [bs];omega) (bs_one _) W.heap.size _ (Below.refl _ _) (Nat.le_refl _) ?_;intro w4 hg4 hb4;have t1:w4.cell? ⟨p,1,none⟩=some (.slice (some ⟨b,off,none⟩) n n):=keep_cell hb4 (by simpa using keep_old (Below.alloc (Below.refl _ _) (Nat.le_refl _) _).drew s1) hpl;have tf:w4.frozen? ⟨p,1,none⟩=false:=by rw [keep_frozen hb4 hpl,keep_frozen (Below.alloc (Below.refl W.heap.size W) (Nat.le_refl _) _).drew hpl];exact f1
    refine hK.out _ _ (by trivial) (fun hHeld=>?_)
    clear hK K
    (try simp only [Act.put,List.setIfInBounds_toArray,List.set_cons_zero,List.set_cons_succ])
    refine wpAnyH_ready (rs:=[4]) (by kernel_rfl) (by simp) ?_
    refine AllReadyH.cons (op_at _ 4 _ rfl) (fun K hK=>?_) AllReadyH.nil
    go_simp
    refine hK.out _ _ (by trivial) (fun hHeld=>?_)
    clear hK K
    (try simp only [Act.put,List.setIfInBounds_toArray,List.set_cons_zero,List.set_cons_succ])
    refine wpAnyH_ready (rs:=[11]) (by kernel_rfl) (by simp) ?_
    refine AllReadyH.cons (op_at _ 11 _ rfl) (fun K hK=>?_) AllReadyH.nil
    go_simp
    refine hK.out _ _ (by trivial) (fun hHeld=>?_)
    clear hK K
    (try simp only [Act.put,List.setIfInBounds_toArray,List.set_cons_zero,List.set_cons_succ])
    refine wpAnyH_take (i:=12) (v:=?_) (op_at _ 12 _ rfl) (by kernel_rfl) (by kernel_rfl) (by kernel_rfl) (fun _ _ _ h=>h) (Or.inl ⟨by rfl,?_⟩) (by assumption) ?_
    rotate_left 1
    focus (intro w hSw;go_simp;first |done |with_reducible rfl)
    (try simp only [Act.put,List.setIfInBounds_toArray,List.set_cons_zero,List.set_cons_succ])
    refine wpAnyH_take (i:=13) (v:=?_) (op_at _ 13 _ rfl) (by kernel_rfl) (by kernel_rfl) (by kernel_rfl) (fun _ _ _ h=>h) (Or.inl ⟨by rfl,?_⟩) (by assumption) ?_
    rotate_left 1
    focus (intro w hSw;go_simp;first |done |with_reducible rfl)
    (try simp only [Act.put,List.setIfInBounds_toArray,List.set_cons_zero,List.set_cons_succ])
    refine wpAnyH_ready (rs:=[14]) (by kernel_rfl) (by simp) ?_
    refine AllReadyH.cons (op_at _ 14 _ rfl) (fun K hK=>?_) AllReadyH.nil
    go_simp
    refine hK.out _ _ (by trivial) (fun hHeld=>?_)
    clear hK K
    (try simp only [Act.put,List.setIfInBounds_toArray,List.set_cons_zero,List.set_cons_succ])
    refine wpAnyH_done (by kernel_rfl) ?_ _
    go_wp2
    go_ret
    exact ⟨_,_,rfl,bytes_end hp'.out hr'.out hn h5.out hkn hk2 hb4 hg4.out (by simp) (Or.inl ⟨rfl,rfl⟩)⟩
   exact AllReadyH.nil
  exact AllReadyH.nil
 ·have hck':¬k=cap:=fun e=>hck e.symm
  go_enter Tryz.func208,Tryz.ntmps208
  go_upto_region 10 with (go_at_call 213;refine c26.out.mono ?_;rintro e w1 ⟨rfl,rfl⟩)
  refine wp_region_held_drew (S:=fun _=>True) (by kernel_rfl) (by trivial) (fun hHeld=>?_)
  refine wpAnyH_take (i:=0) (v:=?_) (op_at _ 0 _ rfl) (by kernel_rfl) (by kernel_rfl) (by kernel_rfl) (fun _ _ _ h=>h) (Or.inl ⟨by rfl,?_⟩) (by assumption) ?_
  rotate_left 1
  focus (intro w hSw;go_simp;first |done |with_reducible rfl)
  (try simp only [Act.put,List.setIfInBounds_toArray,List.set_cons_zero,List.set_cons_succ])
  refine wpAnyH_take (i:=1) (v:=?_) (op_at _ 1 _ rfl) (by kernel_rfl) (by kernel_rfl) (by kernel_rfl) (fun _ _ _ h=>h) (Or.inl ⟨by rfl,?_⟩) (by assumption) ?_
  rotate_left 1
  focus (intro w hSw;go_simp;first |done |with_reducible rfl)
  (try simp only [Act.put,List.setIfInBounds_toArray,List.set_cons_zero,List.set_cons_succ])
  refine wpAnyH_take (i:=2) (v:=?_) (op_at _ 2 _ rfl) (by kernel_rfl) (by kernel_rfl) (by kernel_rfl) (fun _ _ _ h=>h) (Or.inl ⟨by rfl,?_⟩) (by assumption) ?_
  rotate_left 1
  focus (intro w hSw;go_simp;first |done |with_reducible rfl)
  (try simp only [Act.put,List.setIfInBounds_toArray,List.set_cons_zero,List.set_cons_succ])
  refine wpAnyH_take (i:=3) (v:=?_) (op_at _ 3 _ rfl) (by kernel_rfl) (by kernel_rfl) (by kernel_rfl) (fun _ _ _ h=>h) (Or.inl ⟨by rfl,?_⟩) (by assumption) ?_
  rotate_left 1
  focus (intro w hSw;go_simp;first |done |with_reducible rfl)
  (try simp only [Act.put,List.setIfInBounds_toArray,List.set_cons_zero,List.set_cons_succ])
  refine wpAnyH_take (i:=5) (v:=?_) (op_at _ 5 _ rfl) (by kernel_rfl) (by kernel_rfl) (by kernel_rfl) (fun _ _ _ h=>h) (Or.inl ⟨by rfl,?_⟩) (by assumption) ?_
  rotate_left 1
  focus (intro w hSw;go_simp;first |done |with_reducible rfl)
  (try simp only [Act.put,List.setIfInBounds_toArray,List.set_cons_zero,List.set_cons_succ])
  refine wpAnyH_take (i:=6) (v:=?_) (op_at _ 6 _ rfl) (by kernel_rfl) (by kernel_rfl) (by kernel_rfl) (fun _ _ _ h=>h) (Or.inl ⟨by rfl,?_⟩) (by assumption) ?_
  rotate_left 1
  focus (intro w hSw;go_simp;first |done |with_reducible rfl)
  (try simp only [Act.put,List.setIfInBounds_toArray,List.set_cons_zero,List.set_cons_succ])
  refine wpAnyH_take (i:=7) (v:=?_) (op_at _ 7 _ rfl) (by kernel_rfl) (by kernel_rfl) (by kernel_rfl) (fun _ _ _ h=>h) (Or.inl ⟨by rfl,?_⟩) (by assumption) ?_
  rotate_left 1
  focus (intro w hSw;go_simp;first |done |with_reducible rfl)
  (try simp only [Act.put,List.setIfInBounds_toArray,List.set_cons_zero,List.set_cons_succ])
  refine wpAnyH_take (i:=8) (v:=?_) (op_at _ 8 _ rfl) (by kernel_rfl) (by kernel_rfl) (by kernel_rfl) (fun _ _ _ h=>h) (Or.inl ⟨by rfl,?_⟩) (by assumption) ?_
  rotate_left 1
  focus (intro w hSw;go_simp;first |done |with_reducible rfl)
  (try simp only [Act.put,List.setIfInBounds_toArray,List.set_cons_zero,List.set_cons_succ])
  refine wpAnyH_ready (rs:=[4,9]) (by kernel_rfl) (by simp) ?_
  refine AllReadyH.cons (op_at _ 4 _ rfl) (fun K hK=>?_) ?_
  ·go_simp
   refine hK.out _ _ (by trivial) (fun hHeld=>?_)
   clear hK K
   (try simp only [Act.put,List.setIfInBounds_toArray,List.set_cons_zero,List.set_cons_succ])
   refine wpAnyH_ready (rs:=[9]) (by kernel_rfl) (by simp) ?_
   refine AllReadyH.cons (op_at _ 9 _ rfl) (fun K hK=>?_) AllReadyH.nil
   go_simp
   refine hK.out _ _ (by trivial) (fun hHeld=>?_)
   clear hK K
   (try simp only [Act.put,List.setIfInBounds_toArray,List.set_cons_zero,List.set_cons_succ])
   refine wpAnyH_ready (rs:=[10]) (by kernel_rfl) (by simp) ?_
   refine AllReadyH.cons (op_at _ 10 _ rfl) (fun K hK=>?_) AllReadyH.nil
   refine step_copy_splice rfl (.tmp 32) (.tmp 36) 48 48 rfl 5 Tryz.underlying48 (by kernel_rfl) _ _ _ _ _ _ rfl rfl W.heap.size 0 (List.replicate k (.int .u8 0)) 5 (copy_hg W k) (bs (xs.take k)) (bytes_hn hl'.out hkn) (bytes_hpos hr'.out (Below.alloc (Below.refl _ _) (Nat.le_refl _) _).drew hkn) (by simp [bs];omega) (bs_one _) W.heap.size _ (Below.refl _ _) (Nat.le_refl _) ?_;intro w4 hg4 hb4;have t1:w4.cell? ⟨p,1,none⟩=some (.slice (some ⟨b,off,none⟩) n cap):=keep_cell hb4 (by simpa using keep_old (Below.alloc (Below.refl _ _) (Nat.le_refl _) _).drew s1) hpl;have tf:w4.frozen? ⟨p,1,none⟩=false:=by rw [keep_frozen hb4 hpl,keep_frozen (Below.alloc (Below.refl W.heap.size W) (Nat.le_refl _) _).drew hpl];exact f1
   refine hK.out _ _ (by trivial) (fun hHeld=>?_)
   clear hK K
   (try simp only [Act.put,List.setIfInBounds_toArray,List.set_cons_zero,List.set_cons_succ])
   refine wpAnyH_ready (rs:=[11]) (by kernel_rfl) (by simp) ?_
   refine AllReadyH.cons (op_at _ 11 _ rfl) (fun K hK=>?_) AllReadyH.nil
   go_simp
   refine hK.out _ _ (by trivial) (fun hHeld=>?_)
   clear hK K
   (try simp only [Act.put,List.setIfInBounds_toArray,List.set_cons_zero,List.set_cons_succ])
   refine wpAnyH_take (i:=12) (v:=?_) (op_at _ 12 _ rfl) (by kernel_rfl) (by kernel_rfl) (by kernel_rfl) (fun _ _ _ h=>h) (Or.inl ⟨by rfl,?_⟩) (by assumption) ?_
   rotate_left 1
   focus (intro w hSw;go_simp;first |done |with_reducible rfl)
   (try simp only [Act.put,List.setIfInBounds_toArray,List.set_cons_zero,List.set_cons_succ])
   refine wpAnyH_take (i:=13) (v:=?_) (op_at _ 13 _ rfl) (by kernel_rfl) (by kernel_rfl) (by kernel_rfl) (fun _ _ _ h=>h) (Or.inl ⟨by rfl,?_⟩) (by assumption) ?_
   rotate_left 1
   focus (intro w hSw;go_simp;first |done |with_reducible rfl)
   (try simp only [Act.put,List.setIfInBounds_toArray,List.set_cons_zero,List.set_cons_succ])
   refine wpAnyH_ready (rs:=[14]) (by kernel_rfl) (by simp) ?_
   refine AllReadyH.cons (op_at _ 14 _ rfl) (fun K hK=>?_) AllReadyH.nil
   go_simp
   refine hK.out _ _ (by trivial) (fun hHeld=>?_)
   clear hK K
   (try simp only [Act.put,List.setIfInBounds_toArray,List.set_cons_zero,List.set_cons_succ])
   refine wpAnyH_done (by kernel_rfl) ?_ _
   go_wp2
   go_ret
   exact ⟨_,_,rfl,bytes_end hp'.out hr'.out hn h5.out hkn hk2 hb4 hg4.out (by simp) (Or.inr ⟨hck,rfl⟩)⟩
  refine AllReadyH.cons (op_at _ 9 _ rfl) (fun K hK=>?_) ?_
  ·go_simp
   refine hK.out _ _ (by trivial) (fun hHeld=>?_)
   clear hK K
   (try simp only [Act.put,List.setIfInBounds_toArray,List.set_cons_zero,List.set_cons_succ])
   refine wpAnyH_ready (rs:=[4,10]) (by kernel_rfl) (by simp) ?_
   refine AllReadyH.cons (op_at _ 4 _ rfl) (fun K hK=>?_) ?_
   ·go_simp
    refine hK.out _ _ (by trivial) (fun hHeld=>?_)
    clear hK K
    (try simp only [Act.put,List.setIfInBounds_toArray,List.set_cons_zero,List.set_cons_succ])
    refine wpAnyH_ready (rs:=[10]) (by kernel_rfl) (by simp) ?_
    refine AllReadyH.cons (op_at _ 10 _ rfl) (fun K hK=>?_) AllReadyH.nil
    refine step_copy_splice rfl (.tmp 32) (.tmp 36) 48 48 rfl 5 Tryz.underlying48 (by kernel_rfl) _ _ _ _ _ _ rfl rfl W.heap.size 0 (List.replicate k (.int .u8 0)) 5 (copy_hg W k) (bs (xs.take k)) (bytes_hn hl'.out hkn) (bytes_hpos hr'.out (Below.alloc (Below.refl _ _) (Nat.le_refl _) _).drew hkn) (by simp [bs];omega) (bs_one _) W.heap.size _ (Below.refl _ _) (Nat.le_refl _) ?_;intro w4 hg4 hb4;have t1:w4.cell? ⟨p,1,none⟩=some (.slice (some ⟨b,off,none⟩) n cap):=keep_cell hb4 (by simpa using keep_old (Below.alloc (Below.refl _ _) (Nat.le_refl _) _).drew s1) hpl;have tf:w4.frozen? ⟨p,1,none⟩=false:=by rw [keep_frozen hb4 hpl,keep_frozen (Below.alloc (Below.refl W.heap.size W) (Nat.le_refl _) _).drew hpl];exact f1
    refine hK.out _ _ (by trivial) (fun hHeld=>?_)
    clear hK K
    (try simp only [Act.put,List.setIfInBounds_toArray,List.set_cons_zero,List.set_cons_succ])
    refine wpAnyH_ready (rs:=[11]) (by kernel_rfl) (by simp) ?_
    refine AllReadyH.cons (op_at _ 11 _ rfl) (fun K hK=>?_) AllReadyH.nil
    go_simp
    refine hK.out _ _ (by trivial) (fun hHeld=>?_)
    clear hK K
    (try simp only [Act.put,List.setIfInBounds_toArray,List.set_cons_zero,List.set_cons_succ])
    refine wpAnyH_take (i:=12) (v:=?_) (op_at _ 12 _ rfl) (by kernel_rfl) (by kernel_rfl) (by kernel_rfl) (fun _ _ _ h=>h) (Or.inl ⟨by rfl,?_⟩) (by assumption) ?_
    rotate_left 1
    focus (intro w hSw;go_simp;first |done |with_reducible rfl)
    (try simp only [Act.put,List.setIfInBounds_toArray,List.set_cons_zero,List.set_cons_succ])
    refine wpAnyH_take (i:=13) (v:=?_) (op_at _ 13 _ rfl) (by kernel_rfl) (by kernel_rfl) (by kernel_rfl) (fun _ _ _ h=>h) (Or.inl ⟨by rfl,?_⟩) (by assumption) ?_
    rotate_left 1
    focus (intro w hSw;go_simp;first |done |with_reducible rfl)
    (try simp only [Act.put,List.setIfInBounds_toArray,List.set_cons_zero,List.set_cons_succ])
    refine wpAnyH_ready (rs:=[14]) (by kernel_rfl) (by simp) ?_
    refine AllReadyH.cons (op_at _ 14 _ rfl) (fun K hK=>?_) AllReadyH.nil
    go_simp
    refine hK.out _ _ (by trivial) (fun hHeld=>?_)
    clear hK K
    (try simp only [Act.put,List.setIfInBounds_toArray,List.set_cons_zero,List.set_cons_succ])
    refine wpAnyH_done (by kernel_rfl) ?_ _
    go_wp2
    go_ret
    exact ⟨_,_,rfl,bytes_end hp'.out hr'.out hn h5.out hkn hk2 hb4 hg4.out (by simp) (Or.inr ⟨hck,rfl⟩)⟩
   refine AllReadyH.cons (op_at _ 10 _ rfl) (fun K hK=>?_) ?_
   ·refine step_copy_splice rfl (.tmp 32) (.tmp 36) 48 48 rfl 5 Tryz.underlying48 (by kernel_rfl) _ _ _ _ _ _ rfl rfl W.heap.size 0 (List.replicate k (.int .u8 0)) 5 (copy_hg W k) (bs (xs.take k)) (bytes_hn hl'.out hkn) (bytes_hpos hr'.out (Below.alloc (Below.refl _ _) (Nat.le_refl _) _).drew hkn) (by simp [bs];omega) (bs_one _) W.heap.size _ (Below.refl _ _) (Nat.le_refl _) ?_;intro w4 hg4 hb4;have t1:w4.cell? ⟨p,1,none⟩=some (.slice (some ⟨b,off,none⟩) n cap):=keep_cell hb4 (by simpa using keep_old (Below.alloc (Below.refl _ _) (Nat.le_refl _) _).drew s1) hpl;have tf:w4.frozen? ⟨p,1,none⟩=false:=by rw [keep_frozen hb4 hpl,keep_frozen (Below.alloc (Below.refl W.heap.size W) (Nat.le_refl _) _).drew hpl];exact f1
    refine hK.out _ _ (by trivial) (fun hHeld=>?_)
    clear hK K
    (try simp only [Act.put,List.setIfInBounds_toArray,List.set_cons_zero,List.set_cons_succ])
    refine wpAnyH_ready (rs:=[4]) (by kernel_rfl) (by simp) ?_
    refine AllReadyH.cons (op_at _ 4 _ rfl) (fun K hK=>?_) AllReadyH.nil
    go_simp
    refine hK.out _ _ (by trivial) (fun hHeld=>?_)
    clear hK K
    (try simp only [Act.put,List.setIfInBounds_toArray,List.set_cons_zero,List.set_cons_succ])
    refine wpAnyH_ready (rs:=[11]) (by kernel_rfl) (by simp) ?_
    refine AllReadyH.cons (op_at _ 11 _ rfl) (fun K hK=>?_) AllReadyH.nil
    go_simp
    refine hK.out _ _ (by trivial) (fun hHeld=>?_)
    clear hK K
    (try simp only [Act.put,List.setIfInBounds_toArray,List.set_cons_zero,List.set_cons_succ])
    refine wpAnyH_take (i:=12) (v:=?_) (op_at _ 12 _ rfl) (by kernel_rfl) (by kernel_rfl) (by kernel_rfl) (fun _ _ _ h=>h) (Or.inl ⟨by rfl,?_⟩) (by assumption) ?_
    rotate_left 1
    focus (intro w hSw;go_simp;first |done |with_reducible rfl)
    (try simp only [Act.put,List.setIfInBounds_toArray,List.set_cons_zero,List.set_cons_succ])
    refine wpAnyH_take (i:=13) (v:=?_) (op_at _ 13 _ rfl) (by kernel_rfl) (by kernel_rfl) (by kernel_rfl) (fun _ _ _ h=>h) (Or.inl ⟨by rfl,?_⟩) (by assumption) ?_
    rotate_left 1
    focus (intro w hSw;go_simp;first |done |with_reducible rfl)
    (try simp only [Act.put,List.setIfInBounds_toArray,List.set_cons_zero,List.set_cons_succ])
    refine wpAnyH_ready (rs:=[14]) (by kernel_rfl) (by simp) ?_
    refine AllReadyH.cons (op_at _ 14 _ rfl) (fun K hK=>?_) AllReadyH.nil
    go_simp
    refine hK.out _ _ (by trivial) (fun hHeld=>?_)
    clear hK K
    (try simp only [Act.put,List.setIfInBounds_toArray,List.set_cons_zero,List.set_cons_succ])
    refine wpAnyH_done (by kernel_rfl) ?_ _
    go_wp2
    go_ret
    exact ⟨_,_,rfl,bytes_end hp'.out hr'.out hn h5.out hkn hk2 hb4 hg4.out (by simp) (Or.inr ⟨hck,rfl⟩)⟩
   exact AllReadyH.nil
  exact AllReadyH.nil
end Cel
namespace Cel
open Go.RowKit
variable {w:World}
theorem wpList_append_rd{ops:Array Oper}{rest:List Oper}{o:Oper}{a:Act}{Q:Exit→Act→World→Prop}(hgd:o.guard=none)(s x:Operand)
  (ho:o.op=.call { callee:=.builtin .append,args:=#[s,x],argTypes:=#[48,48] }) (B:Nat) (v:Value) (n:Nat) (xs:List Nat) (hs:a.eval s=v) (hown:w.ownsRow B 5 1 v n (bs xs))
  (ao:Option Addr) (m c:Nat) (ys:List Nat) (hx:a.eval x=.slice ao m c) (hr:Rd w ao m c ys) (hb:n+m≤140737488355328) (hB:B≤w.heap.size)
  (h:∀ v' w',w'.ownsRow B 5 1 v' (n+m) (bs (xs++ys))→Below B w w'→wpList Tryz.prog ops Q rest (a.put o.dst v') w'):wpList Tryz.prog ops Q (o::rest) a w:=by
 obtain ⟨i5,hi5,hz0,hz1,hz2⟩:=info_parts Tryz.info5
 obtain ⟨hl,hc,hno,hat⟩:=hr
 cases ao with
 | none=>
  obtain ⟨rfl,rfl⟩:=hno rfl
  obtain rfl:ys = []:=List.eq_nil_of_length_eq_zero hl
  refine wpList_append_own_none hgd s x 48 ho B 5 i5 1 Tryz.underlying48 hi5 v n (bs xs) hs hown hx ?_
  exact h v w (by simpa using hown) (Below.refl _ _)
 | some ad=>
  refine wpList_append_own w hgd s x 48 ho B 5 i5 (.int .u8 0) 1 1 Tryz.underlying48 hi5 hz0 hz1 hz2 rfl (by decide) v n (bs xs) hs hown ad m c (bs ys) hx (by simp [bs,hl]) ?_ (bs_one ys) (by unfold maxLen;omega) (by omega) hB ?_
  ·intro j u hu
   obtain ⟨hj,rfl⟩:=bs_get' ys j u hu
   obtain ⟨b,off,e,hcell⟩:=hat (by omega)
   simp only [Option.some.injEq]at e
   subst e
   rw [Addr.add_lit]
   exact hcell j (by omega)
  ·intro v' w' h1 h2 _
   refine h v' w' (by rw [bs_append];exact h1) ((Below.refl B w).grown h2 hB fun k hk=>(hown.lt k hk).1)
theorem rd_owned{B n:Nat}{v:Value}{xs:List Nat}(h:w.ownsRow B 5 1 v n (bs xs)):∃ ao cap,v=.slice ao n cap∧Rd w ao n cap xs:=by
 rcases h.2 with ⟨rfl,rfl⟩ | ⟨g,cap,cur,rfl,_⟩
 ·obtain rfl:xs = []:=by have:=h.1;simp [bs]at this;exact this
  exact ⟨none,0,rfl,Rd.nil w⟩
 ·exact ⟨_,_,rfl,rd_own h⟩
end Cel
namespace Cel
open Go.RowKit
end Cel
namespace Cel
open Go.RowKit
end Cel
namespace Cel
open Go.RowKit
theorem hd_bytes(A m:Nat):∀ x∈hd A m,x<256:=by
 induction m with
 | zero=>intro x h;simp [hd]at h
 | succ m ih=>
  intro x h
  simp only [hd,List.mem_cons]at h
  rcases h with rfl |h
  ·omega
  ·exact ih x h
theorem varN_bytes(n:Nat):∀ x∈varN n,x<256:=by
 intro x h
 simp only [varN,List.mem_append,List.mem_singleton]at h
 rcases h with h |rfl
 ·exact hd_bytes _ _ x h
 ·have hl:lastBits n=7∨lastBits n=8:=by unfold lastBits;split<;>simp
  rcases hl with h |h<;>rw [h]<;>simp<;>omega
end Cel
namespace Cel
open Go.RowKit
theorem asm_hd(A:Nat)(j:Nat):∀ (acc m:Nat) (t:List Nat),j≤m→asm acc m (hd A j++t)=asm (acc*2 ^ (7*j)+A % 2 ^ (7*j)) (m - j) t:=by
 induction j with
 | zero=>intro acc m t _;simp [hd,Nat.mod_one]
 | succ j ih=>
  intro acc m t hm
  obtain ⟨m',rfl⟩:∃ m',m=m'+1:=⟨m - 1,by omega⟩
  simp only [hd,List.cons_append,asm]
  rw [if_neg (by omega),Nat.add_sub_cancel,ih _ m' t (by omega),show m'+1 - (j+1)=m' - j by omega]
  congr 1
  rw [show 7*(j+1)=7*j+7 by omega,Nat.pow_add,show (2:Nat) ^ 7=128 from rfl,Nat.mod_mul]
  generalize 2 ^ (7*j)=P
  rw [Nat.add_mul,show acc*(P*128)=acc*128*P by rw [Nat.mul_assoc acc 128 P,Nat.mul_comm P]]
  rw [Nat.mul_comm P]
  omega
theorem asm_var(v:Nat)(hv:v<18446744073709551616)(r:List Nat):asm 0 8 (varN v++r)=(v,szN v):=by
 have hs:=szN_le v
 by_cases h9:szN v=9
 ·have hl:lastBits v=8:=by unfold lastBits;rw [if_pos h9]
  simp only [varN,hl,h9,List.append_assoc]
  rw [asm_hd _ 8 0 8 _ (Nat.le_refl _)]
  simp [asm]
  omega
 ·have hl:lastBits v=7:=by unfold lastBits;rw [if_neg h9]
  have hb:=szN_ge v (szN v) (Nat.le_refl _) (by omega)
  obtain ⟨m,hm⟩:∃ m,szN v=m+1:=⟨szN v - 1,by omega⟩
  have hA:v/128<2 ^ (7*m):=by
   rw [hm,show 7*(m+1)=7+7*m by omega,Nat.pow_add]at hb
   exact Nat.div_lt_of_lt_mul hb
  simp only [varN,hl,hm,List.append_assoc,Nat.add_sub_cancel]
  rw [asm_hd _ m 0 8 _ (by omega),show 8 - m=(7 - m)+1 by omega]
  simp only [List.cons_append,List.nil_append,asm]
  rw [if_pos (by simp;omega)]
  simp only [Nat.reducePow,Nat.zero_mul,Nat.zero_add]
  rw [Nat.mod_eq_of_lt hA]
  congr 1
  ·omega
  ·omega
theorem putN_length(v s:Nat)(l:Bool):(putN v s l).length=s:=up_length _ _ _
theorem up_bytes(F:Nat→Nat)(hF:∀ i,F i<256)(i k:Nat):∀ x∈up F i k,x<256:=by
 induction k generalizing i with
 | zero=>intro x h;simp [up]at h
 | succ k ih=>
  intro x h
  simp only [up,List.mem_cons]at h
  rcases h with rfl |h
  ·exact hF i
  ·exact ih _ x h
theorem putN_bytes(v s:Nat)(l:Bool):∀ x∈putN v s l,x<256:=up_bytes _ (fun _=>by omega) _ _
end Cel
end Go.Proofs.YtenajbfeojljdaaGreatDoor
