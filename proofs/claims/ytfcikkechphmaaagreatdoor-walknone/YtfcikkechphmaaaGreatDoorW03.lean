/- What (*Source).Bytes does with a source that is in order; no statement of the seat is proved here. -/
import Derived.Test.YtfcikkechphmaaaGreatDoorW02
import Derived.Laws.CopyOwn
import Derived.Deep.DeepCutAuto
set_option maxHeartbeats 16000000
set_option maxRecDepth 20000
namespace Go.Proofs.YtfcikkechphmaaaGreatDoor
namespace Cel
open Go.RowKit
theorem op_at(l:List Oper)(i:Nat)(o:Oper)(h:l[i]? = some o):l.toArray[i]? = some o:=by simpa using h
variable {xs:List Nat} {b off n cap:Nat} {W:World}
theorem Rd.from_(h:Rd W (some ⟨b,off,none⟩) n cap xs)(k:Nat)(hk:k≤n) :
  (cap=k→Rd W (some ⟨b,off,none⟩) (n - k) (cap - k) (xs.drop k))∧(¬cap=k→Rd W (some ⟨b,off+k,none⟩) (n - k) (cap - k) (xs.drop k)):=by
 obtain ⟨hl,hc,hno,hat⟩:=h
 constructor
 ·intro h1
  refine ⟨by simp;omega,by omega,fun h=>(by cases h),fun hp=>?_⟩
  omega
 ·intro h1
  refine ⟨by simp;omega,by omega,fun h=>(by cases h),fun hp=>⟨b,off+k,rfl,fun t ht=>?_⟩⟩
  obtain ⟨b',off',e,hcell⟩:=hat (by omega)
  simp only [Option.some.injEq,Addr.mk.injEq,and_true]at e
  obtain ⟨rfl,rfl⟩:=e
  have:=hcell (k+t) (by omega)
  rw [show off+k+t=off+(k+t) by omega,this]
  simp [List.getD]
variable {k:Nat}
theorem bytes_hpos{W1:World}{g:Nat}(h:Rd W (some ⟨b,off,none⟩) n cap xs)(hb:Below W.heap.size W W1)(hk:k≤n):0<(bs (xs.take k)).length→some (⟨g,0,none⟩:Addr)=some ⟨g,0,none⟩∧∃ ad,some (⟨b,off,none⟩:Addr)=some ad∧∀ j v,(bs (xs.take k))[j]? = some v→W1.cell? (ad.add j)=some v:=by
 intro hp
 refine ⟨rfl,_,rfl,fun j v hv=>?_⟩
 obtain ⟨hj,rfl⟩:=bs_get' _ j v hv
 obtain ⟨hl,_,_,hat⟩:=h.keep hb
 simp at hj
 obtain ⟨b',off',e,hcell⟩:=hat (by omega)
 simp only [Option.some.injEq,Addr.mk.injEq,and_true]at e
 obtain ⟨rfl,rfl⟩:=e
 rw [Addr.add_lit,hcell j (by omega)]
 have hj2:j<k:=by omega
 simp [List.getD,hj2]
theorem bytes_hn(hl:xs.length=n)(hk:k≤n):(bs (xs.take k)).length=Nat.min n k:=by
 rw [bs_length,List.length_take,hl]
 show min k n=min n k
 omega
theorem bytes_end{w4:World}{p:Nat}{v:Value}{ao':Addr}(hp:W.heap[p]? = some (.cells #[.bool true,.slice (some ⟨b,off,none⟩) n cap,.int .i64 0] 366 (0,0)))
  (hr:Rd W (some ⟨b,off,none⟩) n cap xs) (hn:n≤9223372036854775807) (h5:T5 W b) (hk:k≤n) (hk2:k≤1000) (hb4:Below W.heap.size (W.alloc (.cells (Array.replicate k (.int .u8 0)) 5)).drew w4)
  (hg4:w4.heap[W.heap.size]? = some (.cells (splice (List.replicate k (.int .u8 0)) 0 (bs (xs.take k))).toArray 5 (0,0)))
  (hv:v=.slice (some ao') (n - k) (cap - k)) (ha:(cap=k∧ao'=⟨b,off,none⟩)∨(¬cap=k∧ao'=⟨b,off+k,none⟩)) :
  Rd (w4.setCell ⟨p,1,none⟩ v) (some ⟨W.heap.size,0,none⟩) k k (xs.take k)∧SrcAt (w4.setCell ⟨p,1,none⟩ v) p (xs.drop k)∧W.grownBy (w4.setCell ⟨p,1,none⟩ v) (some p)∧(∀ b' o',some (⟨W.heap.size,0,none⟩:Addr)=some ⟨b',o',none⟩→T5 (w4.setCell ⟨p,1,none⟩ v) b')∧(∀ b' o',some (⟨W.heap.size,0,none⟩:Addr)=some ⟨b',o',none⟩→W.heap.size≤b'):=by
 have hne:=t5_ne hp h5
 have hpl:=lt_of_block hp
 have hl:=hr.1
 have hb:Below W.heap.size W w4:=(Below.alloc (Below.refl _ _) (Nat.le_refl _) _).drew.trans hb4
 have hp4:w4.heap[p]? = some (.cells #[.bool true,.slice (some ⟨b,off,none⟩) n cap,.int .i64 0] 366 (0,0)):=by rw [hb.block p hpl];exact hp
 have hlt:(xs.take k).length=k:=by simp;omega
 have ho:=own_of_row (B:=W.heap.size) (n:=k) (cap:=k) (xs:=xs.take k) (Nat.le_refl _) hg4 (by rw [length_splice _ _ _ (by simp [bs];omega)];simp) (by omega) (by simpa using splice_zero k 0 (xs.take k) hlt) hlt (Nat.le_refl _)
 refine ⟨rd_set (rd_own ho) (fun _ _ e=>by simp only [Option.some.injEq,Addr.mk.injEq,and_true]at e;omega),?_,grow_trans (grow_below hb) (grow_set _ _ _ _),fun b' o' e=>by cases e;exact (show T5 w4 W.heap.size from ⟨_,_,hg4⟩).five (five_set hp4 (by decide)),fun b' o' e=>by cases e;exact Nat.le_refl _⟩
 have hf:=(hr.keep hb).from_ k hk
 subst hv
 rcases ha with ⟨h1,rfl⟩ | ⟨h1,rfl⟩
 ·exact ⟨_,_,_,_,src_set hp4,rd_set (hf.1 h1) (fun _ _ e=>by simp only [Option.some.injEq,Addr.mk.injEq,and_true]at e;rw [←e.1];exact hne),by omega,(h5.keep hb).five (five_set hp4 (by decide))⟩
 ·exact ⟨_,_,_,_,src_set hp4,rd_set (hf.2 h1) (fun _ _ e=>by simp only [Option.some.injEq,Addr.mk.injEq,and_true]at e;rw [←e.1];exact hne),by omega,(h5.keep hb).five (five_set hp4 (by decide))⟩
theorem bytes_ok(p:Nat)(xs:List Nat)(k:Nat)(W:World)(h:SrcAt W p xs)(hk:k≤xs.length)(hk2:k≤1000) :
  Calls Tryz.prog 237 #[.pointer (some ⟨p,0,none⟩),.int .i64 (k:Int)] W fun e w'=>∃ ao c,e=.returned (.slice ao k c)∧Rd w' ao k c (xs.take k)∧SrcAt w' p (xs.drop k)∧W.grownBy w' (some p)∧(∀ b o,ao=some ⟨b,o,none⟩→T5 w' b)∧(∀ b o,ao=some ⟨b,o,none⟩→W.heap.size≤b):=by
 have c26:=hid (err_ok p xs W h)
 have hmk:=make_any k k (Nat.le_refl _) (by omega)
 obtain ⟨b,off,n,cap,hp,hr,hn,h5⟩:=h
 replace h5:=hid h5
 have hne:=t5_ne hp h5.out
 obtain ⟨s0,s1,s2,f1,f2⟩:=src_cells hp
 have hpl:=lt_of_block hp
 have hl:=hr.1
 have hcap:=hr.2.1
 have hr':=hid hr
 have hp':=hid hp
 have hkn:k≤n:=by omega
 have hkc:k≤cap:=by omega
 have hk0:¬(n:Int)<(k:Int):=by omega
 have hk1:¬(k:Int)<0:=by omega
 have hkc2:(k:Int)≤(cap:Int):=by omega
 have hkn2:(k:Int)≤(n:Int):=by omega
 clear hp hr hk hl
 have hl':=hid hr'.out.1
 have hcs:(bs (xs.take k)).length=k:=by rw [bs_length];have:=hl'.out;simp;omega
 by_cases hck:cap=k
 ·have hnk:n=k:=by omega
  subst hck
  obtain rfl:=hnk
  go_enter Tryz.func237,Tryz.ntmps237
  go_upto_region 10 with (go_at_call 242;refine c26.out.mono ?_;rintro e w1 ⟨rfl,rfl⟩)
  refine wp_region_held_drew (S:=fun _=>True) (by kernel_rfl) (by trivial) (fun hHeld=>?_)
  refine wpAnyH_take (i:=0) (v:=?_) (op_at _ 0 _ rfl) (by kernel_rfl) (by kernel_rfl) (by kernel_rfl) (fun _ _ _ h=>h) (Or.inl ⟨by rfl,?_⟩) (by assumption) ?_
  rotate_left 1
  focus (intro w hSw;go_simp;first |done |with_reducible rfl)
  (try simp only [Act.put,List.setIfInBounds_toArray,List.set_cons_zero,List.set_cons_succ])
  refine wpAnyH_take (i:=1) (v:=?_) (op_at _ 1 _ rfl) (by kernel_rfl) (by kernel_rfl) (by kernel_rfl) (fun _ _ _ h=>h) (Or.inl ⟨by rfl,?_⟩) (by assumption) ?_
  rotate_left 1
  focus (intro w hSw;go_simp;first |done |with_reducible rfl)
  (try simp only [Act.put,List.setIfInBounds_toArray,List.set_cons_zero,List.set_cons_succ])
  refine wpAnyH_take (i:=2) (v:=?_) (op_at _ 2 _ rfl) (by kernel_rfl) (by kernel_rfl) (by kernel_rfl) (fun _ _ _ h=>h) (Or.inl ⟨by rfl,?_⟩) (by assumption) ?_
  rotate_left 1
  focus (intro w hSw;go_simp;first |done |with_reducible rfl)
  (try simp only [Act.put,List.setIfInBounds_toArray,List.set_cons_zero,List.set_cons_succ])
  refine wpAnyH_take (i:=3) (v:=?_) (op_at _ 3 _ rfl) (by kernel_rfl) (by kernel_rfl) (by kernel_rfl) (fun _ _ _ h=>h) (Or.inl ⟨by rfl,?_⟩) (by assumption) ?_
  rotate_left 1
  focus (intro w hSw;go_simp;first |done |with_reducible rfl)
  (try simp only [Act.put,List.setIfInBounds_toArray,List.set_cons_zero,List.set_cons_succ])
  refine wpAnyH_take (i:=5) (v:=?_) (op_at _ 5 _ rfl) (by kernel_rfl) (by kernel_rfl) (by kernel_rfl) (fun _ _ _ h=>h) (Or.inl ⟨by rfl,?_⟩) (by assumption) ?_
  rotate_left 1
  focus (intro w hSw;go_simp;first |done |with_reducible rfl)
  (try simp only [Act.put,List.setIfInBounds_toArray,List.set_cons_zero,List.set_cons_succ])
  refine wpAnyH_take (i:=6) (v:=?_) (op_at _ 6 _ rfl) (by kernel_rfl) (by kernel_rfl) (by kernel_rfl) (fun _ _ _ h=>h) (Or.inl ⟨by rfl,?_⟩) (by assumption) ?_
  rotate_left 1
  focus (intro w hSw;go_simp;first |done |with_reducible rfl)
  (try simp only [Act.put,List.setIfInBounds_toArray,List.set_cons_zero,List.set_cons_succ])
  refine wpAnyH_take (i:=7) (v:=?_) (op_at _ 7 _ rfl) (by kernel_rfl) (by kernel_rfl) (by kernel_rfl) (fun _ _ _ h=>h) (Or.inl ⟨by rfl,?_⟩) (by assumption) ?_
  rotate_left 1
  focus (intro w hSw;go_simp;first |done |with_reducible rfl)
  (try simp only [Act.put,List.setIfInBounds_toArray,List.set_cons_zero,List.set_cons_succ])
  refine wpAnyH_take (i:=8) (v:=?_) (op_at _ 8 _ rfl) (by kernel_rfl) (by kernel_rfl) (by kernel_rfl) (fun _ _ _ h=>h) (Or.inl ⟨by rfl,?_⟩) (by assumption) ?_
  rotate_left 1
  focus (intro w hSw;go_simp;first |done |with_reducible rfl)
  (try simp only [Act.put,List.setIfInBounds_toArray,List.set_cons_zero,List.set_cons_succ])
  refine wpAnyH_ready (rs:=[4,9]) (by kernel_rfl) (by simp) ?_
  refine AllReadyH.cons (op_at _ 4 _ rfl) (fun K hK=>?_) ?_
  ·go_simp
   refine hK.out _ _ (by trivial) (fun hHeld=>?_)
   clear hK K
   (try simp only [Act.put,List.setIfInBounds_toArray,List.set_cons_zero,List.set_cons_succ])
   refine wpAnyH_ready (rs:=[9]) (by kernel_rfl) (by simp) ?_
   refine AllReadyH.cons (op_at _ 9 _ rfl) (fun K hK=>?_) AllReadyH.nil
   go_simp
   refine hK.out _ _ (by trivial) (fun hHeld=>?_)
   clear hK K
   (try simp only [Act.put,List.setIfInBounds_toArray,List.set_cons_zero,List.set_cons_succ])
   refine wpAnyH_ready (rs:=[10]) (by kernel_rfl) (by simp) ?_
   refine AllReadyH.cons (op_at _ 10 _ rfl) (fun K hK=>?_) AllReadyH.nil
   refine step_copy_splice rfl (.tmp 32) (.tmp 36) 48 48 rfl 5 Tryz.underlying48 (by kernel_rfl) _ _ _ _ _ _ rfl rfl W.heap.size 0 (List.replicate n (.int .u8 0)) 5 (copy_hg W n) (bs (xs.take n)) (bytes_hn hl'.out hkn) (bytes_hpos hr'.out (Below.alloc (Below.refl _ _) (Nat.le_refl _) _).drew hkn) (by simp [bs];omega) (bs_one _) W.heap.size _ (Below.refl _ _) (Nat.le_refl _) ?_;intro w4 hg4 hb4;have t1:w4.cell? ⟨p,1,none⟩=some (.slice (some ⟨b,off,none⟩) n n):=keep_cell hb4 (by simpa using keep_old (Below.alloc (Below.refl _ _) (Nat.le_refl _) _).drew s1) hpl;have tf:w4.frozen? ⟨p,1,none⟩=false:=by rw [keep_frozen hb4 hpl,keep_frozen (Below.alloc (Below.refl W.heap.size W) (Nat.le_refl _) _).drew hpl];exact f1
   refine hK.out _ _ (by trivial) (fun hHeld=>?_)
   clear hK K
   (try simp only [Act.put,List.setIfInBounds_toArray,List.set_cons_zero,List.set_cons_succ])
   refine wpAnyH_ready (rs:=[11]) (by kernel_rfl) (by simp) ?_
   refine AllReadyH.cons (op_at _ 11 _ rfl) (fun K hK=>?_) AllReadyH.nil
   go_simp
   refine hK.out _ _ (by trivial) (fun hHeld=>?_)
   clear hK K
   (try simp only [Act.put,List.setIfInBounds_toArray,List.set_cons_zero,List.set_cons_succ])
   refine wpAnyH_take (i:=12) (v:=?_) (op_at _ 12 _ rfl) (by kernel_rfl) (by kernel_rfl) (by kernel_rfl) (fun _ _ _ h=>h) (Or.inl ⟨by rfl,?_⟩) (by assumption) ?_
   rotate_left 1
   focus (intro w hSw;go_simp;first |done |with_reducible rfl)
   (try simp only [Act.put,List.setIfInBounds_toArray,List.set_cons_zero,List.set_cons_succ])
   refine wpAnyH_take (i:=13) (v:=?_) (op_at _ 13 _ rfl) (by kernel_rfl) (by kernel_rfl) (by kernel_rfl) (fun _ _ _ h=>h) (Or.inl ⟨by rfl,?_⟩) (by assumption) ?_
   rotate_left 1
   focus (intro w hSw;go_simp;first |done |with_reducible rfl)
   (try simp only [Act.put,List.setIfInBounds_toArray,List.set_cons_zero,List.set_cons_succ])
   refine wpAnyH_ready (rs:=[14]) (by kernel_rfl) (by simp) ?_
   refine AllReadyH.cons (op_at _ 14 _ rfl) (fun K hK=>?_) AllReadyH.nil
   go_simp
   refine hK.out _ _ (by trivial) (fun hHeld=>?_)
   clear hK K
   (try simp only [Act.put,List.setIfInBounds_toArray,List.set_cons_zero,List.set_cons_succ])
   refine wpAnyH_done (by kernel_rfl) ?_ _
   go_wp2
   go_ret
   exact ⟨_,_,rfl,bytes_end hp'.out hr'.out hn h5.out hkn hk2 hb4 hg4.out (by simp) (Or.inl ⟨rfl,rfl⟩)⟩
  refine AllReadyH.cons (op_at _ 9 _ rfl) (fun K hK=>?_) ?_
  ·go_simp
   refine hK.out _ _ (by trivial) (fun hHeld=>?_)
   clear hK K
   (try simp only [Act.put,List.setIfInBounds_toArray,List.set_cons_zero,List.set_cons_succ])
   refine wpAnyH_ready (rs:=[4,10]) (by kernel_rfl) (by simp) ?_
   refine AllReadyH.cons (op_at _ 4 _ rfl) (fun K hK=>?_) ?_
   ·go_simp
    refine hK.out _ _ (by trivial) (fun hHeld=>?_)
    clear hK K
    (try simp only [Act.put,List.setIfInBounds_toArray,List.set_cons_zero,List.set_cons_succ])
    refine wpAnyH_ready (rs:=[10]) (by kernel_rfl) (by simp) ?_
    refine AllReadyH.cons (op_at _ 10 _ rfl) (fun K hK=>?_) AllReadyH.nil
    refine step_copy_splice rfl (.tmp 32) (.tmp 36) 48 48 rfl 5 Tryz.underlying48 (by kernel_rfl) _ _ _ _ _ _ rfl rfl W.heap.size 0 (List.replicate n (.int .u8 0)) 5 (copy_hg W n) (bs (xs.take n)) (bytes_hn hl'.out hkn) (bytes_hpos hr'.out (Below.alloc (Below.refl _ _) (Nat.le_refl _) _).drew hkn) (by simp [bs];omega) (bs_one _) W.heap.size _ (Below.refl _ _) (Nat.le_refl _) ?_;intro w4 hg4 hb4;have t1:w4.cell? ⟨p,1,none⟩=some (.slice (some ⟨b,off,none⟩) n n):=keep_cell hb4 (by simpa using keep_old (Below.alloc (Below.refl _ _) (Nat.le_refl _) _).drew s1) hpl;have tf:w4.frozen? ⟨p,1,none⟩=false:=by rw [keep_frozen hb4 hpl,keep_frozen (Below.alloc (Below.refl W.heap.size W) (Nat.le_refl _) _).drew hpl];exact f1
    refine hK.out _ _ (by trivial) (fun hHeld=>?_)
    clear hK K
    (try simp only [Act.put,List.setIfInBounds_toArray,List.set_cons_zero,List.set_cons_succ])
    refine wpAnyH_ready (rs:=[11]) (by kernel_rfl) (by simp) ?_
    refine AllReadyH.cons (op_at _ 11 _ rfl) (fun K hK=>?_) AllReadyH.nil
    go_simp
    refine hK.out _ _ (by trivial) (fun hHeld=>?_)
    clear hK K
    (try simp only [Act.put,List.setIfInBounds_toArray,List.set_cons_zero,List.set_cons_succ])
    refine wpAnyH_take (i:=12) (v:=?_) (op_at _ 12 _ rfl) (by kernel_rfl) (by kernel_rfl) (by kernel_rfl) (fun _ _ _ h=>h) (Or.inl ⟨by rfl,?_⟩) (by assumption) ?_
    rotate_left 1
    focus (intro w hSw;go_simp;first |done |with_reducible rfl)
    (try simp only [Act.put,List.setIfInBounds_toArray,List.set_cons_zero,List.set_cons_succ])
    refine wpAnyH_take (i:=13) (v:=?_) (op_at _ 13 _ rfl) (by kernel_rfl) (by kernel_rfl) (by kernel_rfl) (fun _ _ _ h=>h) (Or.inl ⟨by rfl,?_⟩) (by assumption) ?_
    rotate_left 1
    focus (intro w hSw;go_simp;first |done |with_reducible rfl)
    (try simp only [Act.put,List.setIfInBounds_toArray,List.set_cons_zero,List.set_cons_succ])
    refine wpAnyH_ready (rs:=[14]) (by kernel_rfl) (by simp) ?_
    refine AllReadyH.cons (op_at _ 14 _ rfl) (fun K hK=>?_) AllReadyH.nil
    go_simp
    refine hK.out _ _ (by trivial) (fun hHeld=>?_)
    clear hK K
    (try simp only [Act.put,List.setIfInBounds_toArray,List.set_cons_zero,List.set_cons_succ])
    refine wpAnyH_done (by kernel_rfl) ?_ _
    go_wp2
    go_ret
    exact ⟨_,_,rfl,bytes_end hp'.out hr'.out hn h5.out hkn hk2 hb4 hg4.out (by simp) (Or.inl ⟨rfl,rfl⟩)⟩
   refine AllReadyH.cons (op_at _ 10 _ rfl) (fun K hK=>?_) ?_
   ·refine step_copy_splice rfl (.tmp 32) (.tmp 36) 48 48 rfl 5 Tryz.underlying48 (by kernel_rfl) _ _ _ _ _ _ rfl rfl W.heap.size 0 (List.replicate n (.int .u8 0)) 5 (copy_hg W n) (bs (xs.take n)) (bytes_hn hl'.out hkn) (bytes_hpos hr'.out (Below.alloc (Below.refl _ _) (Nat.le_refl _) _).drew hkn) (by simp [bs];omega) (bs_one _) W.heap.size _ (Below.refl _ _) (Nat.le_refl _) ?_;intro w4 hg4 hb4;have t1:w4.cell? ⟨p,1,none⟩=some (.slice (some ⟨b,off,none⟩) n n):=keep_cell hb4 (by simpa using keep_old (Below.alloc (Below.refl _ _) (Nat.le_refl _) _).drew s1) hpl;have tf:w4.frozen? ⟨p,1,none⟩=false:=by rw [keep_frozen hb4 hpl,keep_frozen (Below.alloc (Below.refl W.heap.size W) (Nat.le_refl _) _).drew hpl];exact f1
    refine hK.out _ _ (by trivial) (fun hHeld=>?_)
    clear hK K
    (try simp only [Act.put,List.setIfInBounds_toArray,List.set_cons_zero,List.set_cons_succ])
    refine wpAnyH_ready (rs:=[4]) (by kernel_rfl) (by simp) ?_
    refine AllReadyH.cons (op_at _ 4 _ rfl) (fun K hK=>?_) AllReadyH.nil
    go_simp
    refine hK.out _ _ (by trivial) (fun hHeld=>?_)
    clear hK K
    (try simp only [Act.put,List.setIfInBounds_toArray,List.set_cons_zero,List.set_cons_succ])
    refine wpAnyH_ready (rs:=[11]) (by kernel_rfl) (by simp) ?_
    refine AllReadyH.cons (op_at _ 11 _ rfl) (fun K hK=>?_) AllReadyH.nil
    go_simp
    refine hK.out _ _ (by trivial) (fun hHeld=>?_)
    clear hK K
    (try simp only [Act.put,List.setIfInBounds_toArray,List.set_cons_zero,List.set_cons_succ])
    refine wpAnyH_take (i:=12) (v:=?_) (op_at _ 12 _ rfl) (by kernel_rfl) (by kernel_rfl) (by kernel_rfl) (fun _ _ _ h=>h) (Or.inl ⟨by rfl,?_⟩) (by assumption) ?_
    rotate_left 1
    focus (intro w hSw;go_simp;first |done |with_reducible rfl)
    (try simp only [Act.put,List.setIfInBounds_toArray,List.set_cons_zero,List.set_cons_succ])
    refine wpAnyH_take (i:=13) (v:=?_) (op_at _ 13 _ rfl) (by kernel_rfl) (by kernel_rfl) (by kernel_rfl) (fun _ _ _ h=>h) (Or.inl ⟨by rfl,?_⟩) (by assumption) ?_
    rotate_left 1
    focus (intro w hSw;go_simp;first |done |with_reducible rfl)
    (try simp only [Act.put,List.setIfInBounds_toArray,List.set_cons_zero,List.set_cons_succ])
    refine wpAnyH_ready (rs:=[14]) (by kernel_rfl) (by simp) ?_
    refine AllReadyH.cons (op_at _ 14 _ rfl) (fun K hK=>?_) AllReadyH.nil
    go_simp
    refine hK.out _ _ (by trivial) (fun hHeld=>?_)
    clear hK K
    (try simp only [Act.put,List.setIfInBounds_toArray,List.set_cons_zero,List.set_cons_succ])
    refine wpAnyH_done (by kernel_rfl) ?_ _
    go_wp2
    go_ret
    exact ⟨_,_,rfl,bytes_end hp'.out hr'.out hn h5.out hkn hk2 hb4 hg4.out (by simp) (Or.inl ⟨rfl,rfl⟩)⟩
   exact AllReadyH.nil
  exact AllReadyH.nil
 ·have hck':¬k=cap:=fun e=>hck e.symm
  go_enter Tryz.func237,Tryz.ntmps237
  go_upto_region 10 with (go_at_call 242;refine c26.out.mono ?_;rintro e w1 ⟨rfl,rfl⟩)
  refine wp_region_held_drew (S:=fun _=>True) (by kernel_rfl) (by trivial) (fun hHeld=>?_)
  refine wpAnyH_take (i:=0) (v:=?_) (op_at _ 0 _ rfl) (by kernel_rfl) (by kernel_rfl) (by kernel_rfl) (fun _ _ _ h=>h) (Or.inl ⟨by rfl,?_⟩) (by assumption) ?_
  rotate_left 1
  focus (intro w hSw;go_simp;first |done |with_reducible rfl)
  (try simp only [Act.put,List.setIfInBounds_toArray,List.set_cons_zero,List.set_cons_succ])
  refine wpAnyH_take (i:=1) (v:=?_) (op_at _ 1 _ rfl) (by kernel_rfl) (by kernel_rfl) (by kernel_rfl) (fun _ _ _ h=>h) (Or.inl ⟨by rfl,?_⟩) (by assumption) ?_
  rotate_left 1
  focus (intro w hSw;go_simp;first |done |with_reducible rfl)
  (try simp only [Act.put,List.setIfInBounds_toArray,List.set_cons_zero,List.set_cons_succ])
  refine wpAnyH_take (i:=2) (v:=?_) (op_at _ 2 _ rfl) (by kernel_rfl) (by kernel_rfl) (by kernel_rfl) (fun _ _ _ h=>h) (Or.inl ⟨by rfl,?_⟩) (by assumption) ?_
  rotate_left 1
  focus (intro w hSw;go_simp;first |done |with_reducible rfl)
  (try simp only [Act.put,List.setIfInBounds_toArray,List.set_cons_zero,List.set_cons_succ])
  refine wpAnyH_take (i:=3) (v:=?_) (op_at _ 3 _ rfl) (by kernel_rfl) (by kernel_rfl) (by kernel_rfl) (fun _ _ _ h=>h) (Or.inl ⟨by rfl,?_⟩) (by assumption) ?_
  rotate_left 1
  focus (intro w hSw;go_simp;first |done |with_reducible rfl)
  (try simp only [Act.put,List.setIfInBounds_toArray,List.set_cons_zero,List.set_cons_succ])
  refine wpAnyH_take (i:=5) (v:=?_) (op_at _ 5 _ rfl) (by kernel_rfl) (by kernel_rfl) (by kernel_rfl) (fun _ _ _ h=>h) (Or.inl ⟨by rfl,?_⟩) (by assumption) ?_
  rotate_left 1
  focus (intro w hSw;go_simp;first |done |with_reducible rfl)
  (try simp only [Act.put,List.setIfInBounds_toArray,List.set_cons_zero,List.set_cons_succ])
  refine wpAnyH_take (i:=6) (v:=?_) (op_at _ 6 _ rfl) (by kernel_rfl) (by kernel_rfl) (by kernel_rfl) (fun _ _ _ h=>h) (Or.inl ⟨by rfl,?_⟩) (by assumption) ?_
  rotate_left 1
  focus (intro w hSw;go_simp;first |done |with_reducible rfl)
  (try simp only [Act.put,List.setIfInBounds_toArray,List.set_cons_zero,List.set_cons_succ])
  refine wpAnyH_take (i:=7) (v:=?_) (op_at _ 7 _ rfl) (by kernel_rfl) (by kernel_rfl) (by kernel_rfl) (fun _ _ _ h=>h) (Or.inl ⟨by rfl,?_⟩) (by assumption) ?_
  rotate_left 1
  focus (intro w hSw;go_simp;first |done |with_reducible rfl)
  (try simp only [Act.put,List.setIfInBounds_toArray,List.set_cons_zero,List.set_cons_succ])
  refine wpAnyH_take (i:=8) (v:=?_) (op_at _ 8 _ rfl) (by kernel_rfl) (by kernel_rfl) (by kernel_rfl) (fun _ _ _ h=>h) (Or.inl ⟨by rfl,?_⟩) (by assumption) ?_
  rotate_left 1
  focus (intro w hSw;go_simp;first |done |with_reducible rfl)
  (try simp only [Act.put,List.setIfInBounds_toArray,List.set_cons_zero,List.set_cons_succ])
  refine wpAnyH_ready (rs:=[4,9]) (by kernel_rfl) (by simp) ?_
  refine AllReadyH.cons (op_at _ 4 _ rfl) (fun K hK=>?_) ?_
  ·go_simp
   refine hK.out _ _ (by trivial) (fun hHeld=>?_)
   clear hK K
   (try simp only [Act.put,List.setIfInBounds_toArray,List.set_cons_zero,List.set_cons_succ])
   refine wpAnyH_ready (rs:=[9]) (by kernel_rfl) (by simp) ?_
   refine AllReadyH.cons (op_at _ 9 _ rfl) (fun K hK=>?_) AllReadyH.nil
   go_simp
   refine hK.out _ _ (by trivial) (fun hHeld=>?_)
   clear hK K
   (try simp only [Act.put,List.setIfInBounds_toArray,List.set_cons_zero,List.set_cons_succ])
   refine wpAnyH_ready (rs:=[10]) (by kernel_rfl) (by simp) ?_
   refine AllReadyH.cons (op_at _ 10 _ rfl) (fun K hK=>?_) AllReadyH.nil
   refine step_copy_splice rfl (.tmp 32) (.tmp 36) 48 48 rfl 5 Tryz.underlying48 (by kernel_rfl) _ _ _ _ _ _ rfl rfl W.heap.size 0 (List.replicate k (.int .u8 0)) 5 (copy_hg W k) (bs (xs.take k)) (bytes_hn hl'.out hkn) (bytes_hpos hr'.out (Below.alloc (Below.refl _ _) (Nat.le_refl _) _).drew hkn) (by simp [bs];omega) (bs_one _) W.heap.size _ (Below.refl _ _) (Nat.le_refl _) ?_;intro w4 hg4 hb4;have t1:w4.cell? ⟨p,1,none⟩=some (.slice (some ⟨b,off,none⟩) n cap):=keep_cell hb4 (by simpa using keep_old (Below.alloc (Below.refl _ _) (Nat.le_refl _) _).drew s1) hpl;have tf:w4.frozen? ⟨p,1,none⟩=false:=by rw [keep_frozen hb4 hpl,keep_frozen (Below.alloc (Below.refl W.heap.size W) (Nat.le_refl _) _).drew hpl];exact f1
   refine hK.out _ _ (by trivial) (fun hHeld=>?_)
   clear hK K
   (try simp only [Act.put,List.setIfInBounds_toArray,List.set_cons_zero,List.set_cons_succ])
   refine wpAnyH_ready (rs:=[11]) (by kernel_rfl) (by simp) ?_
   refine AllReadyH.cons (op_at _ 11 _ rfl) (fun K hK=>?_) AllReadyH.nil
   go_simp
   refine hK.out _ _ (by trivial) (fun hHeld=>?_)
   clear hK K
   (try simp only [Act.put,List.setIfInBounds_toArray,List.set_cons_zero,List.set_cons_succ])
   refine wpAnyH_take (i:=12) (v:=?_) (op_at _ 12 _ rfl) (by kernel_rfl) (by kernel_rfl) (by kernel_rfl) (fun _ _ _ h=>h) (Or.inl ⟨by rfl,?_⟩) (by assumption) ?_
   rotate_left 1
   focus (intro w hSw;go_simp;first |done |with_reducible rfl)
   (try simp only [Act.put,List.setIfInBounds_toArray,List.set_cons_zero,List.set_cons_succ])
   refine wpAnyH_take (i:=13) (v:=?_) (op_at _ 13 _ rfl) (by kernel_rfl) (by kernel_rfl) (by kernel_rfl) (fun _ _ _ h=>h) (Or.inl ⟨by rfl,?_⟩) (by assumption) ?_
   rotate_left 1
   focus (intro w hSw;go_simp;first |done |with_reducible rfl)
   (try simp only [Act.put,List.setIfInBounds_toArray,List.set_cons_zero,List.set_cons_succ])
   refine wpAnyH_ready (rs:=[14]) (by kernel_rfl) (by simp) ?_
   refine AllReadyH.cons (op_at _ 14 _ rfl) (fun K hK=>?_) AllReadyH.nil
   go_simp
   refine hK.out _ _ (by trivial) (fun hHeld=>?_)
   clear hK K
   (try simp only [Act.put,List.setIfInBounds_toArray,List.set_cons_zero,List.set_cons_succ])
   refine wpAnyH_done (by kernel_rfl) ?_ _
   go_wp2
   go_ret
   exact ⟨_,_,rfl,bytes_end hp'.out hr'.out hn h5.out hkn hk2 hb4 hg4.out (by simp) (Or.inr ⟨hck,rfl⟩)⟩
  refine AllReadyH.cons (op_at _ 9 _ rfl) (fun K hK=>?_) ?_
  ·go_simp
   refine hK.out _ _ (by trivial) (fun hHeld=>?_)
   clear hK K
   (try simp only [Act.put,List.setIfInBounds_toArray,List.set_cons_zero,List.set_cons_succ])
   refine wpAnyH_ready (rs:=[4,10]) (by kernel_rfl) (by simp) ?_
   refine AllReadyH.cons (op_at _ 4 _ rfl) (fun K hK=>?_) ?_
   ·go_simp
    refine hK.out _ _ (by trivial) (fun hHeld=>?_)
    clear hK K
    (try simp only [Act.put,List.setIfInBounds_toArray,List.set_cons_zero,List.set_cons_succ])
    refine wpAnyH_ready (rs:=[10]) (by kernel_rfl) (by simp) ?_
    refine AllReadyH.cons (op_at _ 10 _ rfl) (fun K hK=>?_) AllReadyH.nil
    refine step_copy_splice rfl (.tmp 32) (.tmp 36) 48 48 rfl 5 Tryz.underlying48 (by kernel_rfl) _ _ _ _ _ _ rfl rfl W.heap.size 0 (List.replicate k (.int .u8 0)) 5 (copy_hg W k) (bs (xs.take k)) (bytes_hn hl'.out hkn) (bytes_hpos hr'.out (Below.alloc (Below.refl _ _) (Nat.le_refl _) _).drew hkn) (by simp [bs];omega) (bs_one _) W.heap.size _ (Below.refl _ _) (Nat.le_refl _) ?_;intro w4 hg4 hb4;have t1:w4.cell? ⟨p,1,none⟩=some (.slice (some ⟨b,off,none⟩) n cap):=keep_cell hb4 (by simpa using keep_old (Below.alloc (Below.refl _ _) (Nat.le_refl _) _).drew s1) hpl;have tf:w4.frozen? ⟨p,1,none⟩=false:=by rw [keep_frozen hb4 hpl,keep_frozen (Below.alloc (Below.refl W.heap.size W) (Nat.le_refl _) _).drew hpl];exact f1
    refine hK.out _ _ (by trivial) (fun hHeld=>?_)
    clear hK K
    (try simp only [Act.put,List.setIfInBounds_toArray,List.set_cons_zero,List.set_cons_succ])
    refine wpAnyH_ready (rs:=[11]) (by kernel_rfl) (by simp) ?_
    refine AllReadyH.cons (op_at _ 11 _ rfl) (fun K hK=>?_) AllReadyH.nil
    go_simp
    refine hK.out _ _ (by trivial) (fun hHeld=>?_)
    clear hK K
    (try simp only [Act.put,List.setIfInBounds_toArray,List.set_cons_zero,List.set_cons_succ])
    refine wpAnyH_take (i:=12) (v:=?_) (op_at _ 12 _ rfl) (by kernel_rfl) (by kernel_rfl) (by kernel_rfl) (fun _ _ _ h=>h) (Or.inl ⟨by rfl,?_⟩) (by assumption) ?_
    rotate_left 1
    focus (intro w hSw;go_simp;first |done |with_reducible rfl)
    (try simp only [Act.put,List.setIfInBounds_toArray,List.set_cons_zero,List.set_cons_succ])
    refine wpAnyH_take (i:=13) (v:=?_) (op_at _ 13 _ rfl) (by kernel_rfl) (by kernel_rfl) (by kernel_rfl) (fun _ _ _ h=>h) (Or.inl ⟨by rfl,?_⟩) (by assumption) ?_
    rotate_left 1
    focus (intro w hSw;go_simp;first |done |with_reducible rfl)
    (try simp only [Act.put,List.setIfInBounds_toArray,List.set_cons_zero,List.set_cons_succ])
    refine wpAnyH_ready (rs:=[14]) (by kernel_rfl) (by simp) ?_
    refine AllReadyH.cons (op_at _ 14 _ rfl) (fun K hK=>?_) AllReadyH.nil
    go_simp
    refine hK.out _ _ (by trivial) (fun hHeld=>?_)
    clear hK K
    (try simp only [Act.put,List.setIfInBounds_toArray,List.set_cons_zero,List.set_cons_succ])
    refine wpAnyH_done (by kernel_rfl) ?_ _
    go_wp2
    go_ret
    exact ⟨_,_,rfl,bytes_end hp'.out hr'.out hn h5.out hkn hk2 hb4 hg4.out (by simp) (Or.inr ⟨hck,rfl⟩)⟩
   refine AllReadyH.cons (op_at _ 10 _ rfl) (fun K hK=>?_) ?_
   ·refine step_copy_splice rfl (.tmp 32) (.tmp 36) 48 48 rfl 5 Tryz.underlying48 (by kernel_rfl) _ _ _ _ _ _ rfl rfl W.heap.size 0 (List.replicate k (.int .u8 0)) 5 (copy_hg W k) (bs (xs.take k)) (bytes_hn hl'.out hkn) (bytes_hpos hr'.out (Below.alloc (Below.refl _ _) (Nat.le_refl _) _).drew hkn) (by simp [bs];omega) (bs_one _) W.heap.size _ (Below.refl _ _) (Nat.le_refl _) ?_;intro w4 hg4 hb4;have t1:w4.cell? ⟨p,1,none⟩=some (.slice (some ⟨b,off,none⟩) n cap):=keep_cell hb4 (by simpa using keep_old (Below.alloc (Below.refl _ _) (Nat.le_refl _) _).drew s1) hpl;have tf:w4.frozen? ⟨p,1,none⟩=false:=by rw [keep_frozen hb4 hpl,keep_frozen (Below.alloc (Below.refl W.heap.size W) (Nat.le_refl _) _).drew hpl];exact f1
    refine hK.out _ _ (by trivial) (fun hHeld=>?_)
    clear hK K
    (try simp only [Act.put,List.setIfInBounds_toArray,List.set_cons_zero,List.set_cons_succ])
    refine wpAnyH_ready (rs:=[4]) (by kernel_rfl) (by simp) ?_
    refine AllReadyH.cons (op_at _ 4 _ rfl) (fun K hK=>?_) AllReadyH.nil
    go_simp
    refine hK.out _ _ (by trivial) (fun hHeld=>?_)
    clear hK K
    (try simp only [Act.put,List.setIfInBounds_toArray,List.set_cons_zero,List.set_cons_succ])
    refine wpAnyH_ready (rs:=[11]) (by kernel_rfl) (by simp) ?_
    refine AllReadyH.cons (op_at _ 11 _ rfl) (fun K hK=>?_) AllReadyH.nil
    go_simp
    refine hK.out _ _ (by trivial) (fun hHeld=>?_)
    clear hK K
    (try simp only [Act.put,List.setIfInBounds_toArray,List.set_cons_zero,List.set_cons_succ])
    refine wpAnyH_take (i:=12) (v:=?_) (op_at _ 12 _ rfl) (by kernel_rfl) (by kernel_rfl) (by kernel_rfl) (fun _ _ _ h=>h) (Or.inl ⟨by rfl,?_⟩) (by assumption) ?_
    rotate_left 1
    focus (intro w hSw;go_simp;first |done |with_reducible rfl)
    (try simp only [Act.put,List.setIfInBounds_toArray,List.set_cons_zero,List.set_cons_succ])
    refine wpAnyH_take (i:=13) (v:=?_) (op_at _ 13 _ rfl) (by kernel_rfl) (by kernel_rfl) (by kernel_rfl) (fun _ _ _ h=>h) (Or.inl ⟨by rfl,?_⟩) (by assumption) ?_
    rotate_left 1
    focus (intro w hSw;go_simp;first |done |with_reducible rfl)
    (try simp only [Act.put,List.setIfInBounds_toArray,List.set_cons_zero,List.set_cons_succ])
    refine wpAnyH_ready (rs:=[14]) (by kernel_rfl) (by simp) ?_
    refine AllReadyH.cons (op_at _ 14 _ rfl) (fun K hK=>?_) AllReadyH.nil
    go_simp
    refine hK.out _ _ (by trivial) (fun hHeld=>?_)
    clear hK K
    (try simp only [Act.put,List.setIfInBounds_toArray,List.set_cons_zero,List.set_cons_succ])
    refine wpAnyH_done (by kernel_rfl) ?_ _
    go_wp2
    go_ret
    exact ⟨_,_,rfl,bytes_end hp'.out hr'.out hn h5.out hkn hk2 hb4 hg4.out (by simp) (Or.inr ⟨hck,rfl⟩)⟩
   exact AllReadyH.nil
  exact AllReadyH.nil
end Cel
namespace Cel
open Go.RowKit
end Cel
namespace Cel
open Go.RowKit
end Cel
namespace Cel
open Go.RowKit
end Cel
namespace Cel
open Go.RowKit
theorem hd_bytes(A m:Nat):∀ x∈hd A m,x<256:=by
 induction m with
 | zero=>intro x h;simp [hd]at h
 | succ m ih=>
  intro x h
  simp only [hd,List.mem_cons]at h
  rcases h with rfl |h
  ·omega
  ·exact ih x h
theorem varN_bytes(n:Nat):∀ x∈varN n,x<256:=by
 intro x h
 simp only [varN,List.mem_append,List.mem_singleton]at h
 rcases h with h |rfl
 ·exact hd_bytes _ _ x h
 ·have hl:lastBits n=7∨lastBits n=8:=by unfold lastBits;split<;>simp
  rcases hl with h |h<;>rw [h]<;>simp<;>omega
end Cel
namespace Cel
open Go.RowKit
theorem asm_hd(A:Nat)(j:Nat):∀ (acc m:Nat) (t:List Nat),j≤m→asm acc m (hd A j++t)=asm (acc*2 ^ (7*j)+A % 2 ^ (7*j)) (m - j) t:=by
 induction j with
 | zero=>intro acc m t _;simp [hd,Nat.mod_one]
 | succ j ih=>
  intro acc m t hm
  obtain ⟨m',rfl⟩:∃ m',m=m'+1:=⟨m - 1,by omega⟩
  simp only [hd,List.cons_append,asm]
  rw [if_neg (by omega),Nat.add_sub_cancel,ih _ m' t (by omega),show m'+1 - (j+1)=m' - j by omega]
  congr 1
  rw [show 7*(j+1)=7*j+7 by omega,Nat.pow_add,show (2:Nat) ^ 7=128 from rfl,Nat.mod_mul]
  generalize 2 ^ (7*j)=P
  rw [Nat.add_mul,show acc*(P*128)=acc*128*P by rw [Nat.mul_assoc acc 128 P,Nat.mul_comm P]]
  rw [Nat.mul_comm P]
  omega
theorem asm_var(v:Nat)(hv:v<18446744073709551616)(r:List Nat):asm 0 8 (varN v++r)=(v,szN v):=by
 have hs:=szN_le v
 by_cases h9:szN v=9
 ·have hl:lastBits v=8:=by unfold lastBits;rw [if_pos h9]
  simp only [varN,hl,h9,List.append_assoc]
  rw [asm_hd _ 8 0 8 _ (Nat.le_refl _)]
  simp [asm]
  omega
 ·have hl:lastBits v=7:=by unfold lastBits;rw [if_neg h9]
  have hb:=szN_ge v (szN v) (Nat.le_refl _) (by omega)
  obtain ⟨m,hm⟩:∃ m,szN v=m+1:=⟨szN v - 1,by omega⟩
  have hA:v/128<2 ^ (7*m):=by
   rw [hm,show 7*(m+1)=7+7*m by omega,Nat.pow_add]at hb
   exact Nat.div_lt_of_lt_mul hb
  simp only [varN,hl,hm,List.append_assoc,Nat.add_sub_cancel]
  rw [asm_hd _ m 0 8 _ (by omega),show 8 - m=(7 - m)+1 by omega]
  simp only [List.cons_append,List.nil_append,asm]
  rw [if_pos (by simp;omega)]
  simp only [Nat.reducePow,Nat.zero_mul,Nat.zero_add]
  rw [Nat.mod_eq_of_lt hA]
  congr 1
  ·omega
  ·omega
theorem putN_length(v s:Nat)(l:Bool):(putN v s l).length=s:=up_length _ _ _
theorem up_bytes(F:Nat→Nat)(hF:∀ i,F i<256)(i k:Nat):∀ x∈up F i k,x<256:=by
 induction k generalizing i with
 | zero=>intro x h;simp [up]at h
 | succ k ih=>
  intro x h
  simp only [up,List.mem_cons]at h
  rcases h with rfl |h
  ·exact hF i
  ·exact ih _ x h
theorem putN_bytes(v s:Nat)(l:Bool):∀ x∈putN v s l,x<256:=up_bytes _ (fun _=>by omega) _ _
end Cel
namespace Cel
open Go.RowKit
def uN(z:Int):Nat:=(z % 18446744073709551616).toNat
def zigN(k:Int):Nat:=if k<0 then (-(2*k) - 1).toNat else (2*k).toNat
def zagN(n:Nat):Int:=if n % 2=1 then -((n/2:Nat):Int) - 1 else ((n/2:Nat):Int)
def locN(l:Int):Nat:=if l<0∨20000<l then 0 else if 96<l then 32 else l.toNat
def I64(z:Int):Prop:=-9223372036854775808≤z∧z≤9223372036854775807
theorem uN_lt(z:Int):uN z<18446744073709551616:=by unfold uN;omega
theorem uN_wrap(z:Int):IntKind.u64.wrap z=(uN z:Int):=by rw [IntKind.wrap_u64];unfold uN;omega
theorem uN_pos(z:Int)(h:0≤z)(h2:z≤9223372036854775807):uN z=z.toNat:=by unfold uN;omega
theorem zigN_lt(k:Int)(h:I64 k):zigN k<18446744073709551616:=by unfold zigN;obtain ⟨h1,h2⟩:=h;split<;>omega
theorem zag_zig(k:Int)(h:I64 k):zagN (zigN k)=k:=by unfold zagN zigN;obtain ⟨h1,h2⟩:=h;split<;>split<;>omega
theorem zag_in(n:Nat)(h:n<18446744073709551616):I64 (zagN n):=by unfold zagN I64;split<;>omega
theorem not_any(k:Int)(h:I64 k):bits .xor .i64 (-1) k = -k - 1:=by
 obtain ⟨h1,h2⟩:=h
 show IntKind.i64.wrap ((BitVec.ofInt 64 (-1) ^^^ BitVec.ofInt 64 k).toNat:Int)=_
 have e1:BitVec.ofInt 64 (-1)=BitVec.allOnes 64:=by decide
 rw [e1,BitVec.allOnes_xor,BitVec.toNat_not,BitVec.toNat_ofInt,IntKind.wrap_i64]
 simp only [Nat.reducePow]
 omega
theorem zig_any(k:Int)(h:I64 k)(w:World):Calls Tryz.prog 264 #[.int .i64 k] w fun e w'=>e=.returned (.int .u64 (zigN k:Nat))∧w'=w:=by
 obtain ⟨h1,h2⟩:=h
 by_cases hk:k<0
 ·have e1:((zigN k:Nat):Int)=2*(-k - 1)+1:=by unfold zigN;rw [if_pos hk];omega
  rw [e1]
  have hn:=not_any k ⟨h1,h2⟩
  go_enter Tryz.func264,Tryz.ntmps264
  go_wp2
  go_ret
  refine ⟨?_,rfl⟩
  simp
  simp only [IntKind.wrap_u64]
  omega
 ·have e1:((zigN k:Nat):Int)=2*k:=by unfold zigN;rw [if_neg hk];omega
  rw [e1]
  go_enter Tryz.func264,Tryz.ntmps264
  go_wp2
  go_ret
  exact ⟨rfl,rfl⟩
theorem zag_any(n:Nat)(h:n<18446744073709551616)(w:World):Calls Tryz.prog 326 #[.int .u64 (n:Int)] w fun e w'=>e=.returned (.int .i64 (zagN n))∧w'=w:=by
 by_cases hk:n % 2=1
 ·have e1:zagN n = -((n:Int)/2) - 1:=by unfold zagN;rw [if_pos hk];omega
  rw [e1]
  have h2:((n:Int) % 2 == 1)=true:=by simp;omega
  have hn:=not_any ((n:Int)/2) ⟨by omega,by omega⟩
  go_enter Tryz.func326,Tryz.ntmps326
  go_wp2
  go_ret
  refine ⟨?_,rfl⟩
  simp
 ·have e1:zagN n=(n:Int)/2:=by unfold zagN;rw [if_neg hk];omega
  rw [e1]
  have h2:((n:Int) % 2 == 1)=false:=by simp;omega
  go_enter Tryz.func326,Tryz.ntmps326
  go_wp2
  go_ret
  exact ⟨rfl,rfl⟩
theorem payable_any(s:Int)(w:World):Calls Tryz.prog 197 #[.int .i64 s] w fun e w'=>e=.returned (.bool (decide (0≤s)&&decide (s≤20000)))∧w'=w:=by
 by_cases h:0≤s<;>by_cases h':s≤20000
 all_goals
  go_enter Tryz.func197,Tryz.ntmps197
  go_wp2
  go_ret
  simp [h,h']
theorem paged_any(s:Int)(w:World):Calls Tryz.prog 282 #[.int .i64 s] w fun e w'=>e=.returned (.bool (decide (1≤s)&&decide (s≤4000)))∧w'=w:=by
 by_cases h:1≤s<;>by_cases h':s≤4000
 all_goals
  go_enter Tryz.func282,Tryz.ntmps282
  go_wp2
  go_ret
  simp [h,h']
theorem local_any(s:Int)(w:World):Calls Tryz.prog 138 #[.int .i64 s] w fun e w'=>e=.returned (.int .i64 (locN s:Nat))∧w'=w:=by
 have cp:=hid (payable_any s)
 by_cases h:0≤s∧s≤20000
 ·rw [show (decide (0≤s)&&decide (s≤20000))=true by simp;omega]at cp
  by_cases h':96<s
  ·have e1:((locN s:Nat):Int)=32:=by unfold locN;rw [if_neg (by omega),if_pos h'];rfl
   rw [e1]
   go_enter Tryz.func138,Tryz.ntmps138
   go_wp2_with (go_at_call 197;refine (cp.out _).mono ?_;rintro e w1 ⟨rfl,h1⟩;obtain rfl:=h1.symm)
   go_ret
   exact ⟨rfl,rfl⟩
  ·have e1:((locN s:Nat):Int)=s:=by unfold locN;rw [if_neg (by omega),if_neg h'];omega
   rw [e1]
   go_enter Tryz.func138,Tryz.ntmps138
   go_wp2_with (go_at_call 197;refine (cp.out _).mono ?_;rintro e w1 ⟨rfl,h1⟩;obtain rfl:=h1.symm)
   go_ret
   exact ⟨rfl,rfl⟩
 ·rw [show (decide (0≤s)&&decide (s≤20000))=false by simp;omega]at cp
  have e1:((locN s:Nat):Int)=0:=by unfold locN;rw [if_pos (by omega)];rfl
  rw [e1]
  go_enter Tryz.func138,Tryz.ntmps138
  go_wp2_with (go_at_call 197;refine (cp.out _).mono ?_;rintro e w1 ⟨rfl,h1⟩;obtain rfl:=h1.symm)
  go_ret
  exact ⟨rfl,rfl⟩
end Cel
namespace Cel
open Go.RowKit
structure C where
 k:Int
 c:Int
 l:Int
 o:Option Addr
 n:Nat
 m:Nat
 x:Int
 b:List Nat
 deriving Inhabited
def big:Nat:=140737488355328
structure Cok (w:World) (a:C):Prop where
 rd:Rd w a.o a.n a.m a.b
 by8:∀ x∈a.b,x<256
 kI:I64 a.k
 cI:I64 a.c
 lI:I64 a.l
 xI:I64 a.x
 nB:a.n≤big
variable {a:C} {w w':World}
theorem Cok.keep(h:Cok w a)(hb:Below w.heap.size w w'):Cok w' a:={ h with rd:=h.rd.keep hb }
def At5(w:World)(b o:Nat)(a:C):Prop:=
 w.cell? ⟨b,o,none⟩=some (.int .i64 a.k)∧w.cell? ⟨b,o+1,none⟩=some (.int .i64 a.c)∧w.cell? ⟨b,o+2,none⟩=some (.int .i64 a.l)∧w.cell? ⟨b,o+3,none⟩=some (.slice a.o a.n a.m)∧w.cell? ⟨b,o+4,none⟩=some (.int .i64 a.x)
theorem At5.keep{b o:Nat}(h:At5 w b o a)(hb:Below w.heap.size w w'):At5 w' b o a:=
 ⟨keep_old hb h.1,keep_old hb h.2.1,keep_old hb h.2.2.1,keep_old hb h.2.2.2.1,keep_old hb h.2.2.2.2⟩
structure Cs (w:World) (ao:Option Addr) (n cap:Nat) (cs:List C):Prop where
 len:cs.length=n
 le:n≤cap
 no:ao=none→n=0∧cap=0
 at_:0<n→∃ b off,ao=some ⟨b,off,none⟩∧∀ t,t<n→At5 w b (off+t*5) (cs.getD t default)
 ok:∀ a∈cs,Cok w a
variable {cs:List C} {n cap:Nat} {ao:Option Addr}
theorem Cs.keep(h:Cs w ao n cap cs)(hb:Below w.heap.size w w'):Cs w' ao n cap cs:=
 ⟨h.len,h.le,h.no,(fun hn=>by
  obtain ⟨b,off,e,hc⟩:=h.at_ hn
  exact ⟨b,off,e,fun t ht=>(hc t ht).keep hb⟩),fun a ha=>(h.ok a ha).keep hb⟩
theorem Cs.nil(w:World):Cs w none 0 0 []:=⟨rfl,Nat.le_refl _,fun _=>⟨rfl,rfl⟩,fun h=>by omega,fun a h=>by cases h⟩
theorem dropC(cs:List C)(i:Nat)(h:i<cs.length):cs.drop i=cs.getD i default::cs.drop (i+1):=by
 rw [List.drop_eq_getElem_cons h]
 simp [List.getD,List.getElem?_eq_getElem h]
theorem Cs.ok_at(h:Cs w ao n cap cs){i:Nat}(hi:i<n):Cok w (cs.getD i default):=by
 apply h.ok
 have hl:=h.len
 simp [List.getD,List.getElem?_eq_getElem (show i<cs.length by omega)]
def NB(t:TypeId)(W:World)(q:Nat)(leaf:Bool)(r:Int)(co:Option Addr)(cn cc:Nat):Prop:=W.heap[q]? = some (.cells #[.bool leaf,.int .i64 r,.slice co cn cc] t (0,0))
section
variable {t:TypeId} {W W':World} {q:Nat} {leaf:Bool} {r:Int} {co:Option Addr} {cn cc:Nat}
theorem NB.cells(h:NB t W q leaf r co cn cc):W.cell? ⟨q,0,none⟩=some (.bool leaf)∧W.cell? ⟨q,1,none⟩=some (.int .i64 r)∧W.cell? ⟨q,2,none⟩=some (.slice co cn cc):=by
 unfold NB at h
 simp [World.cell?,h]
theorem NB.lt(h:NB t W q leaf r co cn cc):q<W.heap.size:=lt_of_block h
theorem NB.keep(h:NB t W q leaf r co cn cc)(hb:Below W.heap.size W W'):NB t W' q leaf r co cn cc:=by
 unfold NB;rw [hb.block q h.lt];exact h
theorem NB.new(t:TypeId)(w:World)(leaf:Bool)(r:Int)(co:Option Addr)(cn cc:Nat):NB t (w.alloc (.cells #[.bool leaf,.int .i64 r,.slice co cn cc] t)) w.heap.size leaf r co cn cc:=heap_alloc_new w _
end
theorem ext1(o:Obj):Below w.heap.size w (w.alloc o):=Below.alloc (Below.refl _ _) (Nat.le_refl _) o
abbrev S5(q:Nat)(a:C)(W:World):Prop:=
 W.cell? ⟨q,0,none⟩=some (.int .i64 a.k)∧W.cell? ⟨q,1,none⟩=some (.int .i64 a.c)∧W.cell? ⟨q,2,none⟩=some (.int .i64 a.l)∧W.cell? ⟨q,3,none⟩=some (.slice a.o a.n a.m)∧W.cell? ⟨q,4,none⟩=some (.int .i64 a.x)
theorem S5.new(t:TypeId)(w:World)(a:C):S5 w.heap.size a (w.alloc (.cells #[.int .i64 a.k,.int .i64 a.c,.int .i64 a.l,.slice a.o a.n a.m,.int .i64 a.x] t)):=by
 have h:=heap_alloc_new w (.cells #[.int .i64 a.k,.int .i64 a.c,.int .i64 a.l,.slice a.o a.n a.m,.int .i64 a.x] t)
 refine ⟨?_,?_,?_,?_,?_⟩<;>(unfold World.cell?;rw [h];rfl)
theorem S5.keep{q:Nat}(h:S5 q a w)(hb:Below w.heap.size w w'):S5 q a w':=
 ⟨keep_old hb h.1,keep_old hb h.2.1,keep_old hb h.2.2.1,keep_old hb h.2.2.2.1,keep_old hb h.2.2.2.2⟩
def spillB(a:C):Bool:=decide ((a.b.length:Int)<a.l)
theorem spills_any(a:C)(w:World)(hn:a.b.length=a.n):Calls Tryz.prog 265 #[.agg #[.int .i64 (a).k,.int .i64 (a).c,.int .i64 (a).l,.slice (a).o (a).n (a).m,.int .i64 (a).x]] w fun e w'=>e=.returned (.bool (spillB a))∧Below w.heap.size w w':=by
 obtain ⟨v,hv⟩:∃ v,v=spillB a:=⟨_,rfl⟩
 rw [←hv]
 unfold spillB at hv
 rw [hn]at hv
 by_cases h:(a.n:Int)<a.l
 ·obtain rfl:v=true:=by rw [hv];simpa using h
  clear hv
  go_enter Tryz.func265,Tryz.ntmps265
  go_wp2
  go_ret
  exact ⟨rfl,ext1 _⟩
 ·obtain rfl:v=false:=by rw [hv];simpa using h
  clear hv
  go_enter Tryz.func265,Tryz.ntmps265
  go_wp2
  go_ret
  exact ⟨rfl,ext1 _⟩
def oneN(leaf:Bool)(a:C):List Nat:=
 if leaf then varN (zigN a.k)++varN (uN a.l)++a.b++(if spillB a then putN (uN a.x) 4 false else []) else putN (uN a.c) 4 false++varN (zigN a.k)
theorem oneN_length(leaf:Bool)(a:C):(oneN leaf a).length=if leaf then szN (zigN a.k)+szN (uN a.l)+a.b.length+(if spillB a then 4 else 0) else 4+szN (zigN a.k):=by
 unfold oneN
 cases leaf<;>cases spillB a<;>simp [varN_length,putN_length]<;>omega
theorem size_wrap(z:Int)(w:World):Calls Tryz.prog 263 #[.int .u64 (IntKind.u64.wrap z)] w fun e w'=>e=.returned (.int .i64 (szN (uN z):Nat))∧w'=w:=by
 rw [uN_wrap];exact size_any _ (uN_lt z) w
theorem csize_any(leaf:Bool)(a:C)(w:World)(h:Cok w a):Calls Tryz.prog 204 #[.agg #[.int .i64 (a).k,.int .i64 (a).c,.int .i64 (a).l,.slice (a).o (a).n (a).m,.int .i64 (a).x],.bool leaf] w fun e w'=>e=.returned (.int .i64 ((oneN leaf a).length:Nat))∧Below w.heap.size w w':=by
 obtain ⟨L,hL⟩:∃ L,L=(oneN leaf a).length:=⟨_,rfl⟩
 rw [←hL]
 rw [oneN_length]at hL
 have cz:=hid (zig_any a.k h.kI)
 have cs:=hid (size_any (zigN a.k) (zigN_lt a.k h.kI))
 have cl:=hid (size_wrap a.l)
 have hsp:=fun w=>spills_any a w h.rd.1
 have sz1:=szN_le (zigN a.k)
 have sz2:=szN_le (uN a.l)
 have hB:=h.nB
 have hb:=h.rd.1
 unfold big at hB
 generalize szN (zigN a.k)=s1 at *
 generalize zigN a.k=z1 at *
 generalize szN (uN a.l)=s2 at *
 rw [hb]at hL
 have hL':=hid hL
 clear h hL hb
 cases leaf with
 | false=>
  go_enter Tryz.func204,Tryz.ntmps204
  go_wp2_with (first |(go_at_call 264;refine (cz.out _).mono ?_;rintro e w1 ⟨rfl,h1⟩;obtain rfl:=h1.symm) |(go_at_call 263;refine (cs.out _).mono ?_;rintro e w1 ⟨rfl,h1⟩;obtain rfl:=h1.symm))
  go_ret
  have:=hL'.out
  simp at this
  subst this
  exact ⟨by simp,ext1 _⟩
 | true=>
  have g0:=S5.new 144 w a
  cases hsb:spillB a with
  | false=>
   rw [hsb]at hsp hL'
   have hsp':=hid hsp
   clear hsp hsb
   have g1:S5 w.heap.size a (w.alloc (.cells #[.int .i64 a.k,.int .i64 a.c,.int .i64 a.l,.slice a.o a.n a.m,.int .i64 a.x] 144)).drew:=g0.keep (Below.refl _ _).drew
   go_enter Tryz.func204,Tryz.ntmps204
   go_upto_region 4 with (first |(go_at_call 264;refine (cz.out _).mono ?_;rintro e w1 ⟨rfl,h1⟩;obtain rfl:=h1.symm;clear cz) |(go_at_call 263;refine (cs.out _).mono ?_;rintro e w1 ⟨rfl,h1⟩;obtain rfl:=h1.symm;clear cs))
   go_region_held3 (S5 w.heap.size a) (with_reducible assumption) (first |(go_at_call 263;refine (cl.out _).mono ?_;rintro e w1 ⟨rfl,h1⟩;obtain rfl:=h1.symm))
   go_wp2_with (go_at_call 265;refine (hsp'.out _).mono ?_;rintro e w1 ⟨rfl,hb1⟩;have H1:=hid hb1;clear hb1)
   go_ret
   have:=hL'.out
   simp at this
   subst this
   exact ⟨by simp<;>first |omega |(simp only [IntKind.wrap_i64];omega),gt (ext1 _).drew H1.out⟩
  | true=>
   rw [hsb]at hsp hL'
   have hsp':=hid hsp
   clear hsp hsb
   have g1:S5 w.heap.size a (w.alloc (.cells #[.int .i64 a.k,.int .i64 a.c,.int .i64 a.l,.slice a.o a.n a.m,.int .i64 a.x] 144)).drew:=g0.keep (Below.refl _ _).drew
   go_enter Tryz.func204,Tryz.ntmps204
   go_upto_region 4 with (first |(go_at_call 264;refine (cz.out _).mono ?_;rintro e w1 ⟨rfl,h1⟩;obtain rfl:=h1.symm;clear cz) |(go_at_call 263;refine (cs.out _).mono ?_;rintro e w1 ⟨rfl,h1⟩;obtain rfl:=h1.symm;clear cs))
   go_region_held3 (S5 w.heap.size a) (with_reducible assumption) (first |(go_at_call 263;refine (cl.out _).mono ?_;rintro e w1 ⟨rfl,h1⟩;obtain rfl:=h1.symm))
   go_wp2_with (go_at_call 265;refine (hsp'.out _).mono ?_;rintro e w1 ⟨rfl,hb1⟩;have H1:=hid hb1;clear hb1)
   go_ret
   have:=hL'.out
   simp at this
   subst this
   exact ⟨by simp<;>first |omega |(simp only [IntKind.wrap_i64];omega),gt (ext1 _).drew H1.out⟩
end Cel
namespace Cel
open Go.RowKit
def allN(leaf:Bool)(cs:List C):List Nat:=cs.flatMap (oneN leaf)
def sumN(leaf:Bool):List C→Nat
 | []=>0
 | a::r=>(oneN leaf a).length+sumN leaf r
theorem sumN_all(leaf:Bool)(cs:List C):(allN leaf cs).length=sumN leaf cs:=by
 induction cs with
 | nil=>rfl
 | cons a r ih=>simp [allN,sumN]at ih ⊢;omega
def sizeN(leaf:Bool)(cs:List C):Nat:=7+sumN leaf cs
theorem oneN_le(leaf:Bool)(a:C):(oneN leaf a).length≤22+a.b.length:=by
 have h1:=szN_le (zigN a.k)
 have h2:=szN_le (uN a.l)
 rw [oneN_length]
 cases leaf<;>cases spillB a<;>simp<;>omega
def Few(cs:List C):Prop:=cs.length≤100000∧∀ a∈cs,a.n≤100000
theorem sum_le{w:World}(leaf:Bool)(cs:List C)(h:∀ a∈cs,Cok w a∧a.n≤100000):sumN leaf cs≤cs.length*100022:=by
 induction cs with
 | nil=>simp [sumN]
 | cons a r ih=>
  have h1:=h a (by simp)
  have h2:=ih (fun x hx=>h x (by simp [hx]))
  have h3:=oneN_le leaf a
  have h4:=h1.1.rd.1
  simp [sumN]
  omega
theorem size_any9(leaf:Bool)(r:Int)(co:Option Addr)(cn cc:Nat)(cs:List C)(w:World)(h:Cs w co cn cc cs)(hf:Few cs) :
  Calls Tryz.prog 144 #[.agg #[.bool leaf,.int .i64 r,.slice co cn cc]] w fun e w'=>e=.returned (.int .i64 (sizeN leaf cs:Nat))∧Below w.heap.size w w':=by
 have hB:sizeN leaf cs≤100000000000:=by
  have:=sum_le leaf cs (fun a ha=>⟨h.ok a ha,hf.2 a ha⟩)
  have:=hf.1
  unfold sizeN
  omega
 have hlen:=h.len
 have hcn:cn≤100000:=by have:=hf.1;omega
 have h':=hid h
 have hl':=hid hlen
 obtain ⟨T,hT⟩:∃ T,T=sizeN leaf cs:=⟨_,rfl⟩
 have hT':=hid hT
 rw [←hT]at hB ⊢
 clear h hf hT hlen
 have q0:=hid (NB.new 111 w leaf r co cn cc)
 have b0:Hid (Below w.heap.size w (w.alloc (.cells #[.bool leaf,.int .i64 r,.slice co cn cc] 111))):=hid (ext1 _)
 go_enter Tryz.func144,Tryz.ntmps144
 go_wp2
 generalize w.alloc (.cells #[.bool leaf,.int .i64 r,.slice co cn cc] 111)=w0 at *
 go_loopw [3,9] (fun a c W=>∃ (i acc:Nat),i≤cn∧c=.int .i64 i∧a=.int .i64 acc∧acc+sumN leaf (cs.drop i)=T∧NB 111 W w.heap.size leaf r co cn cc∧Below w.heap.size w W) (fun _ c _=>cn - (intOf c).toNat)
 case atStart=>exact ⟨0,7,by omega,rfl,rfl,by rw [hT'.out];rfl,q0.out,b0.out⟩
 case round=>
  obtain ⟨i,acc,hi,rfl,rfl,he,hq,hb⟩:=hrel
  have he':=hid he
  have hq':=hid hq
  have hb':=hid hb
  obtain ⟨u0,u1,u2⟩:=hq.cells
  have hlt:=hq.lt
  clear he hq hb
  by_cases hik:i<cn
  ·obtain ⟨b,off,rfl,hc⟩:=h'.out.at_ (by omega)
   have ha:=hid ((h'.out.keep hb'.out).ok_at hik)
   obtain ⟨x0,x1,x2,x3,x4⟩:=(hc i hik).keep hb'.out
   have hd:=dropC cs i (by have:=hl'.out;omega)
   generalize cs.getD i default=a at *
   rw [hd]at he'
   have ca:=hid (fun W'=>csize_any leaf a W')
   have hE:=he'.out
   simp only [sumN]at hE
   have hE':=hid hE
   have hbound:acc+(oneN leaf a).length≤100000000000:=by omega
   generalize (oneN leaf a).length=L at *
   clear hd he' hE hc
   go_wp2_with (go_at_call 204;refine (ca.out _ (ha.out.keep (ext1 _))).mono ?_;rintro e w1 ⟨rfl,hb1⟩;have H1:=hid hb1;clear hb1)
   refine ⟨⟨i+1,acc+L,by omega,by go_num,by simp,by have:=hE'.out;omega,?_,?_⟩,by simp [intOf];omega⟩
   ·exact (hq'.out.keep (ext1 _)).keep H1.out
   ·exact gt hb'.out (gt (ext1 _) H1.out)
  ·obtain rfl:i=cn:=by omega
   go_wp2
   go_ret
   have:=he'.out
   rw [List.drop_of_length_le (by have:=hl'.out;omega)]at this
   simp only [sumN,Nat.add_zero]at this
   subst this
   exact ⟨rfl,hb'.out⟩
theorem fits_any(leaf:Bool)(r:Int)(co:Option Addr)(cn cc:Nat)(cs:List C)(w:World)(h:Cs w co cn cc cs)(hf:Few cs) :
  Calls Tryz.prog 143 #[.agg #[.bool leaf,.int .i64 r,.slice co cn cc]] w fun e w'=>e=.returned (.bool (decide (sizeN leaf cs≤512)))∧Below w.heap.size w w':=by
 have c:=hid (size_any9 leaf r co cn cc cs _ (h.keep (ext1 (.cells #[.bool leaf,.int .i64 r,.slice co cn cc] 111))) hf)
 generalize sizeN leaf cs=T at *
 clear h hf
 by_cases hT:(T:Int)≤512
 ·rw [show decide (T≤512)=true by simp;omega]
  go_enter Tryz.func143,Tryz.ntmps143
  go_wp2_with (go_at_call 144;refine c.out.mono ?_;rintro e w1 ⟨rfl,hb1⟩;have H1:=hid hb1;clear hb1)
  go_ret
  exact ⟨rfl,gt (ext1 _) H1.out⟩
 ·rw [show decide (T≤512)=false by simp;omega]
  go_enter Tryz.func143,Tryz.ntmps143
  go_wp2_with (go_at_call 144;refine c.out.mono ?_;rintro e w1 ⟨rfl,hb1⟩;have H1:=hid hb1;clear hb1)
  go_ret
  exact ⟨by simp<;>omega,gt (ext1 _) H1.out⟩
end Cel
end Go.Proofs.YtfcikkechphmaaaGreatDoor
