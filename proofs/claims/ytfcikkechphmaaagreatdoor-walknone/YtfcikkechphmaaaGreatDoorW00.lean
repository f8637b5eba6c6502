/- How slices of bytes lie in memory, and what widened does: a copy with room; no statement of the seat is proved here. -/
import Derived.Test.YtfcikkechphmaaaGreatDoorProg
import GoSem.Claim
import GoSem.ClaimJoined
import GoSem.ClaimMapViews
import Derived.JoinedTies
import Derived.KernelRfl
import Derived.RowKit
import Derived.WalkKit
import Derived.WalkSpells
import Derived.WalkLawsBesides
import Derived.Laws.CopyOwn
import Derived.Laws.BytesArg
import Derived.Laws.AppendOwnNone
import Derived.Deep.OwnRows
import Derived.BigRegion
import Derived.Deep.RegionWith
import Derived.Deep.RegionHeld3
import Derived.Lib.OthersKept
set_option maxHeartbeats 16000000
set_option maxRecDepth 20000
namespace Go.Proofs.YtfcikkechphmaaaGreatDoor
namespace Cel
open Go.RowKit
variable {w:World}
theorem gt{a b:World}(h:Below w.heap.size w a)(k:Below a.heap.size a b):Below w.heap.size w b:=h.trans (k.mono h.size)
theorem hid{p:Prop}(h:p):Hid p:=h
theorem lt_cell{a:Addr}{v:Value}(h:w.cell? a=some v):a.block<w.heap.size:=by
 rcases Nat.lt_or_ge a.block w.heap.size with h1 |h1
 ·exact h1
 ·exfalso
  have h2:w.heap[a.block]? = none:=Array.getElem?_eq_none h1
  simp [World.cell?,h2]at h
variable {w':World} {B:Nat}
theorem keep_cell(h:Below B w w'){a:Addr}{v:Value}(hc:w.cell? a=some v)(hB:a.block<B):w'.cell? a=some v:=by
 rw [World.cell?_of_block (h.block a.block hB)];exact hc
theorem keep_old(h:Below w.heap.size w w'){a:Addr}{v:Value}(hc:w.cell? a=some v):w'.cell? a=some v:=keep_cell h hc (lt_cell hc)
theorem keep_frozen(h:Below B w w'){a:Addr}(hB:a.block<B):w'.frozen? a=w.frozen? a:=World.frozen?_of_block (h.block a.block hB)
def bs(xs:List Nat):List Value:=xs.map fun x:Nat=>Value.int .u8 (x:Int)
theorem bs_length(xs:List Nat):(bs xs).length=xs.length:=by simp [bs]
theorem bs_append(xs ys:List Nat):bs (xs++ys)=bs xs++bs ys:=by simp [bs]
theorem bs_one(xs:List Nat):∀ u∈bs xs,u.oneCell'=true:=by
 intro u hu
 obtain ⟨x,_,rfl⟩:=List.mem_map.1 hu
 rfl
theorem bs_get(xs:List Nat)(t:Nat)(h:t<xs.length):(bs xs)[t]? = some (.int .u8 ((xs.getD t 0:Nat):Int)):=by
 simp [bs,List.getElem?_map,List.getElem?_eq_getElem h,List.getD]
theorem bs_get'(xs:List Nat)(t:Nat)(u:Value)(h:(bs xs)[t]? = some u):t<xs.length∧u=.int .u8 ((xs.getD t 0:Nat):Int):=by
 have hl:t<xs.length:=by
  have:=(List.getElem?_eq_some_iff.1 h).1
  simpa [bs] using this
 rw [bs_get xs t hl]at h
 exact ⟨hl,(Option.some.inj h).symm⟩
def Rd(w:World)(ao:Option Addr)(n cap:Nat)(xs:List Nat):Prop:=
 xs.length=n∧n≤cap∧(ao=none→n=0∧cap=0) ∧
  (0<n→∃ b off,ao=some ⟨b,off,none⟩∧∀ t,t<n→w.cell? ⟨b,off+t,none⟩=some (.int .u8 ((xs.getD t 0:Nat):Int)))
variable {xs:List Nat} {n cap:Nat} {ao:Option Addr}
theorem Rd.keep(h:Rd w ao n cap xs)(hb:Below w.heap.size w w'):Rd w' ao n cap xs:=by
 refine ⟨h.1,h.2.1,h.2.2.1,fun hn=>?_⟩
 obtain ⟨b,off,e,hc⟩:=h.2.2.2 hn
 exact ⟨b,off,e,fun t ht=>keep_old hb (hc t ht)⟩
theorem Rd.nil(w:World):Rd w none 0 0 []:=⟨rfl,Nat.le_refl _,fun _=>⟨rfl,rfl⟩,fun h=>by omega⟩
variable {g:Nat}
theorem rd_own(h:w.ownsRow B 5 1 (.slice (some ⟨g,0,none⟩) n cap) n (bs xs)):Rd w (some ⟨g,0,none⟩) n cap xs:=by
 have hl:xs.length=n:=by simpa [bs] using h.1
 refine ⟨hl,?_,fun h=>(by cases h),fun _=>⟨g,0,rfl,fun t ht=>?_⟩⟩
 ·rcases h.2 with ⟨h',_⟩ | ⟨g',cap',cur,h',_,_,hnc,_⟩
  ·simp at h'
  ·simp only [Value.slice.injEq,Option.some.injEq,Addr.mk.injEq,and_true,true_and]at h'
   rw [h'.2];exact hnc
 ·rw [Nat.zero_add,h.cellAt t (by omega),bs_get xs t (by omega)]
theorem Tryz.info5:(Tryz.prog.info? 5).map (fun i=>(i.zero,i.size,i.bytes))=some (some (.int .u8 0),1,1):=by kernel_rfl
theorem make_any(n cap:Nat)(h:n≤cap)(hc:cap≤281474976710656)(w:World) :
  (Instr.makeSlice 48 (.int .i64 (n:Int)) (.int .i64 (cap:Int))).run Tryz.prog w=.ok (.slice (some ⟨w.heap.size,0,none⟩) n cap) (w.alloc (.cells (Array.replicate cap (.int .u8 0)) 5)):=by
 obtain ⟨i,hi,hz0,hz1,hz2⟩:=info_parts Tryz.info5
 have hr:=run_make (P:=Tryz.prog) w 48 5 i (.int .u8 0) Tryz.underlying48 hi hz0 .i64 .i64 n cap (by omega) (by omega) (by rw [hz2];omega) (by omega)
 simp only [Int.toNat_natCast,hz1,Nat.mul_one]at hr
 rw [hr,show Array.replicate cap (Value.int .u8 0)=(List.replicate cap (Value.int .u8 0)).toArray by simp,←toList_madeCells_one,Array.toArray_toList]
 rfl
theorem own_of_row{cur:List Value}(hB:B≤g)(hg:w.heap[g]? = some (.cells cur.toArray 5 (0,0)))(hcap:cur.length=cap)(hm:cap≤9223372036854775807)
  (hx:cur.take n=bs xs) (hn:xs.length=n) (hnc:n≤cap):w.ownsRow B 5 1 (.slice (some ⟨g,0,none⟩) n cap) n (bs xs):=
 ⟨by simp [bs,hn],.inr ⟨g,cap,cur.toArray,rfl,hB,hg,hnc,hm,by simp [hcap],by simpa using hx⟩⟩
theorem splice_zero(n m:Nat)(xs:List Nat)(h:xs.length=n):(splice (List.replicate (n+m) (Value.int .u8 0)) 0 (bs xs)).take n=bs xs:=by
 have hl:(bs xs).length=n:=by simp [bs,h]
 simp [splice,List.take_append_of_le_length (Nat.le_of_eq hl.symm),List.take_of_length_le (Nat.le_of_eq hl)]
theorem here_op(k:Nat){P:Program}{ops:Array Oper}{Q:Exit→Act→World→Prop}{a:Act}{w:World}{rest:List Oper}{op:Op}{t:TypeId}{pos:String}{after:Array Edge}{gd:Option (Nat×Bool)}
  (h:wpList P ops Q (⟨some k,op,t,pos,after,gd⟩::rest) a w):wpList P ops Q (⟨some k,op,t,pos,after,gd⟩::rest) a w:=h
theorem copy_hg(w:World)(k:Nat):(w.alloc (.cells (Array.replicate k (.int .u8 0)) 5)).heap[w.heap.size]? = some (.cells (List.replicate k (Value.int .u8 0)).toArray 5 (0,0)):=by
 rw [heap_alloc_new];simp
theorem copy_hn(h:Rd w ao n cap xs):(bs xs).length=Nat.min n n:=by
 rw [bs_length,h.1];exact (Nat.min_self n).symm
theorem copy_hpos(h:Rd w ao n cap xs){o:Obj}:0<(bs xs).length→some (⟨w.heap.size,0,none⟩:Addr)=some ⟨w.heap.size,0,none⟩∧∃ ad,ao=some ad∧∀ j v,(bs xs)[j]? = some v→(w.alloc o).cell? (ad.add j)=some v:=by
 intro hp
 rw [bs_length,h.1]at hp
 obtain ⟨b,off,rfl,hc⟩:=h.2.2.2 hp
 refine ⟨rfl,_,rfl,fun j v hv=>?_⟩
 obtain ⟨hj,rfl⟩:=bs_get' xs j v hv
 rw [Addr.add_lit]
 exact keep_old (Below.alloc (Below.refl _ _) (Nat.le_refl _) o) (hc j (by have:=h.1;omega))
theorem widened_any(ao:Option Addr)(n cap m:Nat)(xs:List Nat)(w:World)(h:Rd w ao n cap xs)(hm:n+m≤281474976710656) :
  Calls Tryz.prog 291 #[.slice ao n cap,.int .i64 (m:Int)] w fun e w'=>e=.returned (.slice (some ⟨w.heap.size,0,none⟩) n (n+m)) ∧
   w'.ownsRow w.heap.size 5 1 (.slice (some ⟨w.heap.size,0,none⟩) n (n+m)) n (bs xs)∧Below w.heap.size w w':=by
 have hmk:=make_any n (n+m) (by omega) hm
 have e1:((n+m:Nat):Int)=(n:Int)+(m:Int):=by omega
 rw [e1]at hmk
 have hr:=hid h
 clear e1 h
 go_enter Tryz.func291,Tryz.ntmps291
 go_wp2_with ((with_reducible refine here_op 15 ?_);refine wpList_copy_splice rfl (.tmp 13) (.tmp 14) 48 48 rfl 5 Tryz.underlying48 (by kernel_rfl) _ _ _ _ _ _ rfl rfl w.heap.size 0 (List.replicate (n+m) (.int .u8 0)) 5 (copy_hg w (n+m)) (bs xs) (copy_hn hr.out) (copy_hpos hr.out) (by simp [bs,hr.out.1]) (bs_one xs) w.heap.size w (Below.alloc (Below.refl _ _) (Nat.le_refl _) _) (Nat.le_refl _) ?_;intro w2 hg2 hb2)
 go_ret
 exact ⟨rfl,own_of_row (Nat.le_refl _) hg2.out (by rw [length_splice _ _ _ (by simp [bs,hr.out.1])];simp) (by omega) (splice_zero n m xs hr.out.1) hr.out.1 (by omega),hb2⟩
end Cel
end Go.Proofs.YtfcikkechphmaaaGreatDoor
