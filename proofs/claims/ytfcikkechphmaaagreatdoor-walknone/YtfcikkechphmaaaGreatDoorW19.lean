/- A disk's file in plain words: its sectors now, as they were sure, and which are dirty; what a write, a sync, a cut and a crash make of it. No statement of the seat is proved here. -/
import Derived.Test.YtfcikkechphmaaaGreatDoorProg
import GoSem.Claim
import GoSem.ClaimJoined
import GoSem.ClaimMapViews
import Derived.JoinedTies
import Derived.KernelRfl
import Derived.RowKit
import Derived.Maps.Ext
import Derived.Lib.SlMapFilter
import Derived.Lib.SlKeysI
import Derived.Maps.AppendAt
import Derived.Maps.OwnSet
import Derived.Maps.OwnOps
import Derived.Deep.AppendSrc
import Derived.WalkKit
import Derived.WalkSpells
import Derived.WalkLawsBesides
import Derived.Laws.CopyOwn
import Derived.Laws.BytesArg
import Derived.Laws.AppendOwnNone
import Derived.Deep.OwnRows
import Derived.BigRegion
import Derived.Deep.RegionWith
import Derived.Deep.RegionHeld3
import Derived.Lib.OthersKept
import Derived.Deep.AppendLies
set_option maxHeartbeats 16000000
set_option maxRecDepth 20000
namespace Go.Proofs.YtfcikkechphmaaaGreatDoor
namespace Dsk
open Go.Maps
abbrev Sec:=List Nat
def noughts:Sec:=List.replicate 128 0
theorem noughts_length:noughts.length=128:=by simp [noughts]
structure FS where
 now:List Sec
 old:List Sec
 dirt:List Bool
def was(old:List Sec)(i:Nat):Sec:=old.getD i noughts
structure FS.Ok (F:FS):Prop where
 ld:F.dirt.length=F.now.length
 lo:F.old.length≤F.now.length
 sn:∀ x∈F.now,x.length=128
 so:∀ x∈F.old,x.length=128
 cl:∀ i,i<F.now.length→F.dirt.getD i false=false→i<F.old.length∧F.now.getD i []=was F.old i
def secD(x:Sec):DataW Unit:=.agg (x.map fun n:Nat=>.lit (.int .u8 (n:Int)))
theorem secD_inj{x y:Sec}(h:secD x=secD y):x=y:=by
 simp only [secD,DataW.agg.injEq]at h
 induction x generalizing y with
 | nil=>cases y<;>simp_all
 | cons a r ih=>
  cases y with
  | nil=>simp at h
  | cons b t=>
   simp only [List.map_cons,List.cons.injEq,DataW.lit.injEq,Lit.int.injEq,true_and]at h
   rw [ih h.2,Int.ofNat_inj.1 h.1]
def idx(dirt:List Bool):List Nat:=(List.range dirt.length).filter fun i=>dirt.getD i false
def entry(old:List Sec)(i:Nat):Lit×DataW Unit:=(.int .i64 (i:Int),secD (was old i))
def dirtD(dirt:List Bool)(old:List Sec):DataW Unit:=.map ((idx dirt).map (entry old))
variable {i:Nat} {dirt:List Bool}
theorem mem_idx:i∈idx dirt↔dirt.getD i false=true:=by
 simp only [idx,List.mem_filter,List.mem_range]
 constructor
 ·exact fun h=>h.2
 ·intro h
  refine ⟨?_,h⟩
  rcases Nat.lt_or_ge i dirt.length with h1 |h1
  ·exact h1
  ·simp [List.getD,List.getElem?_eq_none h1]at h
theorem idx_rising(dirt:List Bool):(idx dirt).Pairwise (· < ·):=List.Pairwise.filter _ List.pairwise_lt_range
theorem idx_lt(h:i∈idx dirt):i<dirt.length:=by
 simpa using (List.mem_filter.1 h).1
theorem canon_dirt(dirt:List Bool)(old:List Sec):Canon (dirtD dirt old):=by
 refine ⟨_,rfl,?_,?_⟩
 ·refine List.pairwise_map.2 ((idx_rising dirt).imp ?_)
  intro a b hab
  simp only [entry,Lit.before,decide_eq_true_eq]
  omega
 ·intro p hp
  obtain ⟨i,_,rfl⟩:=List.mem_map.1 hp
  trivial
theorem has_dirt(dirt:List Bool)(old:List Sec)(i:Nat):has (dirtD dirt old) (.int .i64 (i:Int))=dirt.getD i false:=by
 rw [dirtD,has_eq]
 cases h:dirt.getD i false
 ·rw [List.any_eq_false]
  intro p hp hs
  obtain ⟨j,hj,rfl⟩:=List.mem_map.1 hp
  have hij:j=i:=by
   have:=WideAt.sameKey_eq hs
   simp only [entry,Lit.int.injEq,true_and]at this
   omega
  subst hij
  rw [mem_idx,h]at hj
  cases hj
 ·exact List.any_eq_true.2 ⟨entry old i,List.mem_map.2 ⟨i,mem_idx.2 h,rfl⟩,WideAt.sameKey_self trivial⟩
theorem at_dirt(dirt:List Bool)(old:List Sec)(i:Nat)(h:dirt.getD i false=true)(z:DataW Unit):(dirtD dirt old).atKey (.int .i64 (i:Int)) z=secD (was old i):=by
 have hc:=canon_dirt dirt old
 obtain ⟨es,he,hr,_⟩:=hc
 have hm:entry old i∈es:=by
  have:entry old i∈(idx dirt).map (entry old):=List.mem_map.2 ⟨i,mem_idx.2 h,rfl⟩
  simp only [dirtD,DataW.map.injEq]at he
  rw [←he];exact this
 rw [he]
 exact WideAt.atKey_mem z trivial (apart_of_rising hr) hm
theorem size_dirt(dirt:List Bool)(old:List Sec):Maps.size (dirtD dirt old)=(idx dirt).length:=by simp [dirtD,size_eq]
theorem keys_dirt(dirt:List Bool)(old:List Sec):intKeys (dirtD dirt old)=(idx dirt).map fun i:Nat=>(i:Int):=by
 simp [dirtD,intKeys,Function.comp_def,entry,intOf]
theorem dirt_ext{D:DataW Unit}(hc:Canon D)(dirt:List Bool)(old:List Sec)(h:∀ es,D=.map es→∀ p,p∈es↔∃ i,dirt.getD i false=true∧p=entry old i):D=dirtD dirt old:=by
 obtain ⟨es,rfl,hr,_⟩:=hc
 obtain ⟨es2,he2,hr2,_⟩:=canon_dirt dirt old
 rw [he2]
 congr 1
 refine eq_of_mem_rising hr hr2 fun p=>?_
 rw [h es rfl p]
 simp only [dirtD,DataW.map.injEq]at he2
 rw [←he2]
 simp only [List.mem_map,mem_idx]
 constructor
 ·rintro ⟨i,hi,rfl⟩;exact ⟨i,hi,rfl⟩
 ·rintro ⟨i,hi,rfl⟩;exact ⟨i,hi,rfl⟩
theorem mem_insert{x p:Lit×DataW Unit}:∀ {l:List (Lit×DataW Unit)},p∈DataW.insert x l↔p=x∨p∈l
 | []=>by simp [DataW.insert]
 | y::r=>by
  unfold DataW.insert
  split
  ·simp
  ·simp only [List.mem_cons,mem_insert (l:=r)]
   constructor
   ·rintro (h |h |h)<;>simp [h]
   ·rintro (h |h |h)<;>simp [h]
variable {old:List Sec}
theorem put_dirt{dirt':List Bool}(h0:dirt.getD i false=false)(hd:∀ j,dirt'.getD j false=(dirt.getD j false||decide (j=i)))
  (hc:Canon ((dirtD dirt old).put (.int .i64 (i:Int)) (secD (was old i)))):(dirtD dirt old).put (.int .i64 (i:Int)) (secD (was old i))=dirtD dirt' old:=by
 refine dirt_ext hc dirt' old fun es he p=>?_
 simp only [dirtD,DataW.put,DataW.map.injEq]at he
 rw [←he,mem_insert,List.mem_filter]
 constructor
 ·rintro (rfl | ⟨hp,_⟩)
  ·exact ⟨i,by rw [hd];simp,rfl⟩
  ·obtain ⟨j,hj,rfl⟩:=List.mem_map.1 hp
   exact ⟨j,by rw [hd,mem_idx.1 hj];rfl,rfl⟩
 ·rintro ⟨j,hj,rfl⟩
  by_cases hji:j=i
  ·subst hji;left;rfl
  ·right
   rw [hd]at hj
   simp only [hji,decide_false,Bool.or_false]at hj
   refine ⟨List.mem_map.2 ⟨j,mem_idx.2 hj,rfl⟩,?_⟩
   simp only [entry,Lit.sameKey,true_and,Bool.not_eq_true',decide_eq_false_iff_not]
   omega
theorem cut_dirt(dirt:List Bool)(old old':List Sec)(n:Nat)(ho:∀ i,i<n→was old' i=was old i) :
  Lib.deleteFuncD (fun kl _=>match kl with | .int _ a=>decide ((n:Int)≤a) |_=>false) (dirtD dirt old)=dirtD (dirt.take n) old':=by
 have hc:Canon (Lib.deleteFuncD (fun kl _=>match kl with | .int _ a=>decide ((n:Int)≤a) |_=>false) (dirtD dirt old)):=by
  obtain ⟨es,he,hr,hk⟩:=canon_dirt dirt old
  rw [he]
  exact ⟨_,rfl,hr.filter _,fun p hp=>hk p (List.mem_filter.1 hp).1⟩
 refine dirt_ext hc _ _ fun es he p=>?_
 simp only [dirtD,Lib.deleteFuncD,DataW.map.injEq]at he
 rw [←he,List.mem_filter]
 constructor
 ·rintro ⟨hp,hq⟩
  obtain ⟨j,hj,rfl⟩:=List.mem_map.1 hp
  simp only [entry,Bool.not_eq_true',decide_eq_false_iff_not]at hq
  have hjn:j<n:=by omega
  refine ⟨j,?_,by simp [entry,ho j hjn]⟩
  have:=mem_idx.1 hj
  simpa [List.getD,List.getElem?_take,hjn] using this
 ·rintro ⟨j,hj,rfl⟩
  have hjn:j<n:=by
   rcases Nat.lt_or_ge j n with h |h
   ·exact h
   ·exfalso
    rw [List.getD,List.getElem?_eq_none (by simp;omega)]at hj
    cases hj
  refine ⟨List.mem_map.2 ⟨j,mem_idx.2 ?_,by simp [entry,ho j hjn]⟩,?_⟩
  ·simpa [List.getD,List.getElem?_take,hjn] using hj
  ·simp only [entry,Bool.not_eq_true',decide_eq_false_iff_not]
   omega
theorem idx_clean(n:Nat):idx (List.replicate n false) = []:=by
 rw [List.eq_nil_iff_forall_not_mem]
 intro i hi
 rw [mem_idx]at hi
 simp only [List.getD,List.getElem?_replicate]at hi
 split at hi<;>simp at hi
theorem dirt_clean(n:Nat)(old:List Sec):dirtD (List.replicate n false) old=.map []:=by simp [dirtD,idx_clean]
theorem keys_sorted{ss:List Int}(h:ss.Perm (intKeys (dirtD dirt old))):ss.mergeSort (fun x y=>decide (x≤y))=(idx dirt).map fun i:Nat=>(i:Int):=by
 rw [keys_dirt]at h
 refine List.Perm.eq_of_pairwise (le:=fun a b:Int=>a≤b) (fun a b _ _ h1 h2=>Int.le_antisymm h1 h2) ?_ ?_ ((List.mergeSort_perm _ _).trans h)
 ·have:=List.pairwise_mergeSort (le:=fun x y:Int=>decide (x≤y)) (fun a b c h1 h2=>by simp only [decide_eq_true_eq]at *;omega) (fun a b=>by simp only [Bool.or_eq_true,decide_eq_true_eq];omega) ss
  exact this.imp (fun h=>by simpa using h)
 ·exact List.pairwise_map.2 ((idx_rising dirt).imp (fun h=>by omega))
end Dsk
namespace Dsk
open Go.RowKit
variable {w:World}
theorem gt{a b:World}(h:Below w.heap.size w a)(k:Below a.heap.size a b):Below w.heap.size w b:=h.trans (k.mono h.size)
theorem hid{p:Prop}(h:p):Hid p:=h
variable {w':World}
theorem undrew(h:Below w.drew.heap.size w.drew w'):Below w.heap.size w w':=⟨h.os,h.tape,h.output,h.size,h.block⟩
theorem lt_cell{a:Addr}{v:Value}(h:w.cell? a=some v):a.block<w.heap.size:=by
 rcases Nat.lt_or_ge a.block w.heap.size with h1 |h1
 ·exact h1
 ·exfalso
  have h2:w.heap[a.block]? = none:=Array.getElem?_eq_none h1
  simp [World.cell?,h2]at h
variable {B:Nat}
theorem keep_cell(h:Below B w w'){a:Addr}{v:Value}(hc:w.cell? a=some v)(hB:a.block<B):w'.cell? a=some v:=by
 rw [World.cell?_of_block (h.block a.block hB)];exact hc
theorem keep_old(h:Below w.heap.size w w'){a:Addr}{v:Value}(hc:w.cell? a=some v):w'.cell? a=some v:=keep_cell h hc (lt_cell hc)
def bs(xs:List Nat):List Value:=xs.map fun x:Nat=>Value.int .u8 (x:Int)
theorem bs_length(xs:List Nat):(bs xs).length=xs.length:=by simp [bs]
theorem bs_append(xs ys:List Nat):bs (xs++ys)=bs xs++bs ys:=by simp [bs]
theorem bs_one(xs:List Nat):∀ u∈bs xs,u.oneCell'=true:=by
 intro u hu
 obtain ⟨x,_,rfl⟩:=List.mem_map.1 hu
 rfl
theorem bs_get(xs:List Nat)(t:Nat)(h:t<xs.length):(bs xs)[t]? = some (.int .u8 ((xs.getD t 0:Nat):Int)):=by
 simp [bs,List.getElem?_map,List.getElem?_eq_getElem h,List.getD]
theorem bs_get'(xs:List Nat)(t:Nat)(u:Value)(h:(bs xs)[t]? = some u):t<xs.length∧u=.int .u8 ((xs.getD t 0:Nat):Int):=by
 have hl:t<xs.length:=by
  have:=(List.getElem?_eq_some_iff.1 h).1
  simpa [bs] using this
 rw [bs_get xs t hl]at h
 exact ⟨hl,(Option.some.inj h).symm⟩
def Rd(w:World)(ao:Option Addr)(n cap:Nat)(xs:List Nat):Prop:=
 xs.length=n∧n≤cap∧(ao=none→n=0∧cap=0) ∧
  (0<n→∃ b off,ao=some ⟨b,off,none⟩∧∀ t,t<n→w.cell? ⟨b,off+t,none⟩=some (.int .u8 ((xs.getD t 0:Nat):Int)))
variable {xs:List Nat} {n cap:Nat}
theorem Rd.keep{ao:Option Addr}(h:Rd w ao n cap xs)(hb:Below w.heap.size w w'):Rd w' ao n cap xs:=by
 refine ⟨h.1,h.2.1,h.2.2.1,fun hn=>?_⟩
 obtain ⟨b,off,e,hc⟩:=h.2.2.2 hn
 exact ⟨b,off,e,fun t ht=>keep_old hb (hc t ht)⟩
theorem Rd.nil(w:World):Rd w none 0 0 []:=⟨rfl,Nat.le_refl _,fun _=>⟨rfl,rfl⟩,fun h=>by omega⟩
theorem rd_own{g:Nat}(h:w.ownsRow B 5 1 (.slice (some ⟨g,0,none⟩) n cap) n (bs xs)):Rd w (some ⟨g,0,none⟩) n cap xs:=by
 have hl:xs.length=n:=by simpa [bs] using h.1
 refine ⟨hl,?_,fun h=>(by cases h),fun _=>⟨g,0,rfl,fun t ht=>?_⟩⟩
 ·rcases h.2 with ⟨h',_⟩ | ⟨g',cap',cur,h',_,_,hnc,_⟩
  ·simp at h'
  ·simp only [Value.slice.injEq,Option.some.injEq,Addr.mk.injEq,and_true,true_and]at h'
   rw [h'.2];exact hnc
 ·rw [Nat.zero_add,h.cellAt t (by omega),bs_get xs t (by omega)]
theorem Tryz.info5:(Tryz.prog.info? 5).map (fun i=>(i.zero,i.size,i.bytes))=some (some (.int .u8 0),1,1):=by kernel_rfl
theorem make_any(n cap:Nat)(h:n≤cap)(hc:cap≤281474976710656)(w:World) :
  (Instr.makeSlice 48 (.int .i64 (n:Int)) (.int .i64 (cap:Int))).run Tryz.prog w=.ok (.slice (some ⟨w.heap.size,0,none⟩) n cap) (w.alloc (.cells (Array.replicate cap (.int .u8 0)) 5)):=by
 obtain ⟨i,hi,hz0,hz1,hz2⟩:=info_parts Tryz.info5
 have hr:=run_make (P:=Tryz.prog) w 48 5 i (.int .u8 0) Tryz.underlying48 hi hz0 .i64 .i64 n cap (by omega) (by omega) (by rw [hz2];omega) (by omega)
 simp only [Int.toNat_natCast,hz1,Nat.mul_one]at hr
 rw [hr,show Array.replicate cap (Value.int .u8 0)=(List.replicate cap (Value.int .u8 0)).toArray by simp,←toList_madeCells_one,Array.toArray_toList]
 rfl
theorem here_op(k:Nat){P:Program}{ops:Array Oper}{Q:Exit→Act→World→Prop}{a:Act}{w:World}{rest:List Oper}{op:Op}{t:TypeId}{pos:String}{after:Array Edge}{gd:Option (Nat×Bool)}
  (h:wpList P ops Q (⟨some k,op,t,pos,after,gd⟩::rest) a w):wpList P ops Q (⟨some k,op,t,pos,after,gd⟩::rest) a w:=h
end Dsk
namespace Dsk
open Go.RowKit Go.Maps
def secV(x:Sec):Value:=.agg (bs x).toArray
def byteOf:Value→Option Nat
 | .int .u8 a=>if 0≤a then some a.toNat else none
 | _=>none
def bytesOf:List Value→Option (List Nat)
 | []=>some []
 | v::r=>match byteOf v,bytesOf r with
  | some n,some x=>some (n::x)
  | _,_=>none
theorem bytesOf_bs(x:List Nat):bytesOf (bs x)=some x:=by
 induction x with
 | nil=>rfl
 | cons a r ih=>
  have e:bs (a::r)=.int .u8 (a:Int)::bs r:=rfl
  rw [e,bytesOf,ih]
  simp [byteOf]
theorem bs_bytesOf{l:List Value}{x:List Nat}(h:bytesOf l=some x):l=bs x:=by
 induction l generalizing x with
 | nil=>cases h;rfl
 | cons v r ih=>
  rw [bytesOf]at h
  split at h
  ·rename_i n y hn hy
   cases h
   rw [ih hy]
   unfold byteOf at hn
   split at hn
   ·split at hn
    ·rename_i a h0
     cases hn
     simp [bs,Int.toNat_of_nonneg h0]
    ·cases hn
   ·cases hn
  ·cases h
def secR:Value→Option (DataW Unit×List MemPlace)
 | .agg cs=>match bytesOf cs.toList with
  | some x=>some (secD x,[])
  | none=>none
 | _=>none
theorem secR_mk(x:Sec):secR (secV x)=some (secD x,[]):=by
 simp [secR,secV,bytesOf_bs]
variable {v:Value}
theorem secR_inv{x:Sec}{ps:List MemPlace}(h:secR v=some (secD x,ps)):v=secV x:=by
 unfold secR at h
 split at h
 ·rename_i cs
  split at h
  ·rename_i y hy
   simp only [Option.some.injEq,Prod.mk.injEq]at h
   have e:=bs_bytesOf hy
   have e2:=secD_inj h.1
   subst e2
   simp [secV,←e]
  ·cases h
 ·cases h
def secs(l:List Sec):List Value:=bs l.flatten
def From(S:Nat→Prop)(w:World):Nat→Prop:=fun k=>S k∨w.heap.size≤k
structure FileAt (w:World) (p o:Nat) (S:Nat→Prop) (ao:Option Addr) (cap m:Nat) (F:FS):Prop where
 c0:w.cell? ⟨p,o,none⟩=some (.slice ao F.now.length cap)
 c1:w.cell? ⟨p,o+1,none⟩=some (.int .i64 (F.old.length:Int))
 c2:w.cell? ⟨p,o+2,none⟩=some (.map (some m))
 f0:w.frozen? ⟨p,o,none⟩=false
 f1:w.frozen? ⟨p,o+1,none⟩=false
 f2:w.frozen? ⟨p,o+2,none⟩=false
 row:w.ownsRow 0 306 128 (.slice ao F.now.length cap) F.now.length (secs F.now)
 map:w.ownsMap Tryz.prog 3 secR m (idx F.dirt).length (dirtD F.dirt F.old)
 np:¬S p
 ina:∀ a,ao=some a→S a.block
 inm:S m
structure FFrame (w w':World) (p o:Nat) (S:Nat→Prop):Prop where
 os:w'.os=w.os
 tape:w'.tape=w.tape
 output:w'.output=w.output
 size:w.heap.size≤w'.heap.size
 block:∀ k,k<w.heap.size→k≠p→¬S k→w'.heap[k]? = w.heap[k]?
 cell:∀ i,i≠o→i≠o+1→i≠o+2→w'.cell? ⟨p,i,none⟩=w.cell? ⟨p,i,none⟩
 fz:∀ i,w'.frozen? ⟨p,i,none⟩=w.frozen? ⟨p,i,none⟩
theorem FFrame.refl(w:World)(p o:Nat)(S:Nat→Prop):FFrame w w p o S:=⟨rfl,rfl,rfl,Nat.le_refl _,fun _ _ _ _=>rfl,fun _ _ _ _=>rfl,fun _=>rfl⟩
variable {S:Nat→Prop} {p o:Nat} {w:World}
theorem FFrame.trans{w1 w2:World}(h:FFrame w w1 p o S)(k:FFrame w1 w2 p o (From S w)):FFrame w w2 p o S:=
 ⟨k.os.trans h.os,k.tape.trans h.tape,k.output.trans h.output,Nat.le_trans h.size k.size,
  fun i hi hp hS=>(k.block i (Nat.lt_of_lt_of_le hi h.size) hp (fun hf=>by rcases hf with h1 |h1;exact hS h1;omega)).trans (h.block i hi hp hS),
  fun i h0 h1 h2=>(k.cell i h0 h1 h2).trans (h.cell i h0 h1 h2),fun i=>(k.fz i).trans (h.fz i)⟩
variable {F:FS} {cap m:Nat} {ao:Option Addr}
theorem FileAt.plt(h:FileAt w p o S ao cap m F):p<w.heap.size:=lt_cell h.c0
theorem FileAt.imp{S':Nat→Prop}(h:FileAt w p o S ao cap m F)(hi:∀ k,S k→S' k)(hp:¬S' p):FileAt w p o S' ao cap m F:=
 ⟨h.c0,h.c1,h.c2,h.f0,h.f1,h.f2,h.row,h.map,hp,fun a ha=>hi _ (h.ina a ha),hi _ h.inm⟩
theorem FileAt.up(h:FileAt w p o S ao cap m F):FileAt w p o (From S w) ao cap m F:=
 h.imp (fun _=>Or.inl) (fun hf=>by rcases hf with h1 |h1;exact h.np h1;have:=h.plt;omega)
variable {xs:List Value} {sz base n:Nat} {e:TypeId} {w':World}
theorem row_stay(h:w.ownsRow base e sz (.slice ao n cap) n xs)(hb:∀ a,ao=some a→w'.heap[a.block]? = w.heap[a.block]?):w'.ownsRow base e sz (.slice ao n cap) n xs:=by
 refine ⟨h.1,?_⟩
 rcases h.2 with hn | ⟨g,cap',cur,hv,hb',hg,hr⟩
 ·exact .inl hn
 ·simp only [Value.slice.injEq,true_and]at hv
  obtain ⟨rfl,rfl⟩:=hv
  exact .inr ⟨g,cap,cur,rfl,hb',(hb _ rfl).trans hg,hr⟩
theorem map_stay{D:DataW Unit}(h:w.ownsMap Tryz.prog 3 secR m n D)(hb:w'.heap[m]? = w.heap[m]?):w'.ownsMap Tryz.prog 3 secR m n D:=by
 obtain ⟨es,clock,hg,hF,hs',hD⟩:=h
 exact ⟨es,clock,hb.trans hg,hF,hs',hD⟩
theorem row_lt(h:w.ownsRow base e sz (.slice ao n cap) n xs):∀ a,ao=some a→a.block<w.heap.size:=by
 intro a ha
 rcases h.2 with ⟨hn,_⟩ | ⟨g,cap',cur,hv,hb',hg,hr⟩
 ·simp only [Value.slice.injEq]at hn;rw [ha]at hn;simp at hn
 ·simp only [Value.slice.injEq]at hv
  obtain ⟨rfl,_⟩:=hv
  cases ha
  exact (Array.getElem?_eq_some_iff.1 hg).1
theorem set_same{i:Nat}{u:Value}(h:w.cell? ⟨p,i,none⟩=some u):(w.setCell ⟨p,i,none⟩ v).cell? ⟨p,i,none⟩=some v:=World.cell?_setCell_same _ _ _ h
theorem set_off(w:World)(p:Nat){i j:Nat}(v:Value)(h:i≠j):(w.setCell ⟨p,i,none⟩ v).cell? ⟨p,j,none⟩=w.cell? ⟨p,j,none⟩:=World.cell?_setCell_other _ _ _ _ (by intro e;cases e;exact h rfl)
theorem set_heap(w:World)(p i k:Nat)(v:Value)(h:k≠p):(w.setCell ⟨p,i,none⟩ v).heap[k]? = w.heap[k]?:=heap_setCell_other w ⟨p,i,none⟩ k v h
theorem FileAt.stay(h:FileAt w p o S ao cap m F)
  (hb:∀ k,k<w.heap.size→S k→w'.heap[k]? = w.heap[k]?) (hc:∀ i,o≤i→i≤o+2→w'.cell? ⟨p,i,none⟩=w.cell? ⟨p,i,none⟩) (hf:∀ i,w'.frozen? ⟨p,i,none⟩=w.frozen? ⟨p,i,none⟩):FileAt w' p o S ao cap m F:=by
 exact ⟨(hc o (by omega) (by omega)).trans h.c0,(hc _ (by omega) (by omega)).trans h.c1,(hc _ (by omega) (by omega)).trans h.c2,(hf _).trans h.f0,(hf _).trans h.f1,(hf _).trans h.f2,
  row_stay h.row (fun a ha=>hb _ (row_lt h.row a ha) (h.ina a ha)),map_stay h.map (hb m h.map.lt h.inm),h.np,h.ina,h.inm⟩
theorem tight{D:DataW Unit}(h:w.ownsMap Tryz.prog 3 secR m n D):w.ownsMap Tryz.prog 3 secR m (Maps.size D) D:=by
 obtain ⟨es,clock,hb,F,hs,rfl⟩:=h
 exact ⟨es,clock,hb,F,by rw [Maps.size_eq,length_read];exact Nat.le_refl _,rfl⟩
theorem settle_raw(p o n cap:Nat)(ao:Option Addr)(s:Int)(m:Option Nat)(w:World)
  (c0:w.cell? ⟨p,o,none⟩=some (.slice ao n cap)) (c1:w.cell? ⟨p,o+1,none⟩=some (.int .i64 s)) (c2:w.cell? ⟨p,o+2,none⟩=some (.map m))
  (f1:w.frozen? ⟨p,o+1,none⟩=false) (f2:w.frozen? ⟨p,o+2,none⟩=false) :
  Calls Tryz.prog 106 #[.pointer (some ⟨p,o,none⟩)] w fun e w'=>e=.returned (.tuple #[])∧w'=((w.setCell ⟨p,o+1,none⟩ (.int .i64 (n:Int))).setCell ⟨p,o+2,none⟩ (.map (some w.heap.size))).alloc (.map #[] 0):=by
 have mk:=fun W=>run_makeMap (P:=Tryz.prog) 185 W
 have hp:p<w.heap.size:=lt_cell c0
 have hp':¬p=w.heap.size:=by omega
 go_enter Tryz.func106,Tryz.ntmps106
 go_wp2
 go_end0
 exact ⟨rfl,rfl⟩
theorem settle_any(p o cap:Nat)(S:Nat→Prop)(ao:Option Addr)(s:Int)(mo:Option Nat)(now:List Sec)(w:World)
  (c0:w.cell? ⟨p,o,none⟩=some (.slice ao now.length cap)) (c1:w.cell? ⟨p,o+1,none⟩=some (.int .i64 s)) (c2:w.cell? ⟨p,o+2,none⟩=some (.map mo))
  (f0:w.frozen? ⟨p,o,none⟩=false) (f1:w.frozen? ⟨p,o+1,none⟩=false) (f2:w.frozen? ⟨p,o+2,none⟩=false)
  (row:w.ownsRow 0 306 128 (.slice ao now.length cap) now.length (secs now)) (np:¬S p) (ina:∀ a,ao=some a→S a.block) :
  Calls Tryz.prog 106 #[.pointer (some ⟨p,o,none⟩)] w fun e w'=>e=.returned (.tuple #[])∧FileAt w' p o (From S w) ao cap w.heap.size ⟨now,now,List.replicate now.length false⟩∧FFrame w w' p o S:=by
 refine (settle_raw p o now.length cap ao s mo w c0 c1 c2 f1 f2).mono ?_
 rintro e w' ⟨rfl,rfl⟩
 have hp:p<w.heap.size:=lt_cell c0
 have hs:((w.setCell ⟨p,o+1,none⟩ (.int .i64 (now.length:Int))).setCell ⟨p,o+2,none⟩ (.map (some w.heap.size))).heap.size=w.heap.size:=by simp
 have hc:∀ (o':Obj) i,((((w.setCell ⟨p,o+1,none⟩ (.int .i64 (now.length:Int))).setCell ⟨p,o+2,none⟩ (.map (some w.heap.size))).alloc o').cell? ⟨p,i,none⟩)=((w.setCell ⟨p,o+1,none⟩ (.int .i64 (now.length:Int))).setCell ⟨p,o+2,none⟩ (.map (some w.heap.size))).cell? ⟨p,i,none⟩:=
  fun o' i=>World.cell?_alloc_lt _ _ _ (by rw [hs];exact hp)
 have hfz:∀ i,((((w.setCell ⟨p,o+1,none⟩ (.int .i64 (now.length:Int))).setCell ⟨p,o+2,none⟩ (.map (some w.heap.size))).alloc (.map #[] 0)).frozen? ⟨p,i,none⟩)=w.frozen? ⟨p,i,none⟩:=fun i=>by
  rw [World.frozen?_alloc_old _ _ _ (by rw [hs];exact Nat.ne_of_lt hp),World.frozen?_setCell,World.frozen?_setCell]
 have hbl:∀ k,k<w.heap.size→k≠p→((((w.setCell ⟨p,o+1,none⟩ (.int .i64 (now.length:Int))).setCell ⟨p,o+2,none⟩ (.map (some w.heap.size))).alloc (.map #[] 0)).heap[k]?)=w.heap[k]?:=fun k hk hkp=>by
  rw [heap_alloc_old _ _ _ (by rw [hs];exact hk),set_heap _ _ _ _ _ hkp,set_heap _ _ _ _ _ hkp]
 refine ⟨rfl,⟨?_,?_,?_,?_,?_,?_,?_,?_,?_,?_,?_⟩,⟨rfl,rfl,rfl,?_,?_,?_,?_⟩⟩
 ·rw [hc,set_off _ _ _ (by omega),set_off _ _ _ (by omega)];exact c0
 ·rw [hc,set_off _ _ _ (by omega)];exact set_same c1
 ·rw [hc];exact set_same ((set_off _ _ _ (by omega)).trans c2)
 ·rw [hfz];exact f0
 ·rw [hfz];exact f1
 ·rw [hfz];exact f2
 ·exact row_stay row (fun a ha=>hbl _ (row_lt row a ha) (fun e=>np (e▸ina a ha)))
 ·have:=World.ownsMap_made ((w.setCell ⟨p,o+1,none⟩ (.int .i64 (now.length:Int))).setCell ⟨p,o+2,none⟩ (.map (some w.heap.size))) Tryz.prog 3 secR
  rw [hs]at this
  simpa [dirt_clean,idx_clean] using this
 ·rintro (h |h)
  ·exact np h
  ·omega
 ·exact fun a ha=>Or.inl (ina a ha)
 ·exact Or.inr (Nat.le_refl _)
 ·simp
 ·exact fun k hk hkp _=>hbl k hk hkp
 ·intro i h0 h1 h2
  rw [hc,set_off _ _ _ (by omega),set_off _ _ _ (by omega)]
 ·exact hfz
end Dsk
namespace Dsk
open Go.RowKit Go.Maps
section
variable {P:Program} {ops:Array Oper} {rest:List Oper} {o:Oper} {a:Act} {w:World} {Q:Exit→Act→World→Prop}
theorem wpList_load_run(hgd:o.guard=none)(ty:TypeId)(x:Operand)(ho:o.op=.load ty x)(ad:Addr)(hx:a.eval x=.pointer (some ad))(v:Value)
  (hrun:(loadVar ty ad).run P w=.ok v w) (h:wpList P ops Q rest (a.put o.dst v) w):wpList P ops Q (o::rest) a w:=by
 refine wpList_plain hgd fun K hK=>?_
 unfold Oper.wp
 simp [execOp,ho,hx,Instr.loadAt,Instr.sureAddr,hrun,Result.andThen]
 exact hK _ _ h
theorem wpList_store_run(hgd:o.guard=none)(ty:TypeId)(x y:Operand)(ho:o.op=.store ty x y)(ad:Addr)(hx:a.eval x=.pointer (some ad))(v:Value)(hy:a.eval y=v)(w':World)
  (hrun:(storeVar ty ad v).run P w=.ok () w') (h:wpList P ops Q rest (a.put o.dst undef) w'):wpList P ops Q (o::rest) a w:=by
 refine wpList_plain hgd fun K hK=>?_
 unfold Oper.wp
 simp [execOp,ho,hx,hy,Instr.storeAt,Instr.sureAddr,hrun,Result.andThen]
 exact hK _ _ h
theorem wpList_build_run(hgd:o.guard=none)(ty:TypeId)(ho:o.op=.build ty #[])(v:Value)
  (hrun:(Instr.build ty #[]).run P w=.ok v w) (h:wpList P ops Q rest (a.put o.dst v) w):wpList P ops Q (o::rest) a w:=by
 refine wpList_plain hgd fun K hK=>?_
 unfold Oper.wp
 simp [execOp,ho,hrun,Result.andThen]
 exact hK _ _ h
theorem wpList_buildSlice_run(hgd:o.guard=none)(ty:TypeId)(x:Operand)(ho:o.op=.buildSlice ty 1 #[(0,x)])(v u:Value)(hx:a.eval x=v)(w':World)
  (hrun:(Instr.buildSlice ty 1 #[(0,v)]).run P w=.ok u w') (h:wpList P ops Q rest (a.put o.dst u) w'):wpList P ops Q (o::rest) a w:=by
 refine wpList_plain hgd fun K hK=>?_
 unfold Oper.wp
 simp [execOp,ho,hx,hrun,Result.andThen]
 exact hK _ _ h
theorem wpList_alloc_run(hgd:o.guard=none)(ty:TypeId)(ho:o.op=.alloc ty)(v:Value)(w':World)
  (hrun:(Instr.alloc ty true (.tuple #[])).run P w=.ok v w') (h:wpList P ops Q rest (a.put o.dst v) w'):wpList P ops Q (o::rest) a w:=by
 refine wpList_plain hgd fun K hK=>?_
 unfold Oper.wp
 simp [execOp,ho,hrun,Result.andThen]
 exact hK _ _ h
theorem wpList_box_run(hgd:o.guard=none)(ty:TypeId)(x:Operand)(ho:o.op=.box ty x)(u v:Value)(hx:a.eval x=u)(w':World)
  (hrun:(Instr.box ty u).run P w=.ok v w') (h:wpList P ops Q rest (a.put o.dst v) w'):wpList P ops Q (o::rest) a w:=by
 refine wpList_plain hgd fun K hK=>?_
 unfold Oper.wp
 simp [execOp,ho,hx,hrun,Result.andThen]
 exact hK _ _ h
end
theorem here_store{P:Program}{ops:Array Oper}{Q:Exit→Act→World→Prop}{a:Act}{w:World}{rest:List Oper}(ty:TypeId){x y:Operand}{t:TypeId}{pos:String}{after:Array Edge}{gd:Option (Nat×Bool)}
  (h:wpList P ops Q (⟨none,.store ty x y,t,pos,after,gd⟩::rest) a w):wpList P ops Q (⟨none,.store ty x y,t,pos,after,gd⟩::rest) a w:=h
theorem build80(W:World):(Instr.build 306 #[]).run Tryz.prog W=.ok (secV noughts) W:=by kernel_rfl
theorem zero80(W:World):(zeroValue 306).run Tryz.prog W=.ok (secV noughts) W:=by kernel_rfl
theorem info80:(Tryz.prog.info? 306).map (fun i=>(i.zero,i.size,i.bytes))=some (some (secV noughts),128,128):=by kernel_rfl
theorem alloc80(W:World):(Instr.alloc 306 true (.tuple #[])).run Tryz.prog W=.ok (.pointer (some ⟨W.heap.size,0,none⟩)) (W.alloc (.cells (bs noughts).toArray 306)):=by kernel_rfl
theorem slice80(W:World):(Instr.buildSlice 184 1 #[(0,secV noughts)]).run Tryz.prog W=.ok (.slice (some ⟨W.heap.size,0,none⟩) 1 1) (W.alloc (.cells (bs noughts).toArray 306)):=by kernel_rfl
variable {x:Sec} {W:World}
theorem load80{ad:Addr}(hx:x.length=128)(h:∀ j v,(bs x)[j]? = some v→W.cell? (ad.add j)=some v):(loadVar 306 ad).run Tryz.prog W=.ok (secV x) W:=by
 have hl:=run_loadCells_list (P:=Tryz.prog) W ad (bs x) h
 rw [bs_length,hx]at hl
 simp [loadVar,hl,secV]
theorem store80{g:Nat}{cur:List Value}{t:TypeId}(hx:x.length=128)(hc:cur.length=128)(hg:W.heap[g]? = some (.cells cur.toArray t (0,0))) :
  (storeVar 306 ⟨g,0,none⟩ (secV x)).run Tryz.prog W=.ok () (W.setRow g (bs x).toArray):=by
 have hs:=run_storeCells_at Tryz.prog g 0 t (bs x) 0 cur.toArray W hg (by simp [bs_length,hx,hc]) (bs_one x)
 have hl:(bs x).length=128:=by rw [bs_length,hx]
 simp [storeVar,secV,Value.cells,hl,hs]
 rw [show List.drop 128 cur = [] from List.drop_eq_nil_of_le (by omega)]
 simp
end Dsk
namespace Dsk
open Go.RowKit Go.Maps
def wr1(F:FS)(at_:Nat)(s:Sec):FS:=if at_<F.now.length then ⟨F.now.set at_ s,F.old,F.dirt.set at_ true⟩ else ⟨F.now++[s],F.old,F.dirt++[true]⟩
def wrN(F:FS)(at_:Nat):List Sec→FS
 | []=>F
 | s::r=>wrN (wr1 F at_ s) (at_+1) r
theorem secs_append(l r:List Sec):secs (l++r)=secs l++secs r:=by simp [secs,bs]
theorem secs_one(x:Sec):secs [x]=bs x:=by simp [secs]
variable {l:List Sec}
theorem secs_length(h:∀ x∈l,x.length=128):(secs l).length=l.length*128:=by
 induction l with
 | nil=>rfl
 | cons a r ih=>
  have:=ih (fun x hx=>h x (List.mem_cons_of_mem _ hx))
  have ha:=h a List.mem_cons_self
  rw [show secs (a::r)=bs a++secs r from secs_append [a] r▸by simp [secs],List.length_append,this,bs_length,ha,List.length_cons]
  omega
theorem secs_cons(a:Sec)(r:List Sec):secs (a::r)=bs a++secs r:=by simp [secs,bs]
theorem secs_get(h:∀ x∈l,x.length=128)(i j:Nat)(hi:i<l.length)(hj:j<128):(secs l)[i*128+j]? = (bs (l.getD i []))[j]?:=by
 induction l generalizing i with
 | nil=>simp at hi
 | cons a r ih=>
  have ha:=h a List.mem_cons_self
  rw [secs_cons]
  cases i with
  | zero=>rw [List.getElem?_append_left (by rw [bs_length];omega)];simp
  | succ i=>
   rw [List.getElem?_append_right (by rw [bs_length];omega),bs_length,ha,show (i+1)*128+j - 128=i*128+j by omega,ih (fun x hx=>h x (List.mem_cons_of_mem _ hx)) i (by simpa using hi)]
   simp
theorem secs_set(h:∀ x∈l,x.length=128)(i:Nat)(hi:i<l.length)(x:Sec)(hx:x.length=128):splice (secs l) (i*128) (bs x)=secs (l.set i x):=by
 induction l generalizing i with
 | nil=>simp at hi
 | cons a r ih=>
  have ha:=h a List.mem_cons_self
  have hal:(bs a).length=128:=by rw [bs_length,ha]
  cases i with
  | zero=>simp [splice,secs_cons,bs_length,hx,←hal]
  | succ i=>
   have:=ih (fun x hx=>h x (List.mem_cons_of_mem _ hx)) i (by simpa using hi)
   simp only [List.set_cons_succ,secs_cons,←this,splice]
   rw [show (i+1)*128=(bs a).length+i*128 by omega,List.take_length_add_append,Nat.add_assoc,List.drop_length_add_append]
   simp
variable {F:FS} {cap cap' m p o:Nat} {ao ao':Option Addr} {S:Nat→Prop} {w w':World}
theorem FileAt.rowed{S':Nat→Prop}{now:List Sec}(h:FileAt w p o S ao cap m F)
  (c0:w'.cell? ⟨p,o,none⟩=some (.slice ao' now.length cap')) (hc:∀ i,i≠o→w'.cell? ⟨p,i,none⟩=w.cell? ⟨p,i,none⟩) (hf:∀ i,w'.frozen? ⟨p,i,none⟩=w.frozen? ⟨p,i,none⟩)
  (row:w'.ownsRow 0 306 128 (.slice ao' now.length cap') now.length (secs now)) (hm:w'.heap[m]? = w.heap[m]?) (hS:∀ k,S k→S' k) (np:¬S' p) (ina:∀ a,ao'=some a→S' a.block) :
  FileAt w' p o S' ao' cap' m ⟨now,F.old,F.dirt⟩:=
 ⟨c0,(hc _ (by omega)).trans h.c1,(hc _ (by omega)).trans h.c2,(hf _).trans h.f0,(hf _).trans h.f1,(hf _).trans h.f2,row,map_stay h.map hm,np,ina,hS _ h.inm⟩
theorem FileAt.later(h:FileAt w p o S ao cap m F)(hb:Below w.heap.size w w'):FileAt w' p o S ao cap m F:=
 h.stay (fun k hk _=>hb.block k hk) (fun _ _ _=>World.cell?_of_block (hb.block p h.plt)) (fun _=>World.frozen?_of_block (hb.block p h.plt))
variable {w1:World}
theorem FFrame.later{w2:World}(h:FFrame w w1 p o S)(hp:p<w1.heap.size)(hb:Below w1.heap.size w1 w2):FFrame w w2 p o S:=
 h.trans ⟨hb.os,hb.tape,hb.output,hb.size,fun k hk _ _=>hb.block k hk,fun _ _ _ _=>World.cell?_of_block (hb.block p hp),fun _=>World.frozen?_of_block (hb.block p hp)⟩
theorem FileAt.row_block(h:FileAt w p o S ao cap m F):∀ a,ao=some a→a.block≠m∧a.block≠p:=by
 intro a ha
 refine ⟨?_,fun e=>h.np (e▸h.ina a ha)⟩
 rcases h.row.2 with ⟨hn,_⟩ | ⟨g,cap',cur,hv,hb',hg,hr⟩
 ·simp only [Value.slice.injEq]at hn;rw [ha]at hn;simp at hn
 ·simp only [Value.slice.injEq]at hv
  obtain ⟨rfl,_⟩:=hv
  cases ha
  rintro rfl
  obtain ⟨es,clock,hg',_⟩:=h.map
  rw [hg]at hg';cases hg'
theorem FileAt.mp(h:FileAt w p o S ao cap m F):m≠p:=fun e=>h.np (e▸h.inm)
theorem step_append{wr:World}{ao1:Option Addr}{cap1 m':Nat}{F':FS}{ob:Obj}(HF:FileAt wr p o (From S w) ao' cap' m' F')(HFR:FFrame w wr p o S)
  (hown:w1.ownsRow 0 306 128 (.slice ao1 (F'.now.length+1) cap1) (F'.now.length+1) (secs F'.now++bs noughts)) (hg:(wr.alloc ob).grownBy w1 (Value.slice ao' F'.now.length cap').ownBlock)
  (hloc:(Value.slice ao1 (F'.now.length+1) cap1).ownBlock=(Value.slice ao' F'.now.length cap').ownBlock∨(Value.slice ao1 (F'.now.length+1) cap1).ownBlock=some (wr.alloc ob).heap.size) :
  FileAt (w1.setCell ⟨p,o,none⟩ (.slice ao1 (F'.now.length+1) cap1)) p o (From S w) ao1 cap1 m' ⟨F'.now++[noughts],F'.old,F'.dirt⟩∧FFrame w (w1.setCell ⟨p,o,none⟩ (.slice ao1 (F'.now.length+1) cap1)) p o S ∧
   w1.cell? ⟨p,o,none⟩=some (.slice ao' F'.now.length cap')∧w1.cell? ⟨p,o+2,none⟩=some (.map (some m'))∧w1.frozen? ⟨p,o,none⟩=false:=by
 have hpl:=HF.plt
 have hal:∀ k,k<wr.heap.size→(wr.alloc ob).heap[k]? = wr.heap[k]?:=fun k hk=>heap_alloc_old _ _ _ hk
 have hsz:(wr.alloc ob).heap.size=wr.heap.size+1:=by simp
 have hown':∀ k,(Value.slice ao' F'.now.length cap').ownBlock=some k→From S w k∧k≠p∧k≠m'∧k<wr.heap.size:=by
  intro k hk
  cases ao' with
  | none=>cases hk
  | some a=>
   simp only [Value.ownBlock,Option.some.injEq]at hk
   subst hk
   have:=HF.row_block a rfl
   exact ⟨HF.ina a rfl,this.2,this.1,row_lt HF.row a rfl⟩
 have hbl:∀ k,k<wr.heap.size→some k≠(Value.slice ao' F'.now.length cap').ownBlock→w1.heap[k]? = wr.heap[k]?:=fun k hk hne=>
  (hg.block k (by omega) hne).trans (hal k hk)
 have hpb:w1.heap[p]? = wr.heap[p]?:=hbl p hpl (fun e=>(hown' p e.symm).2.1 rfl)
 have hmb:w1.heap[m']? = wr.heap[m']?:=hbl m' HF.map.lt (fun e=>(hown' m' e.symm).2.2.1 rfl)
 have hcp:∀ i,w1.cell? ⟨p,i,none⟩=wr.cell? ⟨p,i,none⟩:=fun i=>World.cell?_of_block hpb
 have hfp:∀ i,w1.frozen? ⟨p,i,none⟩=wr.frozen? ⟨p,i,none⟩:=fun i=>World.frozen?_of_block hpb
 have hina:∀ a,ao1=some a→From S w a.block∧a.block≠p:=by
  rintro a rfl
  rcases hloc with h |h
  ·have:=hown' a.block h.symm
   exact ⟨this.1,this.2.1⟩
  ·simp only [Value.ownBlock,Option.some.injEq]at h
   have h2:=HFR.size
   refine ⟨Or.inr (by omega),by omega⟩
 refine ⟨HF.rowed ?_ ?_ ?_ ?_ ?_ (fun _ h=>h) HF.np (fun a ha=>(hina a ha).1),HFR.trans ⟨hg.os,hg.tape,hg.output,?_,?_,?_,?_⟩,(hcp o).trans HF.c0,(hcp _).trans HF.c2,(hfp o).trans HF.f0⟩
 ·rw [set_same ((hcp o).trans HF.c0)];simp
 ·exact fun i hi=>(set_off _ _ _ (Ne.symm hi)).trans (hcp i)
 ·exact fun i=>by rw [World.frozen?_setCell];exact hfp i
 ·rw [secs_append,secs_one,List.length_append,List.length_singleton]
  exact row_stay hown (fun a ha=>set_heap _ _ _ _ _ (hina a ha).2)
 ·rw [set_heap _ _ _ _ _ HF.mp];exact hmb
 ·have:=hg.size;simp at this ⊢;omega
 ·intro k hk hkp hS
  rw [set_heap _ _ _ _ _ hkp]
  exact hbl k hk (fun e=>hS (hown' k e.symm).1)
 ·intro i h0 _ _
  exact (set_off _ _ _ (Ne.symm h0)).trans (hcp i)
 ·exact fun i=>by rw [World.frozen?_setCell];exact hfp i
variable {i:Nat}
theorem step_put{dirt':List Bool}(HF:FileAt w p o S ao cap m F)(h0:F.dirt.getD i false=false)(hd:∀ j,dirt'.getD j false=(F.dirt.getD j false||decide (j=i))){n:Nat}
  (hown:w'.ownsMap Tryz.prog 3 secR m n ((dirtD F.dirt F.old).put (.int .i64 (i:Int)) (secD (was F.old i)))) (hg:w.grownBy w' (some m)) :
  FileAt w' p o S ao cap m ⟨F.now,F.old,dirt'⟩∧FFrame w w' p o S:=by
 have hbl:∀ k,k<w.heap.size→k≠m→w'.heap[k]? = w.heap[k]?:=fun k hk hne=>hg.block k hk (by simpa using hne)
 have hpb:=hbl p HF.plt (Ne.symm HF.mp)
 have e:=put_dirt h0 hd (hown.canon (int_keyed Tryz.underlying3))
 rw [e]at hown
 have ht:=tight hown
 rw [size_dirt]at ht
 refine ⟨⟨(World.cell?_of_block hpb).trans HF.c0,(World.cell?_of_block hpb).trans HF.c1,(World.cell?_of_block hpb).trans HF.c2,(World.frozen?_of_block hpb).trans HF.f0,(World.frozen?_of_block hpb).trans HF.f1,(World.frozen?_of_block hpb).trans HF.f2,
  row_stay HF.row (fun a ha=>hbl _ (row_lt HF.row a ha) (HF.row_block a ha).1),ht,HF.np,HF.ina,HF.inm⟩,⟨hg.os,hg.tape,hg.output,hg.size,fun k hk _ hS=>hbl k hk (fun e=>hS (e▸HF.inm)),fun _ _ _ _=>World.cell?_of_block hpb,fun _=>World.frozen?_of_block hpb⟩⟩
theorem step_copy{g:Nat}{x:Sec}(HF:FileAt w p o S (some ⟨g,0,none⟩) cap m F)(sn:∀ x∈F.now,x.length=128)(hi:i<F.now.length)(hx:x.length=128) :
  ∃ cur:Array Value,w.heap[g]? = some (.cells cur 306 (0,0))∧i*128+128≤cur.size∧(∀ j,j<128→cur.toList[i*128+j]? = (bs (F.now.getD i []))[j]?) ∧
   ∀ (k:Nat) (y:List Nat),k+y.length=128→x=(F.now.getD i []).take k++y →
    FileAt (w.setRow g (cur.toList.take (i*128+k)++(bs y++cur.toList.drop (i*128+k+(bs y).length))).toArray) p o S (some ⟨g,0,none⟩) cap m ⟨F.now.set i x,F.old,F.dirt⟩ ∧
    FFrame w (w.setRow g (cur.toList.take (i*128+k)++(bs y++cur.toList.drop (i*128+k+(bs y).length))).toArray) p o S:=by
 have hrb:=HF.row_block _ rfl
 rcases HF.row.2 with ⟨hn,_⟩ | ⟨g',cap',cur,hv,hb',hg,hnc,hcm,hcs,htk⟩
 ·simp at hn
 ·simp only [Value.slice.injEq,Option.some.injEq,Addr.mk.injEq,and_true,true_and]at hv
  obtain ⟨rfl,rfl⟩:=hv
  have hle:i*128+128≤cur.size:=by rw [hcs];have:(i+1)*128≤cap*128:=Nat.mul_le_mul_right _ (by omega);omega
  have hget:∀ j,j<128→cur.toList[i*128+j]? = (bs (F.now.getD i []))[j]?:=by
   intro j hj
   rw [←secs_get sn i j hi hj,←htk,List.getElem?_take,if_pos (by have:(i+1)*128≤F.now.length*128:=Nat.mul_le_mul_right _ (by omega);omega)]
  refine ⟨cur,hg,hle,hget,fun k y hky hxy=>?_⟩
  have hnl:(F.now.getD i []).length=128:=by
   rw [List.getD,List.getElem?_eq_getElem hi];exact sn _ (List.getElem_mem hi)
  have hbl:∀ c j,j≠g→(w.setRow g c).heap[j]? = w.heap[j]?:=fun c j hj=>setRow_other w g j c hj
  have hpb:∀ c,(w.setRow g c).heap[p]? = w.heap[p]?:=fun c=>hbl c p (Ne.symm hrb.2)
  -- the row
  have hrow:(cur.toList.take (i*128+k)++(bs y++cur.toList.drop (i*128+k+(bs y).length)))=splice cur.toList (i*128) (bs x):=by
   have hbx:bs x=(cur.toList.drop (i*128)).take k++bs y:=by
    rw [hxy,bs_append]
    congr 1
    apply List.ext_getElem?
    intro t
    rw [List.getElem?_take]
    split
    ·rename_i ht
     rw [List.getElem?_drop,hget t (by omega)]
     simp [bs,ht]
    ·rw [List.getElem?_eq_none (by simp [bs_length];omega)]
   rw [splice,hbx]
   have hl1:((cur.toList.drop (i*128)).take k++bs y).length=128:=by
    simp [bs_length];omega
   rw [hl1,List.append_assoc]
   have e1:cur.toList.take (i*128+k)=cur.toList.take (i*128)++(cur.toList.drop (i*128)).take k:=List.take_add
   rw [e1,List.append_assoc,bs_length,show i*128+k+y.length=i*128+128 by omega]
  rw [hrow]
  have hsl:(splice cur.toList (i*128) (bs x)).length=cur.size:=by
   rw [length_splice _ _ _ (by rw [bs_length,hx,Array.length_toList];omega)];simp
  refine ⟨?_,⟨rfl,rfl,rfl,by simp [World.setRow],fun j _ _ hS=>hbl _ j (fun e=>hS (e▸HF.ina _ rfl)),fun _ _ _ _=>World.cell?_of_block (hpb _),fun _=>World.frozen?_of_block (hpb _)⟩⟩
  have hR:=HF.rowed (now:=F.now.set i x) (cap':=cap) (ao':=some ⟨g,0,none⟩) (S':=S) (w':=w.setRow g (splice cur.toList (i*128) (bs x)).toArray) (by rw [List.length_set];exact (World.cell?_of_block (hpb _)).trans HF.c0) (fun _ _=>World.cell?_of_block (hpb _)) (fun _=>World.frozen?_of_block (hpb _)) ?_ (hbl _ m (Ne.symm hrb.1)) (fun _ h=>h) HF.np HF.ina
  ·exact hR
  ·rw [List.length_set]
   refine ⟨?_,.inr ⟨g,cap,_,rfl,hb',setRow_heap w g _ _ _ _ hg,hnc,hcm,by simp [hsl,hcs],?_⟩⟩
   ·rw [secs_length (fun z hz=>by rcases List.mem_or_eq_of_mem_set hz with h |rfl;exact sn z h;exact hx),List.length_set]
   ·rw [←secs_set sn i hi x hx]
    simp only [splice,bs_length,hx]
    rw [←htk]
    have hin:i*128+128≤F.now.length*128:=by have:(i+1)*128≤F.now.length*128:=Nat.mul_le_mul_right _ (by omega);omega
    rw [List.take_take,Nat.min_eq_left (by omega),List.take_append,List.take_append,List.take_take,List.drop_take]
    simp only [List.length_take,Array.length_toList,bs_length,hx]
    rw [Nat.min_eq_right (by omega),Nat.min_eq_left (by omega)]
    congr 1
    rw [List.take_of_length_le (by rw [bs_length,hx];omega)]
    congr 1
end Dsk
namespace Dsk
open Go.RowKit Go.Maps
variable {w:World} {a:Act} {o:Oper} {ops:Array Oper} {P:Program}
theorem wpList_lookup_sec{rest:List Oper}{Q:Exit→Act→World→Prop}(hg:o.guard=none)(m x:Operand)(t:TypeId)(hop:o.op=Op.lookup t m x true)
  (k e:TypeId) (K:Keyed P k) (ht:P.underlying t=some (.map k e)) (hz:(zeroValue e).run P w=.ok (secV noughts) w) (b n:Nat) (D:DataW Unit)
  (hm:a.eval m=.map (some b)) (hown:w.ownsMap P k secR b n D) (key:Value) (kl:Lit) (hx:a.eval x=key) (hkey:keyOf P k key=some kl) (X:Sec) (h:Bool) (hat:D.atKey kl (secD noughts)=secD X) (hh:Maps.has D kl=h)
  (hK:wpList P ops Q rest (a.put o.dst (.tuple #[secV X,.bool h])) w):wpList P ops Q (o::rest) a w:=
 wpList_lookup_own_ok w hg m x t hop k e K ht secR hz (secD noughts) [] (secR_mk _) b n D hm hown key kl hx hkey (fun v ps hv=>by
  rw [hat]at hv
  rw [secR_inv hv,hh]
  exact hK)
theorem exec_load{ρ:Operand→Value}{ty:TypeId}{x:Operand}{ad:Addr}{v:Value}{W:World}(ho:o.op=.load ty x)(hx:ρ x=.pointer (some ad))(hrun:(loadVar ty ad).run P W=.ok v W):(execOp ρ o).run P W=.ok (.value v) W:=by
 simp [execOp,ho,hx,Instr.loadAt,Instr.sureAddr,hrun]
variable {E:Prop}
theorem step_mapUpdate{K:Act→World→Prop}{Q:Exit→Act→World→Prop}(hgd:o.guard=none)(m x v:Operand)(t:TypeId)(hop:o.op=Op.mapUpdate t m x v)
  (k e:TypeId) (KK:Keyed P k) (ht:P.underlying t=some (.map k e)) (R:Value→Option (DataW Unit×List MemPlace)) (b n:Nat) (D:DataW Unit)
  (hm:a.eval m=.map (some b)) (hown:w.ownsMap P k R b n D) (hn:n<maxLen) (key val:Value) (kl:Lit) (hx:a.eval x=key) (hv:a.eval v=val) (hkey:keyOf P k key=some kl)
  (d:DataW Unit) (ps:List MemPlace) (hval:R val=some (d,ps))
  (hK:∀ w',w'.ownsMap P k R b (n+1) (D.put kl d)→w.grownBy w' (some b)→K (a.put o.dst undef) w') :
  if Region.wanted o (yielded ops a.tmps)=true then Oper.wp P o a w K Q else E:=by
 have hw:Region.wanted o (yielded ops a.tmps)=true:=by simp [Region.wanted,hgd]
 rw [if_pos hw]
 obtain ⟨w',hrun,r1,r2⟩:=hown.update KK ht hn hkey hval
 unfold Oper.wp
 simp [execOp,hop,hm,hx,hv,hrun,Result.andThen]
 exact hK w' r1 r2
theorem step_copy_row{K:Act→World→Prop}{Q:Exit→Act→World→Prop}(hgd:o.guard=none)(d s:Operand)(dT sT:TypeId)
  (ho:o.op=.call { callee:=.builtin .copy,args:=#[d,s],argTypes:=#[dT,sT] }) (elem:TypeId) (hu:P.underlying dT=some (.slice elem)) (hsz:(P.info? elem).map (·.size)=some 1)
  (g off dLen dCap:Nat) (ad:Addr) (sLen sCap:Nat) (hd:a.eval d=.slice (some ⟨g,off,none⟩) dLen dCap) (hs:a.eval s=.slice (some ad) sLen sCap)
  (cur:Array Value) (t:TypeId) (hg:w.heap[g]? = some (.cells cur t (0,0))) (cs:List Value) (hn:cs.length=Nat.min sLen dLen)
  (hsrc:∀ j v,cs[j]? = some v→w.cell? (ad.add j)=some v) (hfit:off+cs.length≤cur.size) (h1:∀ v∈cs,v.oneCell'=true)
  (h:K (a.put o.dst (goInt cs.length)) (w.setRow g (cur.toList.take off++(cs++cur.toList.drop (off+cs.length))).toArray)) :
  if Region.wanted o (yielded ops a.tmps)=true then Oper.wp P o a w K Q else E:=by
 have hw:Region.wanted o (yielded ops a.tmps)=true:=by simp [Region.wanted,hgd]
 rw [if_pos hw]
 have hrun:=run_copy_row (P:=P) w dT sT o.type elem g off dLen dCap ad sLen sCap cur t cs hu hsz hg hn hsrc hfit h1
 unfold Oper.wp
 simp [execOp,ho,resolve,invoke,builtin,hd,hs,hrun,Result.andThen]
 exact h
variable {F:FS}
theorem wr1_ok(ok:F.Ok){i:Nat}(hi:i≤F.now.length){s:Sec}(hs:s.length=128):(wr1 F i s).Ok:=by
 unfold wr1
 split
 ·rename_i h
  refine ⟨by simp [ok.ld],by simpa using ok.lo,fun x hx=>?_,ok.so,fun j hj hd=>?_⟩
  ·rcases List.mem_or_eq_of_mem_set hx with h1 |rfl
   ·exact ok.sn x h1
   ·exact hs
  ·simp only [List.length_set]at hj
   simp only [List.getD,List.getElem?_set]at hd ⊢
   by_cases hij:i=j
   ·subst hij;simp [ok.ld,h]at hd
   ·rw [if_neg hij]at hd ⊢
    exact ok.cl j hj hd
 ·rename_i h
  have e:i=F.now.length:=by omega
  refine ⟨by simp [ok.ld],by have:=ok.lo;simp;omega,fun x hx=>?_,ok.so,fun j hj hd=>?_⟩
  ·rcases List.mem_append.1 hx with h1 |h1
   ·exact ok.sn x h1
   ·simp only [List.mem_singleton]at h1;rw [h1];exact hs
  ·simp only [List.length_append,List.length_singleton]at hj
   by_cases hjl:j<F.now.length
   ·simp only [List.getD]at hd ⊢
    rw [List.getElem?_append_left (by rw [ok.ld];exact hjl)]at hd
    rw [List.getElem?_append_left hjl]
    exact ok.cl j hjl hd
   ·have:j=F.dirt.length:=by rw [ok.ld];omega
    subst this
    simp [List.getD]at hd
variable {i:Nat}
theorem wr1_in(hi:i<F.now.length)(s:Sec):wr1 F i s=⟨F.now.set i s,F.old,F.dirt.set i true⟩:=by simp [wr1,hi]
theorem wr1_end(s:Sec):wr1 F F.now.length s=⟨(F.now++[noughts]).set F.now.length s,F.old,F.dirt++[true]⟩:=by simp [wr1]
theorem wr1_len(F:FS)(i:Nat)(s:Sec)(hi:i≤F.now.length):(wr1 F i s).now.length≤max F.now.length (i+1)∧i+1≤(wr1 F i s).now.length:=by
 unfold wr1
 split
 ·simp;omega
 ·simp;omega
variable {d:List Bool}
theorem set_dirt(hi:i<d.length)(j:Nat):(d.set i true).getD j false=(d.getD j false||decide (j=i)):=by
 simp only [List.getD,List.getElem?_set]
 by_cases h:i=j
 ·subst h;simp [hi]
 ·rw [if_neg h];simp [Ne.symm h]
theorem set_same_dirt(h:d.getD i false=true):d.set i true=d:=by
 apply List.ext_getElem?
 intro j
 rw [List.getElem?_set]
 split
 ·rename_i e;subst e
  split
  ·rename_i hl;rw [List.getD,List.getElem?_eq_getElem hl]at h;rw [List.getElem?_eq_getElem hl];simpa using h.symm
  ·rename_i hl;rw [List.getElem?_eq_none (by omega)]
 ·rfl
theorem app_dirt(d:List Bool)(j:Nat):(d++[true]).getD j false=(d.getD j false||decide (j=d.length)):=by
 simp only [List.getD]
 rcases Nat.lt_trichotomy j d.length with h |h |h
 ·rw [List.getElem?_append_left h];simp [show j≠d.length by omega]
 ·subst h;simp
 ·rw [List.getElem?_eq_none (by simp;omega),List.getElem?_eq_none (by omega)];simp [show j≠d.length by omega]
theorem end_clean(d:List Bool):d.getD d.length false=false:=by simp [List.getD]
theorem was_end(ok:F.Ok):was F.old F.now.length=noughts:=by
 rw [was,List.getD,List.getElem?_eq_none ok.lo];rfl
theorem was_len(ok:F.Ok)(i:Nat):(was F.old i).length=128:=by
 rw [was,List.getD]
 cases h:F.old[i]? with
 | none=>exact noughts_length
 | some x=>exact ok.so x (List.mem_of_getElem? h)
end Dsk
end Go.Proofs.YtfcikkechphmaaaGreatDoor
