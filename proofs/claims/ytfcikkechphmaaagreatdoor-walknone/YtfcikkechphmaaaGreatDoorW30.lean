/- Lists of records in memory, and what records makes of seeds; no statement of the seat is proved here. -/
import Derived.Test.YtfcikkechphmaaaGreatDoorW13
import Derived.Deep.DeepCutAuto
import Derived.Test.YtfcikkechphmaaaGreatDoorW10
import Derived.Test.YtfcikkechphmaaaGreatDoorW26
import Derived.Test.YtfcikkechphmaaaGreatDoorW29
import Derived.Test.YtfcikkechphmaaaGreatDoorW18
import Derived.Shelf.SlicesE.DeleteFunc
import Derived.Lib.OwnBridge
import Derived.Test.YtfcikkechphmaaaGreatDoorW14
set_option maxHeartbeats 16000000
set_option maxRecDepth 20000
namespace Go.Proofs.YtfcikkechphmaaaGreatDoor
namespace Jrn
open Go.RowKit
end Jrn
namespace Jrn
open Go.RowKit
end Jrn
namespace Jrn
open Go.RowKit
end Jrn
namespace Jrn
open Go.RowKit
end Jrn
section
open Go.RowKit Go.Maps
open Dsk (gt hid undrew keep_old keep_cell lt_cell Rd DS FS Sec DiskP DFrame Grew From writeD syncD cutD lenD readD newD known)
open Cch (wpAnyK)
theorem wpAnyK_more{P:Program}{ops:Array Oper}{Q:Exit→Act→World→Prop}{md:Region.Mode}{S S':World→Prop}{E:Nat→Bool}(hSS:∀ w,S' w→S w):∀ {fuel:Nat} {listed:Array Bool} {a:Act} {w:World},wpAnyK P md ops Q S' E fuel listed a w→wpAnyK P md ops Q S E fuel listed a w
 | 0,_,_,_,h=>h
 | _+1,_,_,_,h=>⟨h.1,fun i hi=>wpOp_mono (fun _ _ h'=>⟨fun hc=>hSS _ (h'.1 hc),wpAnyK_more hSS h'.2⟩) (h.2 i hi)⟩
abbrev Gr(w W:World):Prop:=Below w.heap.size w W
abbrev Gv(o:Value)(w W:World):Prop:=Cch.Fr (fun b=>o.ownBlock=some b) w W
theorem lit_src(w:World)(us:List Value)(e:TypeId)(h1:∀ u∈us,u.oneCell'=true):Cch.Src (w.alloc (.cells us.toArray e)) (some ⟨w.heap.size,0,none⟩) us.length us.length us:=
 ⟨rfl,fun h=>(by cases h),fun ad e j u hu=>by
  obtain rfl:=Option.some.inj e
  rw [Addr.add_lit,World.cell?_alloc_at _ _ _ _ rfl]
  simpa using hu,h1⟩
theorem step_func{w:World}{q:Nat}{N:Nat→Prop}{v:Value}{s:Stp}(h:StepAt w q N v s):∃ n cs,v=.func (.func n) #[] cs:=by
 cases s with
 | wr f a ss=>obtain ⟨b0,b1,b2,b3,ao,n,cap,rfl,_⟩:=h;exact ⟨_,_,rfl⟩
 | sy f=>obtain ⟨b0,b1,rfl,_⟩:=h;exact ⟨_,_,rfl⟩
 | ct f m=>obtain ⟨b0,b1,b2,rfl,_⟩:=h;exact ⟨_,_,rfl⟩
end
section
open Go.RowKit Go.Maps
open Dsk (gt hid undrew keep_old keep_cell lt_cell Rd DS FS Sec DiskP DFrame Grew From writeD syncD cutD lenD readD newD known op_at)
open Cch (wpAnyK wpAnyK_take wpAnyK_pure wpAnyK_ready wpAnyK_done wp_region_K AllReadyK.cons AllReadyK.nil)
end
section
open Go.RowKit Go.Maps Go.Sort Go.Shelf
open Dsk (gt hid undrew keep_old keep_cell lt_cell Rd DS FS Sec DiskP DFrame Grew From secD secD_inj idx entry dirtD was mem_idx canon_dirt has_dirt at_dirt size_dirt keys_dirt dirt_ext mem_insert behind)
theorem hao(w:World)(o:Obj)(i:Nat)(h:i<w.heap.size):(w.alloc o).heap[i]? = w.heap[i]?:=by first|exact heap_alloc_old _ _ _ h|exact heap_alloc_old _ _ h
def slR:Value→Option (DataW Unit×List MemPlace)
 | .slice (some ⟨b,o,none⟩) n c=>some (secD [b,o,n,c],[])
 | .slice none _ _=>some (secD [],[])
 | _=>none
theorem slR_mk(b o n c:Nat):slR (.slice (some ⟨b,o,none⟩) n c)=some (secD [b,o,n,c],[]):=rfl
theorem slR_nil:slR (.slice none 0 0)=some (secD [],[]):=rfl
variable {n:Nat}
theorem slR_inv{v:Value}{b o c:Nat}{ps:List MemPlace}(h:slR v=some (secD [b,o,n,c],ps)):v=.slice (some ⟨b,o,none⟩) n c:=by
 unfold slR at h
 split at h
 ·simp only [Option.some.injEq,Prod.mk.injEq]at h
  have e:=secD_inj h.1
  simp only [List.cons.injEq,and_true]at e
  obtain ⟨rfl,rfl,rfl,rfl⟩:=e
  rfl
 ·simp only [Option.some.injEq,Prod.mk.injEq]at h
  have e:=secD_inj h.1
  simp at e
 ·cases h
theorem put_ch{dirt dirt':List Bool}{old old':List Sec}{i:Nat}{x:Sec}(hd:∀ j,dirt'.getD j false=(dirt.getD j false||decide (j=i)))(ho:∀ j,dirt.getD j false=true→j≠i→was old' j=was old j)(hx:was old' i=x)
  (hc:Canon ((dirtD dirt old).put (.int .i64 (i:Int)) (secD x))):(dirtD dirt old).put (.int .i64 (i:Int)) (secD x)=dirtD dirt' old':=by
 refine dirt_ext hc dirt' old' fun es he p=>?_
 simp only [dirtD,DataW.put,DataW.map.injEq]at he
 rw [←he,mem_insert,List.mem_filter]
 constructor
 ·rintro (rfl | ⟨hp,hs⟩)
  ·exact ⟨i,by rw [hd];simp,by rw [entry,hx]⟩
  ·obtain ⟨j,hj,rfl⟩:=List.mem_map.1 hp
   have hji:j≠i:=by
    intro e
    subst e
    simp [entry,Lit.sameKey]at hs
   exact ⟨j,by rw [hd,mem_idx.1 hj];rfl,by rw [entry,entry,ho j (mem_idx.1 hj) hji]⟩
 ·rintro ⟨j,hj,rfl⟩
  by_cases hji:j=i
  ·subst hji;left;rw [entry,hx]
  ·right
   rw [hd]at hj
   simp only [hji,decide_false,Bool.or_false]at hj
   refine ⟨List.mem_map.2 ⟨j,mem_idx.2 hj,by rw [entry,entry,ho j hj hji]⟩,?_⟩
   simp only [entry,Lit.sameKey,true_and,Bool.not_eq_true',decide_eq_false_iff_not]
   omega
structure Chg (w:World) (N:Nat→Prop) (m n:Nat) (now:List (List Nat)) (c:List Bool) (enc:List Sec):Prop where
 map:w.ownsMap Tryz.prog 3 slR m n (dirtD (false::c) enc)
 len:c.length=now.length
 el:enc.length=c.length+1
 at_:∀ i,c.getD i false=true→∃ b o cap,was enc (i+1) = [b,o,512,cap]∧Rd w (some ⟨b,o,none⟩) 512 cap (now.getD i [])∧Out w N b
variable {m:Nat} {w w':World}
theorem map_df{D:DataW Unit}(h:w.ownsMap Tryz.prog 3 slR m n D)(hb:w'.heap[m]? = w.heap[m]?):w'.ownsMap Tryz.prog 3 slR m n D:=by
 obtain ⟨es,clock,h1,h2⟩:=h
 exact ⟨es,clock,hb.trans h1,h2⟩
variable {enc:List Sec} {c:List Bool} {now:List (List Nat)} {N:Nat→Prop}
theorem Chg.turn{N':Nat→Prop}(h:Chg w N m n now c enc)(hm:w'.heap[m]? = w.heap[m]?)(ho:∀ b,Out w N b→Out w' N' b)(hc:∀ b o v,Out w N b→w.cell? ⟨b,o,none⟩=some v→w'.cell? ⟨b,o,none⟩=some v):Chg w' N' m n now c enc:=
 ⟨map_df h.map hm,h.len,h.el,fun i hi=>by
  obtain ⟨b,o,cap,e,hr,hob⟩:=h.at_ i hi
  refine ⟨b,o,cap,e,⟨hr.1,hr.2.1,hr.2.2.1,fun hp=>?_⟩,ho _ hob⟩
  obtain ⟨b',o',e',h2⟩:=hr.2.2.2 hp
  simp only [Option.some.injEq,Addr.mk.injEq,and_true]at e'
  obtain ⟨rfl,rfl⟩:=e'
  exact ⟨b,o,rfl,fun t ht=>hc _ _ _ hob (h2 t ht)⟩⟩
theorem Chg.later(h:Chg w N m n now c enc)(hb:Below w.heap.size w w'):Chg w' N m n now c enc:=
 h.turn (hb.block m h.map.lt) (fun _ ho=>ho.later hb.size) (fun _ _ _ _ hc=>keep_old hb hc)
theorem zeroB(W:World):(zeroValue 48).run Tryz.prog W=.ok (.slice none 0 0) W:=by kernel_rfl
end
section
open Go.RowKit Go.Maps
open Dsk (gt hid undrew keep_old keep_cell lt_cell Rd DS FS Sec DiskP DFrame Grew From writeD syncD cutD lenD readD newD known)
open Cch (CS CP Fr)
structure PC where
 q:Nat
 k:Nat
 pages:Nat
 busy:Bool
 np:Nat
 m:Nat
 mo:Option Addr
 ml:Nat
 mc:Nat
 last:Nat
 com:Nat
 rep:Nat
def hdP(x:PC):List Value:=[.bool true,.int .i64 0,.pointer (some ⟨x.q,0,none⟩),.pointer (some ⟨x.k,0,none⟩),.int .i64 (x.pages:Int),.bool x.busy,.int .i64 (x.np:Int),.map (some x.m),.slice x.mo x.ml x.mc,.int .i64 (x.last:Int),.int .i64 (x.com:Int),.int .i64 (x.rep:Int)]
def PgAt(w:World)(p:Nat)(x:PC):Prop:=w.heap[p]? = some (.cells (hdP x).toArray 128 (0,0))
variable {x:PC} {p:Nat} {w:World}
theorem PgAt.lt(h:PgAt w p x):p<w.heap.size:=(Array.getElem?_eq_some_iff.1 h).1
theorem PgAt.cell(h:PgAt w p x)(i:Nat):w.cell? ⟨p,i,none⟩=(hdP x)[i]?:=Cch.hd_cell h i
theorem PgAt.cells(h:PgAt w p x):w.cell? ⟨p,0,none⟩=some (.bool true)∧w.cell? ⟨p,1,none⟩=some (.int .i64 0)∧w.cell? ⟨p,2,none⟩=some (.pointer (some ⟨x.q,0,none⟩))∧w.cell? ⟨p,3,none⟩=some (.pointer (some ⟨x.k,0,none⟩)) ∧
  w.cell? ⟨p,4,none⟩=some (.int .i64 (x.pages:Int))∧w.cell? ⟨p,5,none⟩=some (.bool x.busy)∧w.cell? ⟨p,6,none⟩=some (.int .i64 (x.np:Int))∧w.cell? ⟨p,7,none⟩=some (.map (some x.m))∧w.cell? ⟨p,8,none⟩=some (.slice x.mo x.ml x.mc)∧w.cell? ⟨p,9,none⟩=some (.int .i64 (x.last:Int))∧w.cell? ⟨p,10,none⟩=some (.int .i64 (x.com:Int))∧w.cell? ⟨p,11,none⟩=some (.int .i64 (x.rep:Int)):=
 ⟨h.cell 0,h.cell 1,h.cell 2,h.cell 3,h.cell 4,h.cell 5,h.cell 6,h.cell 7,h.cell 8,h.cell 9,h.cell 10,h.cell 11⟩
theorem PgAt.frozen(h:PgAt w p x)(i:Nat):w.frozen? ⟨p,i,none⟩=false:=Cch.hd_frozen h i
variable {w':World}
theorem PgAt.stay(h:PgAt w p x)(hb:w'.heap[p]? = w.heap[p]?):PgAt w' p x:=hb.trans h
theorem PgAt.later(h:PgAt w p x)(hb:Below w.heap.size w w'):PgAt w' p x:=h.stay (hb.block p h.lt)
variable {w1:World} {S S1:Nat→Prop}
theorem fr_trans{w2:World}(h:Fr S w w1)(k:Fr S1 w1 w2)(hs:∀ b,S1 b→S b∨w.heap.size≤b):Fr S w w2:=
 ⟨k.os.trans h.os,k.tape.trans h.tape,k.output.trans h.output,Nat.le_trans h.size k.size,fun i hi hn=>(k.blk i (Nat.lt_of_lt_of_le hi h.size) (fun h1=>by
  rcases hs i h1 with h2 |h2
  ·exact hn h2
  ·omega)).trans (h.blk i hi hn)⟩
theorem fr_imp(h:Fr S w w1)(hs:∀ b,S b→S1 b):Fr S1 w w1:=⟨h.os,h.tape,h.output,h.size,fun i hi hn=>h.blk i hi (fun h1=>hn (hs i h1))⟩
theorem fr_df{q:Nat}{P:Dsk.Parts}(h:DFrame w w' q P.all):Fr (DN q P) w w':=⟨h.os,h.tape,h.output,h.size,fun i hi hn=>h.block i hi (fun e=>hn (Or.inl e)) (fun e=>hn (Or.inr e))⟩
theorem fr_cell(h:Fr S w w'){b i:Nat}{v:Value}(hc:w.cell? ⟨b,i,none⟩=some v)(hb:¬S b):w'.cell? ⟨b,i,none⟩=some v:=(World.cell?_of_block (h.blk b (lt_cell hc) hb)).trans hc
theorem fr_below(h:Below w.heap.size w w'):Fr S w w':=Fr.of_below h
def NC(p:Nat)(x:PC)(P:Dsk.Parts)(C:Cch.Parts):Nat→Prop:=fun b=>DN x.q P b∨C.S x.k b∨b=p
structure Core (w:World) (p:Nat) (x:PC) (P:Dsk.Parts) (C:Cch.Parts) (d:DS) (s:CS):Prop where
 hd:PgAt w p x
 dk:DiskP w x.q P d
 ck:CP w x.k C s
 dc:∀ b,DN x.q P b→¬C.S x.k b
 dp:¬DN x.q P p
 cp:¬C.S x.k p
variable {s:CS} {d:DS}
theorem Core.lt{P:Dsk.Parts}{C:Cch.Parts}(h:Core w p x P C d s){b:Nat}(hb:NC p x P C b):b<w.heap.size:=by
 rcases hb with hb |hb |rfl
 ·exact DN.lt h.dk hb
 ·exact h.ck.lt hb
 ·exact h.hd.lt
theorem Core.later{P:Dsk.Parts}{C:Cch.Parts}(h:Core w p x P C d s)(hb:Below w.heap.size w w'):Core w' p x P C d s:=
 ⟨h.hd.later hb,h.dk.later hb,h.ck.later hb,h.dc,h.dp,h.cp⟩
def More(p:Nat)(x:PC)(P P':Dsk.Parts)(C C':Cch.Parts)(w:World):Prop:=∀ b,NC p x P' C' b→NC p x P C b∨w.heap.size≤b
theorem More.refl(p:Nat)(x:PC)(P:Dsk.Parts)(C:Cch.Parts)(w:World):More p x P P C C w:=fun _ h=>Or.inl h
theorem More.trans{P P1 P2:Dsk.Parts}{C C1 C2:Cch.Parts}(h:More p x P P1 C C1 w)(k:More p x P1 P2 C1 C2 w1)(hs:w.heap.size≤w1.heap.size):More p x P P2 C C2 w:=fun b hb=>by
 rcases k b hb with h1 |h1
 ·exact h b h1
 ·exact Or.inr (Nat.le_trans hs h1)
theorem More.out{P P':Dsk.Parts}{C C':Cch.Parts}(h:More p x P P' C C' w)(hs:w.heap.size≤w'.heap.size){b:Nat}(ho:Out w (NC p x P C) b):Out w' (NC p x P' C') b:=
 ⟨Nat.lt_of_lt_of_le ho.1 hs,fun hb=>by
  rcases h b hb with h1 |h1
  ·exact ho.2 h1
  ·have:=ho.1;omega⟩
theorem Core.disk{P:Dsk.Parts}{C:Cch.Parts}{d':DS}(h:Core w p x P C d s)(k:DiskTo w w' x.q P d'):∃ P',Core w' p x P' C d' s∧More p x P P' C C w∧Fr (DN x.q P) w w'∧Grew P w P':=by
 obtain ⟨⟨P',hp,hg⟩,hf⟩:=k
 have hf':=fr_df hf
 have key:∀ b,DN x.q P' b→DN x.q P b∨w.heap.size≤b:=fun b hb=>by
  rcases hb with rfl |hb
  ·exact Or.inl (Or.inl rfl)
  ·rcases hg b hb with h1 |h1
   ·exact Or.inl (Or.inr h1)
   ·exact Or.inr h1
 refine ⟨P',⟨h.hd.stay (hf'.blk p h.hd.lt h.dp),hp,h.ck.stay (fun b hb hS=>hf'.blk b hb (fun hd=>h.dc b hd hS)),fun b hb hS=>?_,fun hb=>?_,h.cp⟩,fun b hb=>?_,hf',hg⟩
 ·rcases key b hb with h1 |h1
  ·exact h.dc b h1 hS
  ·have:=h.ck.lt hS;omega
 ·rcases key p hb with h1 |h1
  ·exact h.dp h1
  ·have:=h.hd.lt;omega
 ·rcases hb with hb |hb |rfl
  ·rcases key b hb with h1 |h1
   ·exact Or.inl (Or.inl h1)
   ·exact Or.inr h1
  ·exact Or.inl (Or.inr (Or.inl hb))
  ·exact Or.inl (Or.inr (Or.inr rfl))
theorem Core.cache{P:Dsk.Parts}{C C':Cch.Parts}{s':CS}(h:Core w p x P C d s)(k:Cch.Step w w' x.k C C' s'):Core w' p x P C' d s'∧More p x P P C C' w∧Fr (C.S x.k) w w':=by
 refine ⟨⟨h.hd.stay (k.fr.blk p h.hd.lt h.cp),h.dk.stay k.fr.size (fun b hb hd=>k.fr.blk b hb (fun hS=>h.dc b (by rcases hd with h1 |h1;exact Or.inr h1;exact Or.inl h1) hS)),k.cp,fun b hb hS=>?_,h.dp,fun hS=>?_⟩,fun b hb=>?_,k.fr⟩
 ·rcases k.gr b hS with h1 |h1
  ·exact h.dc b hb h1
  ·have:=DN.lt h.dk hb;omega
 ·rcases k.gr p hS with h1 |h1
  ·exact h.cp h1
  ·have:=h.hd.lt;omega
 ·rcases hb with hb |hb |rfl
  ·exact Or.inl (Or.inl hb)
  ·rcases k.gr b hb with h1 |h1
   ·exact Or.inl (Or.inr (Or.inl h1))
   ·exact Or.inr h1
  ·exact Or.inl (Or.inr (Or.inr rfl))
theorem kind5{c:Nat}{C:Cch.Parts}(h:CP w c C s){b:Nat}{cur:Array Value}(hb:w.heap[b]? = some (.cells cur 5 (0,0))):¬C.S c b:=fun hS=>by
 rcases hS with rfl |rfl |hS
 ·rw [h.hd]at hb;simp at hb
 ·obtain ⟨es,cl,ho⟩:=h.mp.obj
  rw [ho]at hb;cases hb
 ·rw [(h.rg.en _ hS).blk]at hb;simp at hb
abbrev Pg:=List Nat
def secsOf(l:List Pg):List Sec:=l.flatMap (chunks 4)
theorem secsOf_length(l:List Pg):(secsOf l).length=l.length*4:=by
 induction l with
 | nil=>rfl
 | cons a r ih=>simp only [secsOf,List.flatMap_cons,List.length_append,chunks_length,List.length_cons]at *;omega
theorem secsOf_append(a b:List Pg):secsOf (a++b)=secsOf a++secsOf b:=by simp [secsOf]
variable {i:Nat} {l:List Pg}
theorem secsOf_at(h:i<l.length):((secsOf l).drop (i*4)).take 4=chunks 4 (l.getD i []):=by
 have e:l=l.take i++l.getD i []::l.drop (i+1):=by
  rw [List.getD,List.getElem?_eq_getElem h,Option.getD_some,←List.drop_eq_getElem_cons h,List.take_append_drop]
 have h1:(secsOf (l.take i)).length=i*4:=by rw [secsOf_length,List.length_take];omega
 have h2:secsOf l=secsOf (l.take i)++(chunks 4 (l.getD i [])++secsOf (l.drop (i+1))):=by
  conv=>lhs;rw [e]
  rw [secsOf_append];rfl
 rw [h2,←h1,List.drop_left,List.take_append_of_le_length (by rw [chunks_length];omega),List.take_of_length_le (by rw [chunks_length];omega)]
theorem read_page(hd:d.f0.now=secsOf l)(ho:d.off=false)(h:i<l.length)(hl:(l.getD i []).length=512):readD d 0 ((i:Int)*4) 4=(l.getD i [],0):=by
 have hk:known 0=true:=rfl
 have hf:(d.file 0)=d.f0:=rfl
 have hsl:=secsOf_length l
 unfold readD
 rw [ho,hk,hf,hd,hsl]
 simp only [Bool.false_eq_true,if_false,Bool.not_true]
 rw [if_neg (by omega)]
 have e1:((i:Int)*4).toNat=i*4:=by omega
 rw [e1]
 have e2:(4:Int).toNat=4:=rfl
 rw [e2,secsOf_at h,chunks_flatten 4 _ (by rw [hl])]
def Kept(s:CS)(sure:List Pg):Prop:=∀ r∈s.l,∃ i:Nat,r.page=((i+1:Nat):Int)∧i<sure.length∧r.bytes=sure.getD i []∧r.pins=0∧r.dirty=false
end
section
open Go.RowKit Go.Maps
open Dsk (gt hid undrew keep_old keep_cell lt_cell Rd DS FS Sec DiskP DFrame Grew From writeD syncD cutD lenD readD newD known op_at)
open Cch (CS CP Fr Row shedL p52 wpAnyK wpAnyK_take wpAnyK_pure wpAnyK_ready wpAnyK_done wp_region_K AllReadyK.cons AllReadyK.nil)
theorem shedL_sub(p:Row→Bool)(n:Nat)(l:List Row):(shedL p n l).Sublist l:=by
 induction l generalizing n with
 | nil=>rw [Cch.shedL_nil];exact .slnil
 | cons r l ih=>
  cases n with
  | zero=>rw [Cch.shedL_zero];exact .refl _
  | succ n=>
   unfold shedL
   split
   ·exact (ih n).cons _
   ·exact (ih (n+1)).cons_cons _
structure Fits (s:CS) (sure:List Pg):Prop where
 kept:Kept s sure
 len:s.l.length≤s.room
 room:8≤s.room
variable {sure:List Pg} {s:CS}
theorem Fits.get(h:Fits s sure)(k:Int):Fits (s.get k) sure:=by
 unfold Cch.CS.get
 cases hf:s.find k with
 | none=>exact ⟨h.kept,h.len,h.room⟩
 | some r=>
  have hm:r∈s.l:=List.mem_of_find?_eq_some hf
  have hrk:(r.page == k)=true:=(List.find?_eq_some_iff_append.1 hf).1
  refine ⟨fun x hx=>?_,?_,h.room⟩
  ·rcases List.mem_append.1 hx with h1 |h1
   ·exact h.kept x (List.mem_filter.1 h1).1
   ·rw [List.mem_singleton.1 h1];exact h.kept r hm
  ·show (s.others k++[r]).length≤s.room
   have h1:(s.others k).length<s.l.length:=by
    unfold Cch.CS.others
    refine Nat.lt_of_le_of_ne (List.length_filter_le _ _) (fun e=>?_)
    have:=(List.length_filter_eq_length_iff.1 e) r hm
    simp at hrk;simp [hrk]at this
   have:=h.len
   simp only [List.length_append,List.length_singleton];omega
theorem Fits.put(h:Fits s sure){i:Nat}(hi:i<sure.length):Fits (s.put ((i+1:Nat):Int) (sure.getD i [])) sure:=by
 have hrow:∀ b,({ s.rowFor ((i+1:Nat):Int) with bytes:=b }:Row).page=((i+1:Nat):Int)∧(s.rowFor ((i+1:Nat):Int)).pins=0∧(s.rowFor ((i+1:Nat):Int)).dirty=false:=fun b=>by
  unfold Cch.CS.rowFor
  cases hf:s.find ((i+1:Nat):Int) with
  | none=>exact ⟨rfl,rfl,rfl⟩
  | some r=>
   have hrk:=(List.find?_eq_some_iff_append.1 hf).1
   obtain ⟨j,_,_,_,h4,h5⟩:=h.kept r (List.mem_of_find?_eq_some hf)
   exact ⟨by simpa using hrk,h4,h5⟩
 have hol:(s.others ((i+1:Nat):Int)).length≤s.l.length:=List.length_filter_le _ _
 have hpl:(s.putL ((i+1:Nat):Int) (sure.getD i [])).length=(s.others ((i+1:Nat):Int)).length+1:=by simp [Cch.CS.putL]
 have hl:=h.len
 have hr8:=h.room
 refine ⟨fun x hx=>?_,?_,h.room⟩
 ·have hx':=(shedL_sub _ _ _).subset hx
  rcases List.mem_append.1 hx' with h1 |h1
  ·exact h.kept x (List.mem_filter.1 h1).1
  ·rw [List.mem_singleton.1 h1]
   exact ⟨i,(hrow []).1,hi,rfl,(hrow []).2.1,(hrow []).2.2⟩
 ·show (shedL (p52 ((i+1:Nat):Int)) ((s.putL ((i+1:Nat):Int) (sure.getD i [])).length - s.room) (s.putL ((i+1:Nat):Int) (sure.getD i []))).length≤s.room
  rcases Nat.lt_or_ge (s.others ((i+1:Nat):Int)).length s.room with h1 |h1
  ·rw [hpl,show (s.others ((i+1:Nat):Int)).length+1 - s.room=0 by omega,Cch.shedL_zero,hpl];omega
  ·rw [hpl,show (s.others ((i+1:Nat):Int)).length+1 - s.room=1 by omega]
   unfold Cch.CS.putL
   cases ho:s.others ((i+1:Nat):Int) with
   | nil=>rw [ho]at h1;simp at h1;omega
   | cons r t=>
    have hr:r∈s.others ((i+1:Nat):Int):=by rw [ho];exact List.mem_cons_self
    obtain ⟨hm,hne⟩:=List.mem_filter.1 hr
    obtain ⟨j,_,_,_,h4,h5⟩:=h.kept r hm
    have hp:p52 ((i+1:Nat):Int) r=true:=by
     unfold p52
     rw [h4,h5]
     simpa using hne
    rw [List.cons_append,Cch.shed_yes (by omega) hp,Cch.shedL_zero]
    rw [ho]at hol
    simp only [List.length_cons]at hol
    simp only [List.length_append,List.length_singleton];omega
theorem Fits.peek(h:Fits s sure){i:Nat}{b:List Nat}(hp:s.peek ((i+1:Nat):Int)=some b):b=sure.getD i []:=by
 unfold Cch.CS.peek at hp
 cases hf:s.find ((i+1:Nat):Int) with
 | none=>rw [hf]at hp;cases hp
 | some r=>
  rw [hf]at hp
  have hrk:=(List.find?_eq_some_iff_append.1 hf).1
  obtain ⟨j,h1,_,h3,_⟩:=h.kept r (List.mem_of_find?_eq_some hf)
  have:r.page=((i+1:Nat):Int):=by simpa using hrk
  have hji:j=i:=by omega
  subst hji
  rw [←h3];exact (Option.some.inj hp).symm
theorem get_count(s:CS)(k:Int):(s.get k).hit+(s.get k).miss=s.hit+s.miss+1:=by
 unfold Cch.CS.get
 split<;>simp<;>omega
theorem get_room(s:CS)(k:Int):(s.get k).room=s.room:=by unfold Cch.CS.get;split<;>rfl
variable {w w':World}
theorem rd_fr{S:Nat→Prop}(hf:Fr S w w'){ao:Option Addr}{n cap:Nat}{xs:List Nat}(h:Rd w ao n cap xs)(ho:0<n→∀ a,ao=some a→¬S a.block):Rd w' ao n cap xs:=by
 refine ⟨h.1,h.2.1,h.2.2.1,fun hn=>?_⟩
 obtain ⟨b,off,rfl,hc⟩:=h.2.2.2 hn
 exact ⟨b,off,rfl,fun t ht=>fr_cell hf (hc t ht) (ho hn _ rfl)⟩
structure BeforeTo (w w':World) (p:Nat) (x:PC) (P:Dsk.Parts) (C:Cch.Parts) (d:DS) (s:CS) (sure:List Pg) (b:Nat):Prop where
 is:∃ C' s',¬C'.S x.k b∧Core w' p x P C' d s'∧Fits s' sure∧More p x P P C C' w∧s'.hit+s'.miss≤s.hit+s.miss+1∧s'.room=s.room
 fr:Fr (C.S x.k) w w'
theorem wf_page{i:Nat}(h:i≤100000):(Lit.int .i64 ((i+1:Nat):Int)).wf=true:=Dsk.wf_i64 (i+1) (by omega)
variable {B:Nat}
theorem row5{ao:Option Addr}{cap:Nat}{x:List Nat}(h:w.ownsRow B 5 1 (.slice ao 512 cap) 512 (Cch.bs x)):∃ a cur,ao=some a∧a.off=0∧B≤a.block∧w.heap[a.block]? = some (.cells cur 5 (0,0))∧Rd w (some a) 512 cap x:=by
 rcases h.2 with ⟨h1,_⟩ | ⟨g,cap',cur,h1,hB,hg,_⟩
 ·simp at h1
 ·simp only [Value.slice.injEq]at h1
  obtain ⟨rfl,-,rfl⟩:=h1
  exact ⟨_,cur,rfl,rfl,hB,hg,Cch.rd_own h⟩
variable {xs:List Value} {v:Value} {e:TypeId} {n sz:Nat}
theorem own_fr{E:Nat→Prop}(h:w.ownsRow B e sz v n xs)(hf:Fr E w w')(hE:∀ k,v.ownBlock=some k→¬E k):w'.ownsRow B e sz v n xs:=by
 refine ⟨h.1,?_⟩
 rcases h.2 with hn | ⟨g,cap,cur,rfl,hb',hg,hr⟩
 ·exact .inl hn
 ·exact .inr ⟨g,cap,cur,rfl,hb',(hf.blk g (Array.getElem?_eq_some_iff.1 hg).1 (hE g rfl)).trans hg,hr⟩
theorem own_dn{B':Nat}(h:w.ownsRow B e sz v n xs)(hB:B'≤B):w.ownsRow B' e sz v n xs:=by
 refine ⟨h.1,?_⟩
 rcases h.2 with hn | ⟨g,cap,cur,rfl,hb',hr⟩
 ·exact .inl hn
 ·exact .inr ⟨g,cap,cur,rfl,Nat.le_trans hB hb',hr⟩
theorem before_own(p:Nat)(x:PC)(P:Dsk.Parts)(C:Cch.Parts)(d:DS)(s:CS)(sure:List Pg)(i:Nat)(w:World)(h:Core w p x P C d s)(hk:Fits s sure)(hf:d.f0.now=secsOf sure)(hl:∀ j,j<sure.length→(sure.getD j []).length=512)(ho:d.off=false)
  (hi:i<sure.length) (hb:sure.length≤4000) (hh:s.hit+s.miss≤900000) :
  Calls Tryz.prog 175 #[.pointer (some ⟨p,0,none⟩),.int .i64 ((i+1:Nat):Int)] w fun e w'=>∃ a cap,e=.returned (.tuple #[.slice (some a) 512 cap,.int .i64 0])∧(Rd w' (some a) 512 cap (sure.getD i [])∧w'.ownsRow w.heap.size 5 1 (.slice (some a) 512 cap) 512 (Cch.bs (sure.getD i [])))∧w.heap.size≤a.block∧BeforeTo w w' p x P C d s sure a.block:=by
 have hli:=hl i hi
 have hrd:=hid (read_page hf ho hi hli)
 have hks:C.ks.length<1000000:=by
  have h1:=hk.len
  rw [h.ck.ls,List.length_map]at h1
  have:=h.ck.rm
  omega
 have cg:=hid (Cch.get_call x.k C s ((i+1:Nat):Int) w h.ck (wf_page (by omega)) (by omega) (by omega))
 obtain ⟨a0,a1,a2,a3,a4,a5,a6,a7,a8,a9,a10,a11⟩:=h.hd.cells
 have HC0:=hid h;have HK:=hid hk;have HH:=hid hh;have HL:=hid hli
 have hpk:=hid (fun b=>hk.peek (i:=i) (b:=b))
 have hcount:=get_count s ((i+1:Nat):Int)
 have hroom:=get_room s ((i+1:Nat):Int)
 have HCN:=hid hcount;have HRM:=hid hroom
 have hpr:Hid (-1000000≤((i+1:Nat):Int)∧((i+1:Nat):Int)≤1000000):=hid ⟨by omega,by omega⟩
 have hpl:Hid ((((i+1:Nat):Int) - 1)*4=(i:Int)*4):=hid (by omega)
 have HF:=hid hf;have HI:=hid hi;have HO:=hid ho
 clear h hk hf hl ho hli hcount hroom hh hi
 obtain ⟨g,hg⟩:∃ g:Int,((i+1:Nat):Int)=g:=⟨_,rfl⟩
 cases hq:s.peek ((i+1:Nat):Int) with
 | some b=>
  have hbe:=hpk.out b hq
  rw [hq]at cg
  rw [hg]at cg ⊢
  have HBE:=hid hbe
  clear hbe hq
  go_enter Tryz.func175,Tryz.ntmps175
  go_wp2_with (go_at_call 232;refine cg.out.mono ?_;rintro e w1 ⟨⟨_,ao,cap,rfl,hrow⟩,C1,hst⟩;have HR:=hid hrow;have HS:=hid hst;clear hrow hst)
  go_ret2
  obtain ⟨a,cur,rfl,h0,hB,hblk,hr⟩:=row5 HR.out
  obtain ⟨hc1,hm1,hf1⟩:=HC0.out.cache HS.out
  have hke:=HK.out.get ((i+1:Nat):Int)
  have hcn:=HCN.out;have hrm:=HRM.out
  rw [hg]at hke hcn hrm
  exact ⟨a,cap,rfl,by rw [←HBE.out];exact ⟨hr,HR.out⟩,hB,⟨C1,_,kind5 hc1.ck hblk,hc1,hke,hm1,by omega,hrm⟩,hf1⟩
 | none=>
  rw [hq]at cg
  clear hq
  rw [hg]at cg hpr hpl ⊢
  go_enter Tryz.func175,Tryz.ntmps175
  go_wp2_with (go_at_call 232;refine cg.out.mono ?_;rintro e w1 ⟨hn,C1,hst⟩;replace hn:e=.returned (.tuple #[.slice none 0 0,.bool false]):=hn;subst hn;have HS:=hid hst;clear hst)
  go_upto_region 4 with fail
  obtain ⟨hc1,hm1,hf1⟩:=HC0.out.cache HS.out
  have HM1:=hid hm1;have HF1:=hid hf1
  have HC:=hid (hc1.later (Below.refl _ _).drew)
  clear hc1 hm1 hf1 a0 a1 a2 a3 a4 a5 a6 a7 a8 a9 a10 a11
  refine wp_region_K (S:=Gr w1.drew) (fun _=>false) (by kernel_rfl) (Below.refl _ _) (fun hHeld=>?_)
  refine gkp 0 ?_
  refine gkp 1 ?_
  refine gkp 2 ?_
  refine gkt 3 ?_ (h:=by intro W hSw;obtain ⟨a0,a1,a2,a3,a4,a5,a6,a7,a8,a9,a10,a11⟩:=(HC.out.hd.later hSw).cells;go_simp;first |done |with_reducible rfl)
  refine gkp 4 ?_
  refine gk1 5 (fun K hK=>?_)
  go_simp
  go_at_call 222;refine (place_any _ _ hpr.out).mono ?_;rintro e w4 ⟨rfl,hw⟩;have hR:Gr w1.drew w4:=(by rw [hw];exact Below.refl _ _);have HG4:Hid (w1.heap.size≤w4.heap.size):=hid hR.size;have HF4:Hid (Fr (C1.S x.k) w1 w4):=hid (fr_below (undrew hR));replace HC:=hid (HC.out.later hR);clear hw
  refine hK.out _ _ hR (fun hHeld=>?_)
  clear hK K
  (try simp only [Act.put,sA,sZ,sS])
  clear hHeld
  refine wpAnyK_more (S':=Gr w4) (fun W h=>gt hR h) ?_
  have hHeld:Gr w4 w4:=Below.refl _ _
  clear hR
  refine gk1 6 (fun K hK=>?_)
  go_simp
  go_at_call 159;refine (Dsk.read_call x.q P d 0 _ 4 w4 HC.out.dk (by have:=hpr.out;omega) (by omega)).mono ?_;rw [hpl.out,hrd.out];dsimp only;rw [HL.out];rintro e w5 ⟨ro,rc,rfl,hr,hOw,hR⟩;have hfr:=Cch.own_ge hOw;have HOW:=hid hOw;clear hOw;replace hR:Gr w4 w5:=hR;obtain ⟨b5,o5,rfl,hcl⟩:=hr.2.2.2 (by omega);have HSB:Hid (¬C1.S x.k b5):=hid (fun hS=>by have h1:=HC.out.ck.lt hS;have h2:=hfr _ rfl;simp only at h2;omega);have HNB:Hid (w.heap.size≤b5):=hid (by have h2:=hfr _ rfl;simp only at h2;have h3:=HF1.out.size;have h4:=HG4.out;omega);have HLT:Hid (b5<w5.heap.size):=hid (lt_cell (hcl 0 (by omega)));clear hcl;have HG5:Hid (w.heap.size≤w5.heap.size):=hid (by have h3:=HF1.out.size;have h4:=HG4.out;have h5:=hR.size;omega);have HF5:Hid (Fr (C1.S x.k) w1 w5):=hid (fr_trans HF4.out (fr_below hR) (fun b hb=>Or.inl hb));replace HC:=hid (HC.out.later hR);have RD:=hid hr;clear hr hfr
  refine hK.out _ _ hR (fun hHeld=>?_)
  clear hK K
  (try simp only [Act.put,sA,sZ,sS])
  clear hHeld
  refine wpAnyK_more (S':=Gr w5) (fun W h=>gt hR h) ?_
  have hHeld:Gr w5 w5:=Below.refl _ _
  clear hR
  refine gkp 7 ?_
  refine gkp 8 ?_
  refine gkp 9 ?_
  refine gkp 10 ?_
  refine gkp 11 ?_
  refine wpAnyK_done (by kernel_rfl) ?_ _
  have hks1:C1.ks.length<1000000:=by
   have h1:=(HK.out.get g).len
   rw [HC.out.ck.ls,List.length_map]at h1
   have:=HC.out.ck.rm
   omega
  have cp:=hid (Cch.put_call x.k b5 o5 rc C1 (s.get g) g (sure.getD i []) w5 HC.out.ck (by rw [←hg];exact wf_page (by have:=HI.out;omega)) (by omega) RD.out HSB.out hks1)
  obtain ⟨a0,a1,a2,a3,a4,a5,a6,a7,a8,a9,a10,a11⟩:=HC.out.hd.cells
  go_wp2_with (go_at_call 233;refine cp.out.mono ?_;rintro e w6 ⟨rfl,C2,hst⟩;have HS2:=hid hst;clear hst)
  go_ret2
  obtain ⟨hc2,hm2,hf2⟩:=HC.out.cache HS2.out
  have hfit:=(HK.out.get g).put HI.out
  rw [hg]at hfit
  have hcn:=HCN.out;have hrm:=HRM.out
  rw [hg]at hcn hrm
  refine ⟨⟨b5,o5,none⟩,rc,rfl,⟨rd_fr hf2 RD.out (fun _ a ha=>by obtain rfl:=Option.some.inj ha;exact HSB.out),own_fr (own_dn HOW.out (by have h3:=HF1.out.size;have h4:=HG4.out;omega)) hf2 (fun k hk=>by cases hk;exact HSB.out)⟩,HNB.out,⟨C2,_,fun hS=>?_,hc2,hfit,HM1.out.trans hm2 HG5.out,?_,hrm⟩,fr_trans HF1.out (fr_trans HF5.out hf2 (fun b hb=>Or.inl hb)) (fun b hb=>HS.out.gr b hb)⟩
  ·rcases HS2.out.gr _ hS with h1 |h1
   ·exact HSB.out h1
   ·have:=HLT.out;simp only at h1;omega
  ·show (s.get g).hit+(s.get g).miss≤_
   omega
end
end Go.Proofs.YtfcikkechphmaaaGreatDoor
namespace Go.Proofs
open Go.Shelf
end Go.Proofs
namespace Go.Proofs.YtfcikkechphmaaaGreatDoor
open Go.RowKit Go.Maps Go.Sort Go.Shelf Go.Lib
open Dsk (gt hid undrew keep_old keep_cell lt_cell Rd DS FS Sec DiskP DFrame Grew From idx dirtD size_dirt)
def zI(l:List Nat):List Value:=l.map fun i:Nat=>.int .i64 (i:Int)
end Go.Proofs.YtfcikkechphmaaaGreatDoor
namespace Go.Proofs.YtfcikkechphmaaaGreatDoor
namespace Jrn
open Go.RowKit
end Jrn
namespace Jrn
open Go.RowKit
theorem rhead_short(ao:Option Addr)(n cap:Nat)(w:World)(hn:n<128) :
  Calls Tryz.prog 218 #[.slice ao n cap] w fun e w'=>e=.returned (.tuple #[.agg #[.int .i64 0,.int .i64 0,.int .u64 0],.int .i64 8])∧Below w.heap.size w w':=by
 have hge:(n:Int)<128:=by omega
 go_enter Tryz.func218,Tryz.ntmps218
 go_wp2
 (try simp only [Exit.inBlock,Exit.then])
 refine bodyPost_ret (ret_head rfl agg24 size24 rfl (HB.new 251 w 0 0 0)) rfl ?_
 exact ⟨rfl,Below.alloc (Below.refl _ _) (Nat.le_refl _) _⟩
def hotN(xs:List Nat):Bool:=decide (128≤xs.length)&&isHead xs
def rdH(xs:List Nat):(Nat×Nat×Nat)×Int:=if xs.length<128 then ((0,0,0),8) else if isHead xs then ((hC xs,hP xs,hN xs),0) else ((0,0,0),9)
theorem rdH_err(xs:List Nat):(rdH xs).2=0↔hotN xs=true:=by
 unfold rdH hotN
 split
 ·simp;omega
 ·split<;>simp [*]<;>omega
theorem rhead_all(ao:Option Addr)(n cap:Nat)(xs:List Nat)(w:World)(h:Rd w ao n cap xs)(hx:∀ x∈xs,x<256)(hn2:n≤140737488355328)(hT:Tab w) :
  Calls Tryz.prog 218 #[.slice ao n cap] w fun e w'=>e=.returned (.tuple #[.agg #[.int .i64 ((rdH xs).1.1:Int),.int .i64 ((rdH xs).1.2.1:Int),.int .u64 ((rdH xs).1.2.2:Int)],.int .i64 (rdH xs).2])∧Below w.heap.size w w':=by
 have hl:=h.1
 by_cases hn:n<128
 ·have e:rdH xs=((0,0,0),8):=by unfold rdH;rw [if_pos (by omega)]
  rw [e]
  exact rhead_short ao n cap w hn
 ·refine (rhead_any ao n cap xs w h hx (by omega) hn2 hT).mono fun e w' ⟨c,p,m,er,he,hh,hb⟩=>⟨?_,hb⟩
  rw [he]
  rcases hh.out with ⟨h1,rfl,rfl,rfl,rfl⟩ | ⟨h1,rfl,rfl,rfl,rfl⟩
  ·have e:rdH xs=((hC xs,hP xs,hN xs),0):=by unfold rdH;rw [if_neg (by omega),if_pos h1]
   rw [e]
  ·have e:rdH xs=((0,0,0),9):=by unfold rdH;rw [if_neg (by omega),if_neg (by rw [h1];simp)]
   rw [e]
theorem hot_any(ao:Option Addr)(n cap:Nat)(xs:List Nat)(w:World)(h:Rd w ao n cap xs)(hx:∀ x∈xs,x<256)(hn2:n≤140737488355328)(hT:Tab w) :
  Calls Tryz.prog 161 #[.slice ao n cap] w fun e w'=>e=.returned (.bool (hotN xs))∧Below w.heap.size w w':=by
 have c:=hid (rhead_all ao n cap xs w h hx hn2 hT)
 have he:=rdH_err xs
 generalize rdH xs=r at *
 obtain ⟨⟨c1,p1,n1⟩,er⟩:=r
 simp only at c he
 have hb:(er == 0)=hotN xs:=by rw [Bool.eq_iff_iff,beq_iff_eq];exact he
 generalize hotN xs=b at *
 clear he h hx hT
 go_enter Tryz.func161,Tryz.ntmps161
 go_wp2_with (go_at_call 218;refine c.out.mono ?_;rintro e w1 ⟨rfl,hb1⟩)
 go_ret
 exact ⟨rfl,Below.alloc hb1 hb1.size _⟩
end Jrn
end Go.Proofs.YtfcikkechphmaaaGreatDoor
