/- Rows of steps, and how they grow; sectors of bytes. No statement of the seat is proved here. -/
import Derived.Test.YtadhdedjdgjboaaGreatDoorH10
import Derived.Deep.RegionHeld3
set_option maxHeartbeats 16000000
set_option maxRecDepth 20000
namespace Go.Proofs.YtadhdedjdgjboaaGreatDoor
section
open Go.RowKit Go.Maps
open Dsk (gt hid undrew keep_old keep_cell lt_cell Rd DS FS Sec DiskP DFrame Grew From writeD syncD cutD lenD readD newD known)
def chunks:Nat→List Nat→List Sec
 | 0,_=>[]
 | k+1,x=>x.take 128::chunks k (x.drop 128)
theorem chunks_length(k:Nat)(x:List Nat):(chunks k x).length=k:=by
 induction k generalizing x with
 | zero=>rfl
 | succ k ih=>simp [chunks,ih]
theorem chunks_flatten(k:Nat)(x:List Nat)(h:x.length=k*128):(chunks k x).flatten=x:=by
 induction k generalizing x with
 | zero=>simp at h;subst h;rfl
 | succ k ih=>
  rw [chunks,List.flatten_cons,ih _ (by rw [List.length_drop];omega),List.take_append_drop]
theorem chunks_each(k:Nat)(x:List Nat)(h:x.length=k*128):∀ s∈chunks k x,s.length=128:=by
 induction k generalizing x with
 | zero=>intro s hs;cases hs
 | succ k ih=>
  intro s hs
  rcases List.mem_cons.1 hs with rfl |hs
  ·rw [List.length_take];omega
  ·exact ih _ (by rw [List.length_drop];omega) s hs
theorem Tryz.info115:(Tryz.prog.info? 115).map (fun i=>(i.zero,i.size,i.bytes))=some (some .nilFunc,1,8):=by kernel_rfl
theorem el113:Cch.El 117 115 .nilFunc 8:=⟨Tryz.underlying117,by obtain ⟨i,h0,h1,h2,h3⟩:=info_parts Tryz.info115;exact ⟨i,h0,h1,h2,h3⟩,rfl,by decide⟩
def NV(N:Nat→Prop)(v:Value):Nat→Prop:=fun k=>N k∨v.ownBlock=some k
structure StRow (w:World) (q:Nat) (N:Nat→Prop) (B:Nat) (v:Value) (us:List Value) (l:List Stp):Prop where
 row:w.ownsRow 0 115 1 v l.length us
 len:us.length=l.length
 at_:∀ (i:Nat) (s:Stp),l[i]? = some s→∃ u,us[i]? = some u∧StepAt w q (NV N v) u s
 blk:∀ k,v.ownBlock=some k→B≤k∧k<w.heap.size
 hN:∀ k,N k→k<B
 hB:B≤w.heap.size
variable {l:List Stp} {us:List Value} {v:Value} {N:Nat→Prop} {q B:Nat} {w:World}
theorem StRow.lt(h:StRow w q N B v us l){k:Nat}(hk:NV N v k):k<w.heap.size:=by
 rcases hk with hk |hk
 ·exact Nat.lt_of_lt_of_le (h.hN k hk) h.hB
 ·exact (h.blk k hk).2
theorem StRow.nil(w:World)(q:Nat)(N:Nat→Prop)(B:Nat)(hN:∀ k,N k→k<B)(hB:B≤w.heap.size):StRow w q N B (.slice none 0 0) [] []:=
 ⟨⟨rfl,Or.inl ⟨rfl,rfl⟩⟩,rfl,fun _ _ h=>(by simp at h),fun _ h=>(by cases h),hN,hB⟩
variable {w':World}
theorem StRow.later(h:StRow w q N B v us l)(hb:Below w.heap.size w w'):StRow w' q N B v us l:=
 ⟨Cch.own_later h.row hb,h.len,fun i s hs=>by
  obtain ⟨u,h1,h2⟩:=h.at_ i s hs
  exact ⟨u,h1,h2.later hb⟩,fun k hk=>⟨(h.blk k hk).1,Nat.lt_of_lt_of_le (h.blk k hk).2 hb.size⟩,h.hN,Nat.le_trans h.hB hb.size⟩
theorem cell_grown{o:Option Nat}(hg:w.grownBy w' o){b i:Nat}{v:Value}(hc:w.cell? ⟨b,i,none⟩=some v)(hb:o≠some b):w'.cell? ⟨b,i,none⟩=some v:=by
 rw [World.cell?_of_block (hg.block b (lt_cell hc) (fun e=>hb e.symm))];exact hc
theorem StRow.push{m c':Nat}{ys:List Value}{ls:List Stp}{ao':Option Addr}(h:StRow w q N B v us l)
  (hy:∀ (i:Nat) (s:Stp),ls[i]? = some s→∃ u,ys[i]? = some u∧StepAt w q (NV N v) u s) (hl:ys.length=ls.length) (hm:m=ls.length)
  (ho:w'.ownsRow 0 115 1 (.slice ao' (l.length+m) c') (l.length+m) (us++ys)) (hg:w.grownBy w' v.ownBlock) (ha:∀ a,ao'=some a→(v.ownBlock=some a.block∨a.block=w.heap.size)) (hlt:∀ a,ao'=some a→a.block<w'.heap.size) :
  StRow w' q N B (.slice ao' (l.length+m) c') (us++ys) (l++ls):=by
 have key:∀ u s,StepAt w q (NV N v) u s→StepAt w' q (NV N (.slice ao' (l.length+m) c')) u s:=fun u s hs=>by
  refine hs.turn (fun b hb=>⟨Nat.lt_of_lt_of_le hb.1 hg.size,fun hk=>?_⟩) (fun b o x hb hc=>cell_grown hg hc (fun e=>hb.2 (Or.inr e)))
  rcases hk with hk |hk
  ·exact hb.2 (Or.inl hk)
  ·cases ao' with
   | none=>cases hk
   | some a=>
    have e:a.block=b:=by simpa [Value.ownBlock] using hk
    subst e
    rcases ha a rfl with h1 |h1
    ·exact hb.2 (Or.inr h1)
    ·have:=hb.1;omega
 refine ⟨by rw [List.length_append,←hm];exact ho,by rw [List.length_append,List.length_append,h.len,hl],fun i s hs=>?_,fun k hk=>?_,h.hN,Nat.le_trans h.hB hg.size⟩
 ·rw [List.getElem?_append]at hs
  split at hs
  ·obtain ⟨u,h1,h2⟩:=h.at_ i s hs
   exact ⟨u,by rw [List.getElem?_append_left (by rw [h.len];assumption)];exact h1,key u s h2⟩
  ·obtain ⟨u,h1,h2⟩:=hy _ s hs
   exact ⟨u,by rw [List.getElem?_append_right (by rw [h.len];omega),h.len];exact h1,key u s h2⟩
 ·cases ao' with
  | none=>cases hk
  | some a=>
   have e:a.block=k:=by simpa [Value.ownBlock] using hk
   subst e
   refine ⟨?_,hlt a rfl⟩
   rcases ha a rfl with h1 |h1
   ·exact (h.blk _ h1).1
   ·rw [h1];exact h.hB
theorem StRow.steps{n c:Nat}{ao:Option Addr}(h:StRow w q N B (.slice ao n c) us l):n=l.length∧StepsAt w q N ao l:=by
 have hrow:=h.row
 have hn:n=l.length:=by
  rcases hrow.2 with ⟨h1,h2⟩ | ⟨g,cap,cur,h1,_⟩
  ·simp at h1;omega
  ·simp at h1;exact h1.2.1
 refine ⟨hn,fun hl=>?_⟩
 subst hn
 obtain ⟨g,cap,hv,_,hg⟩:=hrow.form hl
 simp only [Value.slice.injEq]at hv
 obtain ⟨rfl,-,-⟩:=hv
 refine ⟨g,0,rfl,⟨hg,fun hk=>?_⟩,fun i s hs=>?_⟩
 ·have h1:=h.hN g hk
  have h2:=(h.blk g rfl).1
  omega
 ·obtain ⟨u,h1,h2⟩:=h.at_ i s hs
  refine ⟨u,?_,h2.turn (fun b hb=>⟨hb.1,fun hk=>hb.2 (Or.inl hk)⟩) (fun _ _ _ _ hc=>hc)⟩
  have hi:i<us.length:=(List.getElem?_eq_some_iff.1 h1).1
  rw [Nat.zero_add,hrow.cellAt i (by have:=h.len;omega)]
  exact h1
end
namespace Cch
open Go.RowKit Go.Maps
section
variable {P:Program} {ops:Array Oper} {Q:Exit→Act→World→Prop} {md:Region.Mode} {S:World→Prop} {E:Nat→Bool}
def waits(md:Region.Mode)(ops:Array Oper)(E:Nat→Bool)(i:Nat):Bool:=(List.range ops.size).all fun j=>!E j||(match ops[j]? with |some o=>o.after.any (fun e=>Region.binds md e&&e.on == i) |none=>true)
theorem waits_spec{i:Nat}(h:waits md ops E i=true){j:Nat}{oj:Oper}(hj:ops[j]? = some oj)(hE:E j=true):∃ e∈oj.after,Region.binds md e=true∧e.on=i:=by
 have hl:j<ops.size:=(Array.getElem?_eq_some_iff.1 hj).1
 have:=List.all_eq_true.1 h j (by simpa using hl)
 simp only [hE,hj,Bool.not_true,Bool.false_or]at this
 obtain ⟨k,hk,hp⟩:=Array.any_eq_true.1 this
 simp only [Bool.and_eq_true,beq_iff_eq]at hp
 exact ⟨_,Array.getElem_mem hk,hp.1,hp.2⟩
end
section
variable {P:Program} {ops:Array Oper} {Q:Exit→Act→World→Prop} {md:Region.Mode} {S:World→Prop} {E:Nat→Bool}
def came(E:Nat→Bool)(listed:Array Bool):Bool:=(List.range listed.size).any fun j=>E j&&listed.getD j false
variable {j:Nat} {listed:Array Bool}
theorem came_set(h:came E listed=false)(hj:E j=false):came E (listed.setIfInBounds j true)=false:=by
 simp only [came,List.any_eq_false,List.mem_range,Array.size_setIfInBounds,Bool.and_eq_true,not_and,Bool.not_eq_true]at h ⊢
 intro k hk hE
 by_cases hjk:j=k
 ·subst hjk;rw [hj]at hE;cases hE
 ·rw [getD_set_ne _ hjk];exact h k hk hE
theorem came_mono(h:came E (listed.setIfInBounds j true)=false):came E listed=false:=by
 simp only [came,List.any_eq_false,List.mem_range,Array.size_setIfInBounds,Bool.and_eq_true,not_and,Bool.not_eq_true]at h ⊢
 intro k hk hE
 have:=h k hk hE
 by_cases hjk:j=k
 ·subst hjk;simp [hk]at this
 ·rw [getD_set_ne _ hjk]at this;exact this
def wpAnyK(P:Program)(md:Region.Mode)(ops:Array Oper)(Q:Exit→Act→World→Prop)(S:World→Prop)(E:Nat→Bool):Nat→Array Bool→Act→World→Prop
 | 0,listed,a,w=>Region.ready md ops listed = []∧Q .normal a w
 | fuel+1,listed,a,w=>
  (Region.ready md ops listed = []→Q .normal a w) ∧
  ∀ i∈Region.ready md ops listed,wpOp P ops Q i (fun a' w'=>(came E (listed.setIfInBounds i true)=false→S w')∧wpAnyK P md ops Q S E fuel (listed.setIfInBounds i true) a' w') a w
theorem wpAny_of_K:∀ (fuel:Nat) (listed:Array Bool) (a:Act) (w:World),wpAnyK P md ops Q S E fuel listed a w→wpAny P md ops Q fuel listed a w
 | 0,_,_,_,h=>h
 | fuel+1,_,_,_,h=>⟨h.1,fun i hi=>wpOp_mono (fun a' w' h'=>wpAny_of_K fuel _ a' w' h'.2) (h.2 i hi)⟩
variable {v:Value} {oi:Oper} {i:Nat}
theorem wpAnyK_first{T:World→Prop}(hi:ops[i]? = some oi)(hsel:∀ (j:Nat) (o:Oper) cs b,ops[j]? = some o→o.op≠.select cs b)
  (hQ:∀ c a w,Q (.panic c) (a.put oi.dst v) w→Q (.panic c) a w) (hEi:E i=false) (hT:(∀ w,T w)∨(T=S∧waits md ops E i=true)) :
  ∀ (fuel:Nat) (listed:Array Bool) (a:Act) (w:World),
   (∀ j oj,ops[j]? = some oj→j≠i→listed.getD j true=false→(∀ e∈oj.after,Region.binds md e=true→e.on≠i)→oi.apart ops oj=true) →
   i∈Region.ready md ops listed→YieldsIf P ops T oi v a→T w→(came E (listed.setIfInBounds i true)=false→S w)→((∀ w,T w)∨came E listed=false) →
   wpAnyK P md ops Q S E fuel (listed.setIfInBounds i true) (a.put oi.dst v) w→wpAnyK P md ops Q S E (fuel+1) listed a w:=by
 intro fuel
 induction fuel with
 | zero=>
  intro listed a w _ hr hy hTw hS hc H
  refine ⟨fun h=>(by rw [h]at hr;cases hr),fun j hj=>?_⟩
  by_cases hji:j=i
  ·subst hji;exact hy.wpOp hi hTw ⟨hS,H⟩
  ·have:=ready_mono hj hji
   rw [H.1]at this
   cases this
 | succ fuel ih=>
  intro listed a w hfree hr hy hTw hS hc H
  refine ⟨fun h=>(by rw [h]at hr;cases hr),fun j hj=>?_⟩
  by_cases hji:j=i
  ·subst hji;exact hy.wpOp hi hTw ⟨hS,H⟩
  ·have h1:=H.2 j (ready_mono hj hji)
   obtain ⟨hjun,oj,hoj,hall⟩:=mem_ready.1 hj
   have hnot:∀ e∈oj.after,Region.binds md e=true→e.on≠i:=fun e he hb heq=>by
    have h1:=hall e he hb
    have h0:=(mem_ready.1 hr).1
    rw [heq]at h1
    rcases Nat.lt_or_ge i listed.size with h' |h'
    ·simp [h']at h0 h1;rw [h0]at h1;cases h1
    ·simp [Array.getElem?_eq_none h']at h1
   have h2:=wpOp_putIf hoj (hfree j oj hoj hji hjun hnot) (fun cs b=>hsel i oi cs b hi) (fun cs b=>hsel j oj cs b hoj) hQ hy h1
   have hfree':∀ k ok,ops[k]? = some ok→k≠i→(listed.setIfInBounds j true).getD k true=false →
     (∀ e∈ok.after,Region.binds md e=true→e.on≠i)→oi.apart ops ok=true:=fun k ok hk hki hun hno=>by
    refine hfree k ok hk hki ?_ hno
    by_cases hjk:j=k
    ·subst hjk;exact hjun
    ·rw [getD_set_ne true hjk]at hun;exact hun
   have hjE:waits md ops E i=true→E j=false:=fun hw=>by
    cases hcj:E j
    ·rfl
    ·obtain ⟨e,he,hb,heq⟩:=waits_spec hw hoj hcj
     exact absurd heq (hnot e he hb)
   refine wpOp_mono (fun a' w' h3=>?_) h2
   have e:=Array.setIfInBounds_comm (xs:=listed) true true hji
   have hS':came E ((listed.setIfInBounds j true).setIfInBounds i true)=false→S w':=fun hcc=>h3.2.1 (by rw [e]at hcc;exact hcc)
   have hTc:T w'∧((∀ w,T w)∨came E (listed.setIfInBounds j true)=false):=by
    rcases hT with h | ⟨h,hw⟩
    ·exact ⟨h w',Or.inl h⟩
    ·rcases hc with h' |h'
     ·exact ⟨h' w',Or.inl h'⟩
     ·have hcj:=came_set h' (hjE hw)
      refine ⟨?_,Or.inr hcj⟩
      rw [h]
      exact hS' (came_set hcj hEi)
   refine ⟨fun hcc=>hS' ?_,ih (listed.setIfInBounds j true) a' w' hfree' (ready_mono hr (Ne.symm hji)) h3.1 hTc.1 hS' hTc.2 ?_⟩
   ·exact came_set hcc hEi
   ·rw [e];exact h3.2.2
variable {w:World} {a:Act} {fuel:Nat}
theorem wpAnyK_take(hi:ops[i]? = some oi)
  (hs:Region.noSelect ops=true) (hf:Region.free md ops listed i=true) (hr:(Region.ready md ops listed).contains i=true) (hE:(!E i&&waits md ops E i&&!came E listed)=true)
  (hQ:∀ c a w,Q (.panic c) (a.put oi.dst v) w→Q (.panic c) a w) (hy:YieldsIf P ops S oi v a) (hS:S w)
  (h:wpAnyK P md ops Q S E fuel (listed.setIfInBounds i true) (a.put oi.dst v) w):wpAnyK P md ops Q S E (fuel+1) listed a w:=by
 simp only [Bool.and_eq_true,Bool.not_eq_true']at hE
 exact wpAnyK_first hi (Region.noSelect_spec hs) hQ hE.1.1 (Or.inr ⟨rfl,hE.1.2⟩) fuel listed a w (Region.free_spec hi hf) (by simpa using hr) hy hS (fun _=>hS) (Or.inr hE.2) h
theorem wpAnyK_pure(hi:ops[i]? = some oi)
  (hs:Region.noSelect ops=true) (hf:Region.free md ops listed i=true) (hr:(Region.ready md ops listed).contains i=true) (hE:E i=false)
  (hQ:∀ c a w,Q (.panic c) (a.put oi.dst v) w→Q (.panic c) a w) (hy:YieldsIf P ops (fun _=>True) oi v a) (hS:S w∨came E listed=true)
  (h:wpAnyK P md ops Q S E fuel (listed.setIfInBounds i true) (a.put oi.dst v) w):wpAnyK P md ops Q S E (fuel+1) listed a w:=
 wpAnyK_first (T:=fun _=>True) hi (Region.noSelect_spec hs) hQ hE (Or.inl fun _=>trivial) fuel listed a w (Region.free_spec hi hf) (by simpa using hr) hy trivial (fun hc=>by
  rcases hS with h |h
  ·exact h
  ·rw [came_mono hc]at h;cases h) (Or.inl fun _=>trivial) h
def AllReadyK(P:Program)(md:Region.Mode)(ops:Array Oper)(Q:Exit→Act→World→Prop)(S:World→Prop)(E:Nat→Bool)(fuel:Nat)(listed:Array Bool)(a:Act)(w:World)(rs:List Nat):Prop:=
 ∀ i∈rs,wpOp P ops Q i (fun a' w'=>(came E (listed.setIfInBounds i true)=false→S w')∧wpAnyK P md ops Q S E fuel (listed.setIfInBounds i true) a' w') a w
theorem AllReadyK.nil:AllReadyK P md ops Q S E fuel listed a w []:=fun _ h=>by cases h
variable {rs:List Nat} {o:Oper}
theorem AllReadyK.cons(ho:ops[i]? = some o)
  (h:∀ K':Act→World→Prop,Shut (∀ a w,S w→(S w→wpAnyK P md ops Q S E fuel (listed.setIfInBounds i true) a w)→K' a w)→if Region.wanted o (yielded ops a.tmps)=true then Oper.wp P o a w K' Q else K' (a.put o.dst undef) w)
  (hs:AllReadyK P md ops Q S E fuel listed a w rs):AllReadyK P md ops Q S E fuel listed a w (i::rs):=fun j hj=>by
 rcases List.mem_cons.1 hj with rfl |hj
 ·exact wpOp_step ho (fun K' hK=>h K' (fun a w hS hW=>hK a w ⟨fun _=>hS,hW hS⟩))
 ·exact hs j hj
theorem AllReadyK.late(ho:ops[i]? = some o)(hE:came E (listed.setIfInBounds i true)=true)
  (h:∀ K':Act→World→Prop,Shut (∀ a w,wpAnyK P md ops Q S E fuel (listed.setIfInBounds i true) a w→K' a w)→if Region.wanted o (yielded ops a.tmps)=true then Oper.wp P o a w K' Q else K' (a.put o.dst undef) w)
  (hs:AllReadyK P md ops Q S E fuel listed a w rs):AllReadyK P md ops Q S E fuel listed a w (i::rs):=fun j hj=>by
 rcases List.mem_cons.1 hj with rfl |hj
 ·exact wpOp_step ho (fun K' hK=>h K' (fun a w hW=>hK a w ⟨fun hc=>(by rw [hE]at hc;cases hc),hW⟩))
 ·exact hs j hj
theorem wpAnyK_ready(hr:Region.ready md ops listed=rs)(hne:rs≠[])
  (h:AllReadyK P md ops Q S E fuel listed a w rs):wpAnyK P md ops Q S E (fuel+1) listed a w:=⟨fun h0=>absurd (hr▸h0) hne,hr▸h⟩
theorem wpAnyK_done(hr:Region.ready md ops listed = [])(h:Q .normal a w) :
  ∀ fuel,wpAnyK P md ops Q S E fuel listed a w
 | 0=>⟨hr,h⟩
 | _+1=>⟨fun _=>h,by rw [hr];simp⟩
theorem wp_region_K{id:Nat}(E:Nat→Bool)(hm:P.follows .mixedOrders=true)(hS:S w.drew)
  (h:S w.drew→wpAnyK P .any ops Q S E ops.size (Array.replicate ops.size false) a w.drew):(Code.region id ops true).wp P Q a w:=
 wp_region_any hm (wpAny_of_K _ _ _ _ (h hS))
end
end Cch
namespace Cch
open Go.RowKit Go.Maps
structure Row where
 page:Int
 bytes:List Nat
 pins:Nat
 dirty:Bool
structure Ent where
 row:Row
 bef:Option Nat
 aft:Option Nat
def ptr:Option Nat→Value
 | none=>.pointer none
 | some b=>.pointer (some ⟨b,0,none⟩)
def tailE(e:Ent):List Value:=[.int .i64 (e.row.pins:Int),.bool e.row.dirty,ptr e.bef,ptr e.aft]
def cellsE(e:Ent):List Value:=.int .i64 e.row.page::(bs e.row.bytes++tailE e)
variable {e:Ent}
theorem cellsE_length(h:e.row.bytes.length=512):(cellsE e).length=517:=by simp [cellsE,tailE,bs_length,h]
theorem cellsE_at(h:e.row.bytes.length=512)(j:Nat):(cellsE e)[513+j]? = (tailE e)[j]?:=by
 have e1:513+j=(512+j)+1:=by omega
 rw [cellsE,e1,List.getElem?_cons_succ,List.getElem?_append_right (by rw [bs_length,h];omega),bs_length,h,Nat.add_sub_cancel_left]
theorem cellsE_byte(h:e.row.bytes.length=512)(t:Nat)(ht:t<512):(cellsE e)[1+t]? = some (.int .u8 ((e.row.bytes.getD t 0:Nat):Int)):=by
 rw [cellsE,Nat.add_comm 1 t,List.getElem?_cons_succ,List.getElem?_append_left (by rw [bs_length,h];exact ht),bs_get _ _ (by omega)]
theorem cellsE_set(h:e.row.bytes.length=512)(j:Nat)(v:Value):(cellsE e).set (513+j) v=.int .i64 e.row.page::(bs e.row.bytes++(tailE e).set j v):=by
 have e1:513+j=(512+j)+1:=by omega
 rw [cellsE,e1,List.set_cons_succ,List.set_append_right _ _ (by rw [bs_length,h];omega),bs_length,h,Nat.add_sub_cancel_left]
structure EntAt (w:World) (b:Nat) (e:Ent):Prop where
 blk:w.heap[b]? = some (.cells (cellsE e).toArray 148 (0,0))
 len:e.row.bytes.length=512
variable {b:Nat} {w:World}
theorem EntAt.lt(h:EntAt w b e):b<w.heap.size:=(Array.getElem?_eq_some_iff.1 h.blk).1
theorem EntAt.stay{w':World}(h:EntAt w b e)(hb:w'.heap[b]? = w.heap[b]?):EntAt w' b e:=⟨hb.trans h.blk,h.len⟩
theorem EntAt.cellAt(h:EntAt w b e)(i:Nat):w.cell? ⟨b,i,none⟩=(cellsE e)[i]?:=by
 simp [World.cell?,h.blk]
theorem EntAt.page(h:EntAt w b e):w.cell? ⟨b,0,none⟩=some (.int .i64 e.row.page):=by rw [h.cellAt];rfl
theorem EntAt.pins(h:EntAt w b e):w.cell? ⟨b,513,none⟩=some (.int .i64 (e.row.pins:Int)):=by rw [h.cellAt];exact cellsE_at h.len 0
theorem EntAt.dirty(h:EntAt w b e):w.cell? ⟨b,514,none⟩=some (.bool e.row.dirty):=by rw [h.cellAt];exact cellsE_at h.len 1
theorem EntAt.bef(h:EntAt w b e):w.cell? ⟨b,515,none⟩=some (ptr e.bef):=by rw [h.cellAt];exact cellsE_at h.len 2
theorem EntAt.aft(h:EntAt w b e):w.cell? ⟨b,516,none⟩=some (ptr e.aft):=by rw [h.cellAt];exact cellsE_at h.len 3
theorem EntAt.frozen(h:EntAt w b e)(i:Nat):w.frozen? ⟨b,i,none⟩=false:=by simp [World.frozen?,h.blk]
theorem EntAt.rd(h:EntAt w b e):Rd w (some ⟨b,1,none⟩) 512 512 e.row.bytes:=
 ⟨h.len,Nat.le_refl _,fun h=>(by cases h),fun _=>⟨b,1,rfl,fun t ht=>by rw [h.cellAt];exact cellsE_byte h.len t ht⟩⟩
theorem blk_set{i:Nat}{v:Value}{cs:List Value}{t:TypeId}(h:w.heap[b]? = some (.cells cs.toArray t (0,0))):(w.setCell ⟨b,i,none⟩ v).heap[b]? = some (.cells (cs.set i v).toArray t (0,0)):=by
 have hgl:b<w.heap.size:=(Array.getElem?_eq_some_iff.1 h).1
 simp [World.setCell,Array.getElem?_modify,h]
def Ent.wBef(e:Ent)(b:Nat):Ent:={ e with bef:=some b }
def Ent.wAft(e:Ent)(b:Nat):Ent:={ e with aft:=some b }
def Ent.wBytes(e:Ent)(x:List Nat):Ent:={ e with row:={ e.row with bytes:=x } }
theorem EntAt.setBef(h:EntAt w b e)(q:Nat):EntAt (w.setCell ⟨b,515,none⟩ (.pointer (some ⟨q,0,none⟩))) b (e.wBef q):=
 ⟨by rw [blk_set h.blk,cellsE_set h.len 2];rfl,h.len⟩
theorem EntAt.setAft(h:EntAt w b e)(q:Nat):EntAt (w.setCell ⟨b,516,none⟩ (.pointer (some ⟨q,0,none⟩))) b (e.wAft q):=
 ⟨by rw [blk_set h.blk,cellsE_set h.len 3];rfl,h.len⟩
theorem EntAt.setOther(h:EntAt w b e){k i:Nat}(hk:b≠k)(v:Value):EntAt (w.setCell ⟨k,i,none⟩ v) b e:=h.stay (set_heap w k i b v hk)
def upd(E:Nat→Ent)(k:Nat)(x:Ent):Nat→Ent:=fun b=>if b=k then x else E b
theorem upd_same(E:Nat→Ent)(k:Nat)(x:Ent):upd E k x k=x:=by simp [upd]
theorem upd_other(E:Nat→Ent){k b:Nat}(x:Ent)(h:b≠k):upd E k x b=E b:=by simp [upd,h]
def Chain(E:Nat→Ent):List Nat→Prop
 | x::y::l=>(E x).aft=some y∧(E y).bef=some x∧Chain E (y::l)
 | _=>True
theorem Chain.split{E:Nat→Ent}:∀ {A:List Nat} {p:Nat} {C:List Nat},Chain E (A++p::C)↔Chain E (A++[p])∧Chain E (p::C)
 | [],p,C=>by simp [Chain]
 | [a],p,C=>by
  show (E a).aft=some p∧(E p).bef=some a∧Chain E (p::C)↔((E a).aft=some p∧(E p).bef=some a∧Chain E [p])∧Chain E (p::C)
  simp [Chain,and_assoc]
 | a::b::A,p,C=>by
  have ih:=Chain.split (E:=E) (A:=b::A) (p:=p) (C:=C)
  simp only [List.cons_append]at ih
  simp only [List.cons_append,Chain,and_assoc]
  rw [ih]
theorem Chain.stay{E E':Nat→Ent}:∀ {l:List Nat},Chain E l→(∀ x∈l.dropLast,(E' x).aft=(E x).aft)→(∀ x∈l.tail,(E' x).bef=(E x).bef)→Chain E' l
 | [],_,_,_=>trivial
 | [_],_,_,_=>trivial
 | x::y::l,h,ha,hb=>by
  obtain ⟨h1,h2,h3⟩:=h
  refine ⟨(ha x (by simp [List.dropLast])).trans h1,(hb y (by simp)).trans h2,Chain.stay h3 (fun z hz=>ha z ?_) (fun z hz=>hb z ?_)⟩
  ·simp only [List.dropLast];exact List.mem_cons_of_mem _ hz
  ·simp only [List.tail_cons]at hz ⊢;exact List.mem_cons_of_mem _ hz
variable {B A:List Nat} {p q:Nat}
theorem Chain.ends{E:Nat→Ent}{e:Nat}(h:Chain E (A++p::e::q::B)):(E e).bef=some p∧(E e).aft=some q∧Chain E (A++[p])∧Chain E (q::B):=by
 obtain ⟨h1,h2⟩:=Chain.split.1 h
 exact ⟨h2.2.1,h2.2.2.1,h1,h2.2.2.2.2⟩
theorem last_form(h:Nat)(xs:List Nat):∃ A p,h::xs=A++[p]∧p∈h::xs:=by
 refine ⟨(h::xs).dropLast,(h::xs).getLast (by simp),(List.dropLast_concat_getLast (by simp)).symm,List.getLast_mem _⟩
theorem first_form(ys:List Nat)(h:Nat):∃ q B,ys++[h]=q::B∧q∈h::ys:=by
 cases ys with
 | nil=>exact ⟨h,[],rfl,by simp⟩
 | cons y ys=>exact ⟨y,ys++[h],rfl,by simp⟩
def cut2(E:Nat→Ent)(p q:Nat):Nat→Ent:=upd (upd E p ((E p).wAft q)) q ((upd E p ((E p).wAft q) q).wBef p)
theorem cut2_row(E:Nat→Ent)(p q b:Nat):(cut2 E p q b).row=(E b).row:=by
 unfold cut2 upd;split<;>(try split)<;>simp_all [Ent.wAft,Ent.wBef]
theorem cut2_aft(E:Nat→Ent){p q b:Nat}(h:b≠p):(cut2 E p q b).aft=(E b).aft:=by
 unfold cut2 upd;split<;>simp_all [Ent.wBef]
theorem cut2_bef(E:Nat→Ent){p q b:Nat}(h:b≠q):(cut2 E p q b).bef=(E b).bef:=by
 unfold cut2 upd;simp only [h,if_false];split<;>simp_all [Ent.wAft]
theorem cut2_paft(E:Nat→Ent)(p q:Nat):(cut2 E p q p).aft=some q:=by
 unfold cut2 upd;split<;>simp_all [Ent.wAft,Ent.wBef]
theorem cut2_qbef(E:Nat→Ent)(p q:Nat):(cut2 E p q q).bef=some p:=by
 unfold cut2 upd;simp [Ent.wBef]
theorem cut2_else(E:Nat→Ent){p q b:Nat}(h1:b≠p)(h2:b≠q):cut2 E p q b=E b:=by simp [cut2,upd,h1,h2]
theorem nodup_last(h:(A++[p]).Nodup):p∉A:=by
 intro hp
 have:=List.nodup_append.1 h
 exact this.2.2 p hp p (by simp) rfl
theorem Chain.join{E:Nat→Ent}(h1:Chain E (A++[p]))(h2:Chain E (q::B))
  (hA:p∉A) (hB:q∉B) (hq:q∉(A++[p]).tail) (hp:p∉(q::B).dropLast):Chain (cut2 E p q) (A++p::q::B):=by
 rw [Chain.split]
 refine ⟨h1.stay (fun x hx=>cut2_aft E ?_) (fun x hx=>cut2_bef E ?_),cut2_paft E p q,cut2_qbef E p q,h2.stay (fun x hx=>cut2_aft E ?_) (fun x hx=>cut2_bef E ?_)⟩
 ·rintro rfl;rw [List.dropLast_concat]at hx;exact hA hx
 ·rintro rfl;exact hq hx
 ·rintro rfl;exact hp hx
 ·rintro rfl;exact hB hx
variable {h:Nat}
theorem Chain.cut{E:Nat→Ent}{e:Nat}{xs ys:List Nat}(hc:Chain E (h::(xs++e::ys)++[h]))(nd:(h::(xs++e::ys)).Nodup) :
  ∃ p q,(E e).bef=some p∧(E e).aft=some q∧p∈h::xs∧q∈h::ys∧Chain (cut2 E p q) (h::(xs++ys)++[h]):=by
 obtain ⟨A,p,e1,hp⟩:=last_form h xs
 obtain ⟨q,B,e2,hq⟩:=first_form ys h
 have e3:h::(xs++e::ys)++[h]=A++p::e::q::B:=by
  have:h::(xs++e::ys)++[h]=(h::xs)++e::(ys++[h]):=by simp
  rw [this,e1,e2];simp
 rw [e3]at hc
 obtain ⟨h1,h2,h3,h4⟩:=hc.ends
 refine ⟨p,q,h1,h2,hp,hq,?_⟩
 have e4:h::(xs++ys)++[h]=A++p::q::B:=by
  have:h::(xs++ys)++[h]=(h::xs)++(ys++[h]):=by simp
  rw [this,e1,e2];simp
 rw [e4]
 have nd1:(h::xs).Nodup:=(List.nodup_cons.1 nd).imp (fun hn=>by simp at hn;simp [hn]) (fun hn=>(List.nodup_append.1 hn).1) |> fun h=>List.nodup_cons.2 h
 have hx:∀ x∈h::xs,x∉ys:=by
  intro x hx hy
  have n2:=List.nodup_cons.1 nd
  rcases List.mem_cons.1 hx with rfl |hx
  ·exact n2.1 (by simp [hy])
  ·exact (List.nodup_append.1 n2.2).2.2 x hx x (by simp [hy]) rfl
 have hn:h∉ys:=hx h (by simp)
 have ndy:ys.Nodup:=(List.nodup_cons.1 (List.nodup_append.1 (List.nodup_cons.1 nd).2).2.1).2
 have ndq:(q::B).Nodup:=by
  rw [←e2]
  exact List.nodup_append.2 ⟨ndy,by simp,fun a ha b hb=>by simp at hb;subst hb;rintro rfl;exact hn ha⟩
 refine h3.join h4 (nodup_last (e1▸nd1)) (List.nodup_cons.1 ndq).1 ?_ ?_
 ·rw [←e1]
  intro hq2
  simp only [List.tail_cons]at hq2
  rcases List.mem_cons.1 hq with rfl |hq
  ·exact (List.nodup_cons.1 nd1).1 hq2
  ·exact hx q (by simp [hq2]) hq
 ·rw [←e2,List.dropLast_concat]
  exact hx p hp
theorem Chain.add{E:Nat→Ent}{e:Nat}{ks:List Nat}(hc:Chain E (h::ks++[h]))(nd:(h::ks).Nodup)(he:e∉h::ks) :
  ∃ z,(E h).bef=some z∧z∈h::ks∧∀ E',(∀ b,b≠e→E' b=E b)→(E' e).bef=some z→(E' e).aft=some h→Chain (fun b=>if b=e then E' e else upd (upd E' z ((E' z).wAft e)) h ((upd E' z ((E' z).wAft e) h).wBef e) b) (h::(ks++[e])++[h]):=by
 obtain ⟨A,z,e1,hz⟩:=last_form h ks
 have e2:h::ks++[h]=A++z::[h]:=by rw [e1];simp
 have hc':=hc
 rw [e2]at hc
 obtain ⟨h1,h2⟩:=Chain.split.1 hc
 refine ⟨z,h2.2.1,hz,fun E' ho hb ha=>?_⟩
 have hne:∀ x∈h::ks,x≠e:=fun x hx hxe=>he (hxe▸hx)
 have hze:=hne z hz
 have hhe:=hne h (by simp)
 have e3:h::(ks++[e])++[h]=A++z::[e,h]:=by
  have:h::(ks++[e])++[h]=(h::ks)++[e,h]:=by simp
  rw [this,e1];simp
 rw [e3,Chain.split]
 have hzA:z∉A:=nodup_last (e1▸nd)
 refine ⟨h1.stay (fun x hx=>?_) (fun x hx=>?_),?_,?_,?_,?_,trivial⟩
 ·rw [List.dropLast_concat]at hx
  have hxm:x∈h::ks:=by rw [e1];exact List.mem_append_left _ hx
  have hxz:x≠z:=by rintro rfl;exact hzA hx
  simp only [hne x hxm,if_false,upd]
  split
  ·rename_i hxh;subst hxh;simp [Ent.wBef,hxz,ho x (hne x hxm)]
  ·simp [ho x (hne x hxm)]
 ·rw [←e1,List.tail_cons]at hx
  have hxm:x∈h::ks:=List.mem_cons_of_mem _ hx
  have hxh:x≠h:=by rintro rfl;exact (List.nodup_cons.1 nd).1 hx
  simp only [hne x hxm,if_false,upd,hxh]
  split
  ·rename_i hxz;subst hxz;simp [Ent.wAft,ho x (hne x hxm)]
  ·simp [ho x (hne x hxm)]
 ·simp only [hze,if_false,upd]
  split
  ·rename_i hzh;simp [Ent.wBef,Ent.wAft,hzh]
  ·simp [Ent.wAft]
 ·simp [hb]
 ·simp [ha]
 ·simp [hhe,upd,Ent.wBef]
end Cch
namespace Cch
open Go.RowKit Go.Maps
def ptrD:Option Nat→DataW Unit
 | none=>.lit (.bool false)
 | some b=>.lit (.int .i64 (b:Int))
theorem ptrD_inj{a b:Option Nat}(h:ptrD a=ptrD b):a=b:=by
 cases a<;>cases b<;>simp [ptrD]at h ⊢
 omega
def ptrR:Value→Option (DataW Unit×List MemPlace)
 | .pointer none=>some (ptrD none,[])
 | .pointer (some ⟨b,0,none⟩)=>some (ptrD (some b),[])
 | _=>none
theorem ptrR_mk(o:Option Nat):ptrR (ptr o)=some (ptrD o,[]):=by cases o<;>rfl
theorem ptrR_inv{v:Value}{o:Option Nat}{ps:List MemPlace}(h:ptrR v=some (ptrD o,ps)):v=ptr o:=by
 unfold ptrR at h
 split at h
 ·simp only [Option.some.injEq,Prod.mk.injEq]at h;rw [←ptrD_inj h.1];rfl
 ·simp only [Option.some.injEq,Prod.mk.injEq]at h;rw [←ptrD_inj h.1];rfl
 ·cases h
theorem Tryz.u49:Tryz.prog.underlying 109=some (.map 3 110):=by kernel_rfl
theorem Tryz.u3:Tryz.prog.underlying 3=some (.int .i64):=by kernel_rfl
theorem Tryz.z50(w:World):(zeroValue 110).run Tryz.prog w=.ok (ptr none) w:=by kernel_rfl
def MapAt(w:World)(m:Nat)(f:Int→Option Nat)(n:Nat):Prop:=
 ∃ D:DataW Unit,w.ownsMap Tryz.prog 3 ptrR m n D∧Maps.size D=n∧∀ k:Int,(Lit.int .i64 k).wf=true→Maps.has D (.int .i64 k)=(f k).isSome∧D.atKey (.int .i64 k) (ptrD none)=ptrD (f k)
variable {m n:Nat} {w:World}
theorem MapAt.lt{f:Int→Option Nat}(h:MapAt w m f n):m<w.heap.size:=by obtain ⟨D,h,_⟩:=h;exact h.lt
theorem MapAt.obj{f:Int→Option Nat}(h:MapAt w m f n):∃ es cl,w.heap[m]? = some (.map es cl):=by obtain ⟨D,⟨es,cl,h,_⟩,_⟩:=h;exact ⟨es,cl,h⟩
theorem MapAt.stay{w':World}{f:Int→Option Nat}(h:MapAt w m f n)(hb:w'.heap[m]? = w.heap[m]?):MapAt w' m f n:=by
 obtain ⟨D,⟨es,clock,hg,hF,hs',hD⟩,hr⟩:=h
 exact ⟨D,⟨es,clock,hb.trans hg,hF,hs',hD⟩,hr⟩
theorem MapAt.imp{n':Nat}{f g:Int→Option Nat}(h:MapAt w m f n)(hn:n=n')(hfg:∀ k,(Lit.int .i64 k).wf=true→f k=g k):MapAt w m g n':=by
 subst hn
 obtain ⟨D,h1,h2,h3⟩:=h
 exact ⟨D,h1,h2,fun k hk=>by rw [←hfg k hk];exact h3 k hk⟩
theorem MapAt.new(w:World):MapAt (w.alloc (.map #[] 0)) w.heap.size (fun _=>none) 0:=
 ⟨_,World.ownsMap_made w _ _ _,rfl,fun _ _=>⟨rfl,rfl⟩⟩
variable {k:Int}
theorem key_int(hk:(Lit.int .i64 k).wf=true):keyOf Tryz.prog 3 (.int .i64 k)=some (.int .i64 k):=keyOf_int_mk Tryz.u3 hk
theorem KD:Keyed Tryz.prog 3:=int_keyed Tryz.u3
theorem lit_ne{j:Int}(h:j≠k):(Lit.int .i64 j)≠(Lit.int .i64 k):=by intro e;cases e;exact h rfl
theorem MapAt.look{f:Int→Option Nat}(h:MapAt w m f n){k:Int}(hk:(Lit.int .i64 k).wf=true) :
  (Instr.lookup 109 (.map (some m)) (.int .i64 k) false).run Tryz.prog w=.ok (ptr (f k)) w:=by
 obtain ⟨D,h1,_,h3⟩:=h
 obtain ⟨v,ps,hrun,hv⟩:=h1.lookup KD Tryz.u49 (Tryz.z50 w) (ptrR_mk none) (key_int hk)
 rw [(h3 k hk).2]at hv
 rw [hrun,ptrR_inv hv]
theorem MapAt.len{f:Int→Option Nat}(h:MapAt w m f n)(ty:TypeId):(Builtin.len_ #[109] ty #[.map (some m)]).run Tryz.prog w=.ok (.int .i64 (n:Int)) w:=by
 obtain ⟨D,h1,h2,_⟩:=h
 rw [h1.len Tryz.u49 ty,h2]
theorem MapAt.put{f:Int→Option Nat}(h:MapAt w m f n){k:Int}(hk:(Lit.int .i64 k).wf=true)(hn:n<1000000)(b:Nat) :
  ∃ w',(Instr.mapUpdate 109 (.map (some m)) (.int .i64 k) (.pointer (some ⟨b,0,none⟩))).run Tryz.prog w=.ok () w'∧MapAt w' m (fun j=>if j=k then some b else f j) (if (f k).isSome then n else n+1)∧w.mapTurned w' m:=by
 obtain ⟨D,h1,h2,h3⟩:=h
 obtain ⟨w',hrun,ho,ht⟩:=h1.store KD Tryz.u49 (by unfold maxLen;omega) (key_int hk) (ptrR_mk (some b))
 refine ⟨w',hrun,⟨D.put (.int .i64 k) (ptrD (some b)),?_,?_,fun j hj=>?_⟩,ht⟩
 ·obtain ⟨es,clock,hb,F,hs,hD⟩:=ho
  refine ⟨es,clock,hb,F,?_,hD⟩
  have e1:=size_put (k:=.int .i64 k) (h1.tidy KD) (ptrD (some b))
  rw [(h3 k hk).1,h2]at e1
  rw [←e1,hD,Maps.size_eq,length_read];exact Nat.le_refl _
 ·have e1:=size_put (k:=.int .i64 k) (h1.tidy KD) (ptrD (some b))
  rw [(h3 k hk).1,h2]at e1
  exact e1
 ·by_cases hjk:j=k
  ·subst hjk
   dsimp only;rw [if_pos rfl]
   exact ⟨has_put_same (k:=.int .i64 j) h1.isMap trivial _,atKey_put_same (k:=.int .i64 j) h1.isMap trivial _ _⟩
  ·dsimp only;rw [if_neg hjk,has_put_other (lit_ne hjk),atKey_put_other (lit_ne hjk)]
   exact h3 j hj
theorem MapAt.del{f:Int→Option Nat}(h:MapAt w m f n){k:Int}(hk:(Lit.int .i64 k).wf=true)(ty:TypeId) :
  ∃ w',(Builtin.delete_ #[109,3] ty #[.map (some m),.int .i64 k]).run Tryz.prog w=.ok (.tuple #[]) w'∧MapAt w' m (fun j=>if j=k then none else f j) (if (f k).isSome then n - 1 else n)∧w.mapTurned w' m:=by
 obtain ⟨D,h1,h2,h3⟩:=h
 obtain ⟨w',hrun,ho,ht⟩:=h1.drop KD Tryz.u49 (key_int hk) ty
 have e1:=size_del (k:=.int .i64 k) (h1.tidy KD)
 rw [(h3 k hk).1,h2]at e1
 have e2:Maps.size (D.del (.int .i64 k))=if (f k).isSome then n - 1 else n:=by split at e1<;>rename_i hs<;>simp only [hs]<;>simp<;>omega
 refine ⟨w',hrun,⟨D.del (.int .i64 k),?_,e2,fun j hj=>?_⟩,ht⟩
 ·obtain ⟨es,clock,hb,F,hs,hD⟩:=ho
  refine ⟨es,clock,hb,F,?_,hD⟩
  rw [←e2,hD,Maps.size_eq,length_read];exact Nat.le_refl _
 ·by_cases hjk:j=k
  ·subst hjk
   dsimp only;rw [if_pos rfl]
   exact ⟨has_del_same,atKey_del_same _⟩
  ·dsimp only;rw [if_neg hjk,has_del_other (lit_ne hjk),atKey_del_other (lit_ne hjk)]
   exact h3 j hj
end Cch
namespace Cch
open Go.RowKit Go.Maps
structure Fr (S:Nat→Prop) (w w':World):Prop where
 os:w'.os=w.os
 tape:w'.tape=w.tape
 output:w'.output=w.output
 size:w.heap.size≤w'.heap.size
 blk:∀ k,k<w.heap.size→¬S k→w'.heap[k]? = w.heap[k]?
theorem Fr.refl(S:Nat→Prop)(w:World):Fr S w w:=⟨rfl,rfl,rfl,Nat.le_refl _,fun _ _ _=>rfl⟩
variable {w w':World} {S:Nat→Prop}
theorem Fr.of_below(h:Below w.heap.size w w'):Fr S w w':=⟨h.os,h.tape,h.output,h.size,fun k hk _=>h.block k hk⟩
variable {w1:World} {T:Nat→Prop}
theorem Fr.trans{w2:World}(h:Fr S w w1)(k:Fr T w1 w2)(hT:∀ j,j<w.heap.size→T j→S j):Fr S w w2:=
 ⟨k.os.trans h.os,k.tape.trans h.tape,k.output.trans h.output,Nat.le_trans h.size k.size,fun j hj hS=>(k.blk j (Nat.lt_of_lt_of_le hj h.size) (fun ht=>hS (hT j hj ht))).trans (h.blk j hj hS)⟩
theorem Fr.imp(h:Fr S w w')(hT:∀ j,j<w.heap.size→S j→T j):Fr T w w':=(Fr.refl T w).trans h hT
theorem Fr.drew(h:Fr S w w'):Fr S w w'.drew:=⟨h.os,h.tape,h.output,h.size,h.blk⟩
theorem Fr.set(h:Fr S w w'){k i:Nat}(hk:S k∨w.heap.size≤k)(v:Value):Fr S w (w'.setCell ⟨k,i,none⟩ v):=
 ⟨h.os,h.tape,h.output,by simpa using h.size,fun j hj hS=>(set_heap w' k i j v (by rintro rfl;rcases hk with h1 |h1;exact hS h1;omega)).trans (h.blk j hj hS)⟩
theorem Fr.turned(h:Fr S w w1){m:Nat}(ht:w1.mapTurned w' m)(hm:S m):Fr S w w':=by
 have g:=ht.grown
 exact ⟨g.os.trans h.os,g.tape.trans h.tape,g.output.trans h.output,Nat.le_trans h.size g.size,fun j hj hS=>(g.block j (Nat.lt_of_lt_of_le hj h.size) (by intro e;cases e;exact hS hm)).trans (h.blk j hj hS)⟩
theorem unlink_any(e p q:Nat)(u v:Value)(w:World)(cb:w.cell? ⟨e,515,none⟩=some (.pointer (some ⟨p,0,none⟩)))(ca:w.cell? ⟨e,516,none⟩=some (.pointer (some ⟨q,0,none⟩)))
  (cp:w.cell? ⟨p,516,none⟩=some u) (cq:w.cell? ⟨q,515,none⟩=some v) (fp:w.frozen? ⟨p,516,none⟩=false) (fq:w.frozen? ⟨q,515,none⟩=false) :
  Calls Tryz.prog 151 #[.pointer (some ⟨e,0,none⟩)] w fun r w'=>r=.returned (.tuple #[])∧w'=((w.setCell ⟨p,516,none⟩ (.pointer (some ⟨q,0,none⟩))).setCell ⟨q,515,none⟩ (.pointer (some ⟨p,0,none⟩))).drew:=by
 go_enter Tryz.func151,Tryz.ntmps151
 go_wp2
 go_region
 go_wp2
 go_end0
 exact ⟨rfl,rfl⟩
theorem link_any(c h z e:Nat)(u x y:Value)(w:World)(cc:w.cell? ⟨c,2,none⟩=some (.pointer (some ⟨h,0,none⟩)))(cb:w.cell? ⟨h,515,none⟩=some (.pointer (some ⟨z,0,none⟩)))
  (ce:w.cell? ⟨e,515,none⟩=some x) (cf:w.cell? ⟨e,516,none⟩=some y) (fe:w.frozen? ⟨e,515,none⟩=false) (ff:w.frozen? ⟨e,516,none⟩=false)
  (cp:w.cell? ⟨z,516,none⟩=some u) (fp:w.frozen? ⟨z,516,none⟩=false) (fq:w.frozen? ⟨h,515,none⟩=false) (hze:¬z=e) (hhe:¬h=e) :
  Calls Tryz.prog 152 #[.pointer (some ⟨c,0,none⟩),.pointer (some ⟨e,0,none⟩)] w fun r w'=>r=.returned (.tuple #[])∧w'=((((w.setCell ⟨e,515,none⟩ (.pointer (some ⟨z,0,none⟩))).setCell ⟨e,516,none⟩ (.pointer (some ⟨h,0,none⟩))).setCell ⟨z,516,none⟩ (.pointer (some ⟨e,0,none⟩))).setCell ⟨h,515,none⟩ (.pointer (some ⟨e,0,none⟩))).drew.drew:=by
 go_enter Tryz.func152,Tryz.ntmps152
 go_wp2
 go_region
 go_wp2
 go_region
 go_wp2
 go_end0
 exact ⟨rfl,rfl⟩
theorem EntAt.drew{b:Nat}{e:Ent}(h:EntAt w b e):EntAt w.drew b e:=⟨h.blk,h.len⟩
structure RingAt (w:World) (h:Nat) (ks:List Nat) (E:Nat→Ent):Prop where
 en:∀ b∈h::ks,EntAt w b (E b)
 ch:Chain E (h::ks++[h])
 nd:(h::ks).Nodup
theorem RingAt.stay{h:Nat}{ks:List Nat}{E:Nat→Ent}(H:RingAt w h ks E)(hb:∀ b∈h::ks,w'.heap[b]? = w.heap[b]?):RingAt w' h ks E:=
 ⟨fun b hb'=>(H.en b hb').stay (hb b hb'),H.ch,H.nd⟩
theorem ent_cut2{p q:Nat}{E:Nat→Ent}(hp:EntAt w p (E p))(hq:EntAt w q (E q)){b:Nat}(hb:EntAt w b (E b)) :
  EntAt (((w.setCell ⟨p,516,none⟩ (.pointer (some ⟨q,0,none⟩))).setCell ⟨q,515,none⟩ (.pointer (some ⟨p,0,none⟩))).drew) b (cut2 E p q b):=by
 refine EntAt.drew ?_
 have h1:∀ b,EntAt w b (E b)→EntAt (w.setCell ⟨p,516,none⟩ (.pointer (some ⟨q,0,none⟩))) b (upd E p ((E p).wAft q) b):=fun b hb=>by
  by_cases hbp:b=p
  ·subst hbp;rw [upd_same];exact hp.setAft q
  ·rw [upd_other _ _ hbp];exact hb.setOther hbp _
 unfold cut2
 by_cases hbq:b=q
 ·subst hbq;rw [upd_same];exact (h1 b hq).setBef p
 ·rw [upd_other _ _ hbq];exact (h1 b hb).setOther hbq _
theorem unlink_ring(h e:Nat)(xs ys:List Nat)(E:Nat→Ent)(w:World)(H:RingAt w h (xs++e::ys) E) :
  Calls Tryz.prog 151 #[.pointer (some ⟨e,0,none⟩)] w fun r w'=>r=.returned (.tuple #[])∧∃ E',RingAt w' h (xs++ys) E'∧EntAt w' e (E e)∧(∀ b,(E' b).row=(E b).row)∧(∀ b,b∈ys→(E' b).aft=(E b).aft)∧Fr (·∈h::(xs++ys)) w w':=by
 obtain ⟨p,q,hb,ha,hp,hq,hc⟩:=H.ch.cut H.nd
 have n2:=List.nodup_cons.1 H.nd
 have n3:=List.nodup_append.1 n2.2
 have n4:=List.nodup_cons.1 n3.2.1
 have hpm:p∈h::(xs++e::ys):=by rcases List.mem_cons.1 hp with rfl |hp;simp;simp [hp]
 have hqm:q∈h::(xs++e::ys):=by rcases List.mem_cons.1 hq with rfl |hq;simp;simp [hq]
 have hpe:p≠e:=by
  rcases List.mem_cons.1 hp with rfl |hp
  ·rintro rfl;exact n2.1 (by simp)
  ·exact n3.2.2 p hp e (by simp)
 have hqe:q≠e:=by
  rcases List.mem_cons.1 hq with rfl |hq
  ·rintro rfl;exact n2.1 (by simp)
  ·rintro rfl;exact n4.1 hq
 have ep:=H.en p hpm;have eq:=H.en q hqm;have ee:=H.en e (by simp)
 have cb:=ee.bef;have ca:=ee.aft
 rw [hb]at cb;rw [ha]at ca
 refine (unlink_any e p q _ _ w cb ca ep.aft eq.bef (ep.frozen _) (eq.frozen _)).mono ?_
 rintro r w' ⟨rfl,rfl⟩
 refine ⟨rfl,cut2 E p q,⟨fun b hb=>ent_cut2 ep eq (H.en b ?_),hc,?_⟩,?_,cut2_row E p q,fun b hby=>cut2_aft E ?_,(((Fr.refl _ w).set (Or.inl ?_) _).set (Or.inl ?_) _).drew⟩
 ·simp only [List.mem_cons,List.mem_append]at hb ⊢
  rcases hb with h |h |h<;>simp [h]
 ·refine List.nodup_cons.2 ⟨fun hm=>n2.1 ?_,List.nodup_append.2 ⟨n3.1,n4.2,fun a ha b hb=>n3.2.2 a ha b (by simp [hb])⟩⟩
  simp only [List.mem_cons,List.mem_append]at hm ⊢
  rcases hm with h |h<;>simp [h]
 ·have:=ent_cut2 ep eq ee
  rwa [cut2_else E hpe.symm hqe.symm]at this
 ·rintro rfl
  rcases List.mem_cons.1 hp with rfl |hp
  ·exact n2.1 (by simp [hby])
  ·exact n3.2.2 b hp b (by simp [hby]) rfl
 ·rcases List.mem_cons.1 hp with rfl |hp;simp;simp [hp]
 ·rcases List.mem_cons.1 hq with rfl |hq;simp;simp [hq]
theorem link_ring(c h e:Nat)(ks:List Nat)(E:Nat→Ent)(w:World)(H:RingAt w h ks E)(he:e∉h::ks)(x:Ent)(hx:EntAt w e x)(cc:w.cell? ⟨c,2,none⟩=some (.pointer (some ⟨h,0,none⟩))) :
  Calls Tryz.prog 152 #[.pointer (some ⟨c,0,none⟩),.pointer (some ⟨e,0,none⟩)] w fun r w'=>r=.returned (.tuple #[])∧∃ E',RingAt w' h (ks++[e]) E'∧(E' e).row=x.row∧(∀ b,b≠e→(E' b).row=(E b).row)∧Fr (·∈h::(ks++[e])) w w':=by
 obtain ⟨z,hb,hz,hch⟩:=H.ch.add H.nd he
 have ez:=H.en z hz;have eh:=H.en h (by simp)
 have cb:=eh.bef
 rw [hb]at cb
 have hze:¬z=e:=fun h1=>he (h1▸hz)
 have hhe:¬h=e:=fun h1=>he (by simp [h1])
 refine (link_any c h z e _ _ _ w cc cb hx.bef hx.aft (hx.frozen _) (hx.frozen _) ez.aft (ez.frozen _) (eh.frozen _) hze hhe).mono ?_
 rintro r w' ⟨rfl,rfl⟩
 obtain ⟨E1,hE1⟩:∃ E1,E1=upd E e ((x.wBef z).wAft h):=⟨_,rfl⟩
 have hE1e:E1 e=(x.wBef z).wAft h:=by rw [hE1,upd_same]
 have hE1o:∀ b,b≠e→E1 b=E b:=fun b hb=>by rw [hE1,upd_other _ _ hb]
 have hc:=hch E1 hE1o (by rw [hE1e];rfl) (by rw [hE1e];rfl)
 have hfun:(fun b=>if b=e then E1 e else upd (upd E1 z ((E1 z).wAft e)) h ((upd E1 z ((E1 z).wAft e) h).wBef e) b)=upd (upd E1 z ((E1 z).wAft e)) h ((upd E1 z ((E1 z).wAft e) h).wBef e):=by
  funext b
  by_cases hbe:b=e
  ·subst hbe;rw [if_pos rfl,upd_other _ _ (Ne.symm hhe),upd_other _ _ (Ne.symm hze)]
  ·rw [if_neg hbe]
 rw [hfun]at hc
 have s1:∀ b,EntAt w b (E b)→b≠e→EntAt ((w.setCell ⟨e,515,none⟩ (.pointer (some ⟨z,0,none⟩))).setCell ⟨e,516,none⟩ (.pointer (some ⟨h,0,none⟩))) b (E1 b):=fun b hb hbe=>by
  rw [hE1o b hbe];exact (hb.setOther hbe _).setOther hbe _
 have s1e:EntAt ((w.setCell ⟨e,515,none⟩ (.pointer (some ⟨z,0,none⟩))).setCell ⟨e,516,none⟩ (.pointer (some ⟨h,0,none⟩))) e (E1 e):=by
  rw [hE1e];exact (hx.setBef z).setAft h
 have s2:∀ b,EntAt ((w.setCell ⟨e,515,none⟩ (.pointer (some ⟨z,0,none⟩))).setCell ⟨e,516,none⟩ (.pointer (some ⟨h,0,none⟩))) b (E1 b)→EntAt (((w.setCell ⟨e,515,none⟩ (.pointer (some ⟨z,0,none⟩))).setCell ⟨e,516,none⟩ (.pointer (some ⟨h,0,none⟩))).setCell ⟨z,516,none⟩ (.pointer (some ⟨e,0,none⟩))) b (upd E1 z ((E1 z).wAft e) b):=fun b hb=>by
  by_cases hbz:b=z
  ·subst hbz;rw [upd_same];exact hb.setAft e
  ·rw [upd_other _ _ hbz];exact hb.setOther hbz _
 have s3:∀ b,EntAt (((w.setCell ⟨e,515,none⟩ (.pointer (some ⟨z,0,none⟩))).setCell ⟨e,516,none⟩ (.pointer (some ⟨h,0,none⟩))).setCell ⟨z,516,none⟩ (.pointer (some ⟨e,0,none⟩))) b (upd E1 z ((E1 z).wAft e) b)→EntAt ((((w.setCell ⟨e,515,none⟩ (.pointer (some ⟨z,0,none⟩))).setCell ⟨e,516,none⟩ (.pointer (some ⟨h,0,none⟩))).setCell ⟨z,516,none⟩ (.pointer (some ⟨e,0,none⟩))).setCell ⟨h,515,none⟩ (.pointer (some ⟨e,0,none⟩))) b (upd (upd E1 z ((E1 z).wAft e)) h ((upd E1 z ((E1 z).wAft e) h).wBef e) b):=fun b hb=>by
  by_cases hbh:b=h
  ·subst hbh;rw [upd_same];exact hb.setBef e
  ·rw [upd_other _ _ hbh];exact hb.setOther hbh _
 refine ⟨rfl,_,⟨fun b hb=>?_,hc,?_⟩,?_,fun b hbe=>?_,(((((Fr.refl _ w).set (Or.inl (by simp)) _).set (Or.inl (by simp)) _).set (Or.inl ?_) _).set (Or.inl (by simp)) _).drew.drew⟩
 ·refine EntAt.drew (EntAt.drew ?_)
  by_cases hbe:b=e
  ·subst hbe;exact s3 b (s2 b s1e)
  ·refine s3 b (s2 b (s1 b (H.en b ?_) hbe))
   simp only [List.mem_cons,List.mem_append,List.not_mem_nil,or_false]at hb ⊢
   rcases hb with h |h |h
   ·exact Or.inl h
   ·exact Or.inr h
   ·exact absurd h hbe
 ·rw [show h::(ks++[e])=(h::ks)++[e] by simp]
  exact List.nodup_append.2 ⟨H.nd,by simp,fun a ha b hb=>by simp at hb;subst hb;rintro rfl;exact he ha⟩
 ·rw [upd_other _ _ (Ne.symm hhe),upd_other _ _ (Ne.symm hze),hE1e];rfl
 ·unfold upd
  split
  ·rename_i h1;subst h1;split<;>simp_all [Ent.wBef,Ent.wAft]
  ·split
   ·rename_i h1;subst h1;simp_all [Ent.wAft]
   ·rw [hE1o b hbe]
 ·simp only [List.mem_cons,List.mem_append]at hz ⊢
  rcases hz with h |h<;>simp [h]
theorem use_ring(c h e:Nat)(xs ys:List Nat)(E:Nat→Ent)(w:World)(H:RingAt w h (xs++e::ys) E)(cc:w.heap[c]?.isSome)(hc:c∉h::(xs++e::ys))(ch:w.cell? ⟨c,2,none⟩=some (.pointer (some ⟨h,0,none⟩))) :
  Calls Tryz.prog 123 #[.pointer (some ⟨c,0,none⟩),.pointer (some ⟨e,0,none⟩)] w fun r w'=>r=.returned (.tuple #[])∧∃ E',RingAt w' h (xs++ys++[e]) E'∧(∀ b,(E' b).row=(E b).row)∧Fr (·∈h::(xs++e::ys)) w w':=by
 have hcl:c<w.heap.size:=by
  rcases Nat.lt_or_ge c w.heap.size with h1 |h1
  ·exact h1
  ·rw [Array.getElem?_eq_none h1]at cc;cases cc
 have k1:=hid (unlink_ring h e xs ys E w H)
 have n2:=List.nodup_cons.1 H.nd
 have n3:=List.nodup_append.1 n2.2
 have n4:=List.nodup_cons.1 n3.2.1
 have hnot:e∉h::(xs++ys):=by
  intro hm
  simp only [List.mem_cons,List.mem_append]at hm
  rcases hm with h1 |h1 |h1
  ·exact n2.1 (by simp [←h1])
  ·exact n3.2.2 e h1 e (by simp) rfl
  ·exact n4.1 h1
 have hnot2:=hid hnot
 have k2:Hid (∀ (E1:Nat→Ent) (w1:World),RingAt w1 h (xs++ys) E1→EntAt w1 e (E e)→(∀ b,(E1 b).row=(E b).row)→Fr (·∈h::(xs++ys)) w w1→Calls Tryz.prog 152 #[.pointer (some ⟨c,0,none⟩),.pointer (some ⟨e,0,none⟩)] w1 fun r w'=>r=.returned (.tuple #[])∧∃ E',RingAt w' h (xs++ys++[e]) E'∧(∀ b,(E' b).row=(E b).row)∧Fr (·∈h::(xs++e::ys)) w w'):=by
  refine hid fun E1 w1 h1 h2 h3 h4=>?_
  have hcs:c∉h::(xs++ys):=fun hm=>hc (by
   simp only [List.mem_cons,List.mem_append]at hm ⊢
   rcases hm with h |h |h<;>simp [h])
  have ch1:w1.cell? ⟨c,2,none⟩=some (.pointer (some ⟨h,0,none⟩)):=(World.cell?_of_block (h4.blk c hcl hcs)).trans ch
  refine (link_ring c h e (xs++ys) E1 w1 h1 hnot (E e) h2 ch1).mono ?_
  rintro r w' ⟨rfl,E',g1,g2,g3,g4⟩
  refine ⟨rfl,E',g1,fun b=>?_,(h4.imp ?_).trans g4 ?_⟩
  ·by_cases hbe:b=e
   ·subst hbe;exact g2
   ·exact (g3 b hbe).trans (h3 b)
  ·intro j _ hj
   simp only [List.mem_cons,List.mem_append]at hj ⊢
   rcases hj with h |h |h<;>simp [h]
  ·intro j _ hj
   simp only [List.mem_cons,List.mem_append,List.not_mem_nil,or_false]at hj ⊢
   rcases hj with h |(h |h) |h<;>simp [h]
 clear H hnot n2 n3 n4 cc ch
 go_enter Tryz.func123,Tryz.ntmps123
 go_wp2_with (first |(go_at_call 151;refine k1.out.mono ?_;rintro r w1 ⟨rfl,E1,h1,h2,h3,-,h4⟩;replace k2:=hid (k2.out E1 w1 h1 h2 h3 h4);clear h1 h2 h3 h4) |(go_at_call 152;refine k2.out.mono ?_;rintro r w2 ⟨rfl,h5⟩;replace h5:=hid h5))
 go_end0
 exact ⟨rfl,h5.out⟩
end Cch
end Go.Proofs.YtadhdedjdgjboaaGreatDoor
