/- Slices, rows and regions: general laws of mine (as in stage 4); no statement of the seat is proved here. -/
import Derived.Test.YtfcikkechphmaaaGreatDoorProg
import Derived.Maps.AppendAt
import Derived.Maps.OwnSet
import Derived.Maps.OwnOps
import Derived.Deep.AppendSrc
import Derived.WalkKit
import Derived.WalkSpells
import Derived.WalkLawsBesides
import Derived.Laws.CopyOwn
import Derived.Laws.BytesArg
import Derived.Laws.AppendOwnNone
import Derived.Deep.OwnRows
import Derived.BigRegion
import Derived.Deep.RegionWith
import Derived.Deep.RegionHeld3
import Derived.Lib.OthersKept
import Derived.Deep.AppendLies
import Derived.Laws.OwnMore
set_option maxHeartbeats 16000000
set_option maxRecDepth 20000
namespace Go.Proofs.YtfcikkechphmaaaGreatDoor
namespace Cch
open Go.RowKit Go.Maps
variable {w:World}
theorem gt{a b:World}(h:Below w.heap.size w a)(k:Below a.heap.size a b):Below w.heap.size w b:=h.trans (k.mono h.size)
theorem hid{p:Prop}(h:p):Hid p:=h
variable {v:Value}
theorem lt_cell{a:Addr}(h:w.cell? a=some v):a.block<w.heap.size:=by
 rcases Nat.lt_or_ge a.block w.heap.size with h1 |h1
 ·exact h1
 ·exfalso
  have h2:w.heap[a.block]? = none:=Array.getElem?_eq_none h1
  simp [World.cell?,h2]at h
variable {w':World} {B:Nat}
theorem keep_cell(h:Below B w w'){a:Addr}{v:Value}(hc:w.cell? a=some v)(hB:a.block<B):w'.cell? a=some v:=by
 rw [World.cell?_of_block (h.block a.block hB)];exact hc
theorem keep_old(h:Below w.heap.size w w'){a:Addr}{v:Value}(hc:w.cell? a=some v):w'.cell? a=some v:=keep_cell h hc (lt_cell hc)
def bs(xs:List Nat):List Value:=xs.map fun x:Nat=>Value.int .u8 (x:Int)
theorem bs_length(xs:List Nat):(bs xs).length=xs.length:=by simp [bs]
theorem bs_append(xs ys:List Nat):bs (xs++ys)=bs xs++bs ys:=by simp [bs]
theorem bs_one(xs:List Nat):∀ u∈bs xs,u.oneCell'=true:=by
 intro u hu
 obtain ⟨x,_,rfl⟩:=List.mem_map.1 hu
 rfl
theorem bs_get(xs:List Nat)(t:Nat)(h:t<xs.length):(bs xs)[t]? = some (.int .u8 ((xs.getD t 0:Nat):Int)):=by
 simp [bs,List.getElem?_map,List.getElem?_eq_getElem h,List.getD]
theorem bs_get'(xs:List Nat)(t:Nat)(u:Value)(h:(bs xs)[t]? = some u):t<xs.length∧u=.int .u8 ((xs.getD t 0:Nat):Int):=by
 have hl:t<xs.length:=by
  have:=(List.getElem?_eq_some_iff.1 h).1
  simpa [bs] using this
 rw [bs_get xs t hl]at h
 exact ⟨hl,(Option.some.inj h).symm⟩
def Rd(w:World)(ao:Option Addr)(n cap:Nat)(xs:List Nat):Prop:=
 xs.length=n∧n≤cap∧(ao=none→n=0∧cap=0) ∧
  (0<n→∃ b off,ao=some ⟨b,off,none⟩∧∀ t,t<n→w.cell? ⟨b,off+t,none⟩=some (.int .u8 ((xs.getD t 0:Nat):Int)))
variable {xs:List Nat} {n cap:Nat}
theorem Rd.keep{ao:Option Addr}(h:Rd w ao n cap xs)(hb:Below w.heap.size w w'):Rd w' ao n cap xs:=by
 refine ⟨h.1,h.2.1,h.2.2.1,fun hn=>?_⟩
 obtain ⟨b,off,e,hc⟩:=h.2.2.2 hn
 exact ⟨b,off,e,fun t ht=>keep_old hb (hc t ht)⟩
theorem Rd.nil(w:World):Rd w none 0 0 []:=⟨rfl,Nat.le_refl _,fun _=>⟨rfl,rfl⟩,fun h=>by omega⟩
theorem rd_own{g:Nat}(h:w.ownsRow B 5 1 (.slice (some ⟨g,0,none⟩) n cap) n (bs xs)):Rd w (some ⟨g,0,none⟩) n cap xs:=by
 have hl:xs.length=n:=by simpa [bs] using h.1
 refine ⟨hl,?_,fun h=>(by cases h),fun _=>⟨g,0,rfl,fun t ht=>?_⟩⟩
 ·rcases h.2 with ⟨h',_⟩ | ⟨g',cap',cur,h',_,_,hnc,_⟩
  ·simp at h'
  ·simp only [Value.slice.injEq,Option.some.injEq,Addr.mk.injEq,and_true,true_and]at h'
   rw [h'.2];exact hnc
 ·rw [Nat.zero_add,h.cellAt t (by omega),bs_get xs t (by omega)]
theorem Tryz.info5:(Tryz.prog.info? 5).map (fun i=>(i.zero,i.size,i.bytes))=some (some (.int .u8 0),1,1):=by kernel_rfl
theorem here_op(k:Nat){P:Program}{ops:Array Oper}{Q:Exit→Act→World→Prop}{a:Act}{w:World}{rest:List Oper}{op:Op}{t:TypeId}{pos:String}{after:Array Edge}{gd:Option (Nat×Bool)}
  (h:wpList P ops Q (⟨some k,op,t,pos,after,gd⟩::rest) a w):wpList P ops Q (⟨some k,op,t,pos,after,gd⟩::rest) a w:=h
theorem set_heap(w:World)(p i k:Nat)(v:Value)(h:k≠p):(w.setCell ⟨p,i,none⟩ v).heap[k]? = w.heap[k]?:=heap_setCell_other w ⟨p,i,none⟩ k v h
section
variable {P:Program} {ops:Array Oper} {rest:List Oper} {o:Oper} {a:Act} {w:World} {Q:Exit→Act→World→Prop}
theorem wpList_build_run(hgd:o.guard=none)(ty:TypeId)(ho:o.op=.build ty #[])(v:Value)
  (hrun:(Instr.build ty #[]).run P w=.ok v w) (h:wpList P ops Q rest (a.put o.dst v) w):wpList P ops Q (o::rest) a w:=by
 refine wpList_plain hgd fun K hK=>?_
 unfold Oper.wp
 simp [execOp,ho,hrun,Result.andThen]
 exact hK _ _ h
theorem wpList_box_run(hgd:o.guard=none)(ty:TypeId)(x:Operand)(ho:o.op=.box ty x)(u v:Value)(hx:a.eval x=u)(w':World)
  (hrun:(Instr.box ty u).run P w=.ok v w') (h:wpList P ops Q rest (a.put o.dst v) w'):wpList P ops Q (o::rest) a w:=by
 refine wpList_plain hgd fun K hK=>?_
 unfold Oper.wp
 simp [execOp,ho,hx,hrun,Result.andThen]
 exact hK _ _ h
end
structure El (t e:TypeId) (z:Value) (b:Nat):Prop where
 ht:Tryz.prog.underlying t=some (.slice e)
 hi:∃ i,Tryz.prog.info? e=some i∧i.zero=some z∧i.size=1∧i.bytes=b
 hz:z.cells.size=1
 hb:b≤24
structure Src (w:World) (ao:Option Addr) (m c:Nat) (ys:List Value):Prop where
 len:ys.length=m
 no:ao=none→m=0∧c=0
 at_:∀ ad,ao=some ad→∀ j u,ys[j]? = some u→w.cell? (ad.add j)=some u
 one:∀ u∈ys,u.oneCell'=true
variable {b:Nat} {z:Value} {t e:TypeId}
theorem app_run(E:El t e z b)(ty:TypeId)(w:World)(v:Value)(n:Nat)(xs:List Value)(hown:w.ownsRow 0 e 1 v n xs)(ao:Option Addr)(m c:Nat)(ys:List Value)(hs:Src w ao m c ys)(hb:n+m≤1000000) :
  ∃ v' w',(Builtin.append_ #[t,t] ty #[v,.slice ao m c]).run Tryz.prog w=.ok v' w'∧w'.ownsRow 0 e 1 v' (n+m) (xs++ys)∧w.grownBy w' v.ownBlock∧(v'.ownBlock=v.ownBlock∨v'.ownBlock=some w.heap.size):=by
 obtain ⟨i,hi,hz,hsz,hby⟩:=E.hi
 have hbb:=E.hb
 cases ao with
 | none=>
  obtain ⟨rfl,rfl⟩:=hs.no rfl
  obtain rfl:ys = []:=List.eq_nil_of_length_eq_zero hs.len
  refine ⟨v,w,run_append_owned_none (P:=Tryz.prog) (w:=w) 0 t ty e i 1 E.ht hi v n xs hown,by simpa using hown,⟨rfl,rfl,rfl,Nat.le_refl _,fun _ _ _=>rfl⟩,Or.inl rfl⟩
 | some ad=>
  have hm:(n+m)*b≤1000000*24:=Nat.mul_le_mul hb hbb
  obtain ⟨v',w',h1,h2,h3,_,h5⟩:=run_append_own_at (P:=Tryz.prog) w 0 t ty e i z 1 b E.ht hi hz hsz hby E.hz (by decide) v n xs hown ad m c ys (by rw [hs.len];omega) (hs.at_ ad rfl) hs.one (by unfold maxLen;omega) (by omega) (Nat.zero_le _)
  exact ⟨v',w',h1,h2,h3,h5⟩
theorem row_form{xs:List Value}(h:w.ownsRow 0 e 1 v n xs):∃ ao cap,v=.slice ao n cap∧(ao=none→n=0∧cap=0)∧∀ a,ao=some a→a=⟨a.block,0,none⟩∧n≤cap∧a.block<w.heap.size:=by
 rcases h.2 with ⟨rfl,rfl⟩ | ⟨g,cap,cur,rfl,_,hg,hnc,_⟩
 ·exact ⟨none,0,rfl,fun _=>⟨rfl,rfl⟩,fun a ha=>by cases ha⟩
 ·exact ⟨_,_,rfl,fun h=>(by cases h),fun a ha=>by cases ha;exact ⟨rfl,hnc,(Array.getElem?_eq_some_iff.1 hg).1⟩⟩
theorem app_run'(E:El t e z b)(ty:TypeId)(w:World)(v:Value)(n:Nat)(xs:List Value)(hown:w.ownsRow 0 e 1 v n xs)(ao:Option Addr)(m c:Nat)(ys:List Value)(hs:Src w ao m c ys)(hb:n+m≤1000000) :
  ∃ ao' c' w',(Builtin.append_ #[t,t] ty #[v,.slice ao m c]).run Tryz.prog w=.ok (.slice ao' (n+m) c') w'∧w'.ownsRow 0 e 1 (.slice ao' (n+m) c') (n+m) (xs++ys)∧w.grownBy w' v.ownBlock∧∀ a,ao'=some a→(v.ownBlock=some a.block∨a.block=w.heap.size):=by
 obtain ⟨v',w',h1,h2,h3,h4⟩:=app_run E ty w v n xs hown ao m c ys hs hb
 obtain ⟨ao',c',rfl,_⟩:=row_form h2
 refine ⟨ao',c',w',h1,h2,h3,fun a ha=>?_⟩
 subst ha
 rcases h4 with h4 |h4
 ·exact Or.inl h4.symm
 ·right;simpa [Value.ownBlock] using h4
variable {a:Act} {o:Oper} {rest:List Oper} {ops:Array Oper}
theorem wpList_app{Q:Exit→Act→World→Prop}(hgd:o.guard=none)(s x:Operand){t e:TypeId}{z:Value}{b:Nat}(E:El t e z b)
  (ho:o.op=.call { callee:=.builtin .append,args:=#[s,x],argTypes:=#[t,t] }) (v:Value) (n:Nat) (xs:List Value) (hs:a.eval s=v) (hown:w.ownsRow 0 e 1 v n xs)
  (ao:Option Addr) (m c:Nat) (ys:List Value) (hx:a.eval x=.slice ao m c) (hsr:Src w ao m c ys) (hb:n+m≤1000000)
  (h:∀ ao' c' w',w'.ownsRow 0 e 1 (.slice ao' (n+m) c') (n+m) (xs++ys)→w.grownBy w' v.ownBlock→(∀ a,ao'=some a→(v.ownBlock=some a.block∨a.block=w.heap.size))→wpList Tryz.prog ops Q rest (a.put o.dst (.slice ao' (n+m) c')) w'):wpList Tryz.prog ops Q (o::rest) a w:=by
 refine wpList_plain hgd fun K hK=>?_
 obtain ⟨ao',c',w',hr,h2,h3,h4⟩:=app_run' E o.type w v n xs hown ao m c ys hsr hb
 unfold Oper.wp execOp
 simp only [ho,resolve,invoke,builtin,Sem.run_bind,Sem.run_pure,Result.andThen_ok,List.map_toArray,List.map_cons,List.map_nil,hs,hx,hr]
 exact hK _ _ (h ao' c' w' h2 h3 h4)
theorem wpList_append_rd{Q:Exit→Act→World→Prop}(hgd:o.guard=none)(s x:Operand)
  (ho:o.op=.call { callee:=.builtin .append,args:=#[s,x],argTypes:=#[48,48] }) (B:Nat) (v:Value) (n:Nat) (xs:List Nat) (hs:a.eval s=v) (hown:w.ownsRow B 5 1 v n (bs xs))
  (ao:Option Addr) (m c:Nat) (ys:List Nat) (hx:a.eval x=.slice ao m c) (hr:Rd w ao m c ys) (hb:n+m≤140737488355328) (hB:B≤w.heap.size)
  (h:∀ v' w',w'.ownsRow B 5 1 v' (n+m) (bs (xs++ys))→Below B w w'→wpList Tryz.prog ops Q rest (a.put o.dst v') w'):wpList Tryz.prog ops Q (o::rest) a w:=by
 obtain ⟨i5,hi5,hz0,hz1,hz2⟩:=info_parts Tryz.info5
 obtain ⟨hl,hc,hno,hat⟩:=hr
 cases ao with
 | none=>
  obtain ⟨rfl,rfl⟩:=hno rfl
  obtain rfl:ys = []:=List.eq_nil_of_length_eq_zero hl
  refine wpList_append_own_none hgd s x 48 ho B 5 i5 1 Tryz.underlying48 hi5 v n (bs xs) hs hown hx ?_
  exact h v w (by simpa using hown) (Below.refl _ _)
 | some ad=>
  refine wpList_append_own w hgd s x 48 ho B 5 i5 (.int .u8 0) 1 1 Tryz.underlying48 hi5 hz0 hz1 hz2 rfl (by decide) v n (bs xs) hs hown ad m c (bs ys) hx (by simp [bs,hl]) ?_ (bs_one ys) (by unfold maxLen;omega) (by omega) hB ?_
  ·intro j u hu
   obtain ⟨hj,rfl⟩:=bs_get' ys j u hu
   obtain ⟨b,off,e,hcell⟩:=hat (by omega)
   simp only [Option.some.injEq]at e
   subst e
   rw [Addr.add_lit]
   exact hcell j (by omega)
  ·intro v' w' h1 h2 _
   refine h v' w' (by rw [bs_append];exact h1) ((Below.refl B w).grown h2 hB fun k hk=>(hown.lt k hk).1)
theorem rd_owned(h:w.ownsRow B 5 1 v n (bs xs)):∃ ao cap,v=.slice ao n cap∧Rd w ao n cap xs∧∀ a,ao=some a→B≤a.block:=by
 rcases h.2 with ⟨rfl,rfl⟩ | ⟨g,cap,cur,rfl,hB,_⟩
 ·obtain rfl:xs = []:=by have:=h.1;simp [bs]at this;exact this
  exact ⟨none,0,rfl,Rd.nil w,fun a ha=>by cases ha⟩
 ·exact ⟨_,_,rfl,rd_own h,fun a ha=>by cases ha;exact hB⟩
end Cch
namespace Cch
open Go.RowKit Go.Maps
section
variable {P:Program} {ops:Array Oper} {Q:Exit→Act→World→Prop} {md:Region.Mode} {S:World→Prop} {E:Nat→Bool}
def wpAnyG(P:Program)(md:Region.Mode)(ops:Array Oper)(Q:Exit→Act→World→Prop)(S:World→Prop)(E:Nat→Bool):Nat→Array Bool→Act→World→Prop
 | 0,listed,a,w=>Region.ready md ops listed = []∧Q .normal a w
 | fuel+1,listed,a,w=>
  (Region.ready md ops listed = []→Q .normal a w) ∧
  ∀ i∈Region.ready md ops listed,wpOp P ops Q i (fun a' w'=>(E i=false→S w')∧wpAnyG P md ops Q S E fuel (listed.setIfInBounds i true) a' w') a w
def waits(md:Region.Mode)(ops:Array Oper)(E:Nat→Bool)(i:Nat):Bool:=(List.range ops.size).all fun j=>!E j||(match ops[j]? with |some o=>o.after.any (fun e=>Region.binds md e&&e.on == i) |none=>true)
theorem waits_spec{i:Nat}(h:waits md ops E i=true){j:Nat}{oj:Oper}(hj:ops[j]? = some oj)(hE:E j=true):∃ e∈oj.after,Region.binds md e=true∧e.on=i:=by
 have hl:j<ops.size:=(Array.getElem?_eq_some_iff.1 hj).1
 have:=List.all_eq_true.1 h j (by simpa using hl)
 simp only [hE,hj,Bool.not_true,Bool.false_or]at this
 obtain ⟨k,hk,hp⟩:=Array.any_eq_true.1 this
 simp only [Bool.and_eq_true,beq_iff_eq]at hp
 exact ⟨_,Array.getElem_mem hk,hp.1,hp.2⟩
theorem wpAnyG_done{listed:Array Bool}{a:Act}{w:World}(hr:Region.ready md ops listed = [])(h:Q .normal a w) :
  ∀ fuel,wpAnyG P md ops Q S E fuel listed a w
 | 0=>⟨hr,h⟩
 | _+1=>⟨fun _=>h,by rw [hr];simp⟩
end
section
variable {P:Program} {ops:Array Oper} {Q:Exit→Act→World→Prop} {md:Region.Mode} {S:World→Prop} {E:Nat→Bool}
def came(E:Nat→Bool)(listed:Array Bool):Bool:=(List.range listed.size).any fun j=>E j&&listed.getD j false
variable {j:Nat} {listed:Array Bool}
theorem came_set(h:came E listed=false)(hj:E j=false):came E (listed.setIfInBounds j true)=false:=by
 simp only [came,List.any_eq_false,List.mem_range,Array.size_setIfInBounds,Bool.and_eq_true,not_and,Bool.not_eq_true]at h ⊢
 intro k hk hE
 by_cases hjk:j=k
 ·subst hjk;rw [hj]at hE;cases hE
 ·rw [getD_set_ne _ hjk];exact h k hk hE
theorem came_mono(h:came E (listed.setIfInBounds j true)=false):came E listed=false:=by
 simp only [came,List.any_eq_false,List.mem_range,Array.size_setIfInBounds,Bool.and_eq_true,not_and,Bool.not_eq_true]at h ⊢
 intro k hk hE
 have:=h k hk hE
 by_cases hjk:j=k
 ·subst hjk;simp [hk]at this
 ·rw [getD_set_ne _ hjk]at this;exact this
def wpAnyK(P:Program)(md:Region.Mode)(ops:Array Oper)(Q:Exit→Act→World→Prop)(S:World→Prop)(E:Nat→Bool):Nat→Array Bool→Act→World→Prop
 | 0,listed,a,w=>Region.ready md ops listed = []∧Q .normal a w
 | fuel+1,listed,a,w=>
  (Region.ready md ops listed = []→Q .normal a w) ∧
  ∀ i∈Region.ready md ops listed,wpOp P ops Q i (fun a' w'=>(came E (listed.setIfInBounds i true)=false→S w')∧wpAnyK P md ops Q S E fuel (listed.setIfInBounds i true) a' w') a w
theorem wpAny_of_K:∀ (fuel:Nat) (listed:Array Bool) (a:Act) (w:World),wpAnyK P md ops Q S E fuel listed a w→wpAny P md ops Q fuel listed a w
 | 0,_,_,_,h=>h
 | fuel+1,_,_,_,h=>⟨h.1,fun i hi=>wpOp_mono (fun a' w' h'=>wpAny_of_K fuel _ a' w' h'.2) (h.2 i hi)⟩
variable {v:Value} {oi:Oper} {i:Nat}
theorem wpAnyK_first{T:World→Prop}(hi:ops[i]? = some oi)(hsel:∀ (j:Nat) (o:Oper) cs b,ops[j]? = some o→o.op≠.select cs b)
  (hQ:∀ c a w,Q (.panic c) (a.put oi.dst v) w→Q (.panic c) a w) (hEi:E i=false) (hT:(∀ w,T w)∨(T=S∧waits md ops E i=true)) :
  ∀ (fuel:Nat) (listed:Array Bool) (a:Act) (w:World),
   (∀ j oj,ops[j]? = some oj→j≠i→listed.getD j true=false→(∀ e∈oj.after,Region.binds md e=true→e.on≠i)→oi.apart ops oj=true) →
   i∈Region.ready md ops listed→YieldsIf P ops T oi v a→T w→(came E (listed.setIfInBounds i true)=false→S w)→((∀ w,T w)∨came E listed=false) →
   wpAnyK P md ops Q S E fuel (listed.setIfInBounds i true) (a.put oi.dst v) w→wpAnyK P md ops Q S E (fuel+1) listed a w:=by
 intro fuel
 induction fuel with
 | zero=>
  intro listed a w _ hr hy hTw hS hc H
  refine ⟨fun h=>(by rw [h]at hr;cases hr),fun j hj=>?_⟩
  by_cases hji:j=i
  ·subst hji;exact hy.wpOp hi hTw ⟨hS,H⟩
  ·have:=ready_mono hj hji
   rw [H.1]at this
   cases this
 | succ fuel ih=>
  intro listed a w hfree hr hy hTw hS hc H
  refine ⟨fun h=>(by rw [h]at hr;cases hr),fun j hj=>?_⟩
  by_cases hji:j=i
  ·subst hji;exact hy.wpOp hi hTw ⟨hS,H⟩
  ·have h1:=H.2 j (ready_mono hj hji)
   obtain ⟨hjun,oj,hoj,hall⟩:=mem_ready.1 hj
   have hnot:∀ e∈oj.after,Region.binds md e=true→e.on≠i:=fun e he hb heq=>by
    have h1:=hall e he hb
    have h0:=(mem_ready.1 hr).1
    rw [heq]at h1
    rcases Nat.lt_or_ge i listed.size with h' |h'
    ·simp [h']at h0 h1;rw [h0]at h1;cases h1
    ·simp [Array.getElem?_eq_none h']at h1
   have h2:=wpOp_putIf hoj (hfree j oj hoj hji hjun hnot) (fun cs b=>hsel i oi cs b hi) (fun cs b=>hsel j oj cs b hoj) hQ hy h1
   have hfree':∀ k ok,ops[k]? = some ok→k≠i→(listed.setIfInBounds j true).getD k true=false →
     (∀ e∈ok.after,Region.binds md e=true→e.on≠i)→oi.apart ops ok=true:=fun k ok hk hki hun hno=>by
    refine hfree k ok hk hki ?_ hno
    by_cases hjk:j=k
    ·subst hjk;exact hjun
    ·rw [getD_set_ne true hjk]at hun;exact hun
   have hjE:waits md ops E i=true→E j=false:=fun hw=>by
    cases hcj:E j
    ·rfl
    ·obtain ⟨e,he,hb,heq⟩:=waits_spec hw hoj hcj
     exact absurd heq (hnot e he hb)
   refine wpOp_mono (fun a' w' h3=>?_) h2
   have e:=Array.setIfInBounds_comm (xs:=listed) true true hji
   have hS':came E ((listed.setIfInBounds j true).setIfInBounds i true)=false→S w':=fun hcc=>h3.2.1 (by rw [e]at hcc;exact hcc)
   have hTc:T w'∧((∀ w,T w)∨came E (listed.setIfInBounds j true)=false):=by
    rcases hT with h | ⟨h,hw⟩
    ·exact ⟨h w',Or.inl h⟩
    ·rcases hc with h' |h'
     ·exact ⟨h' w',Or.inl h'⟩
     ·have hcj:=came_set h' (hjE hw)
      refine ⟨?_,Or.inr hcj⟩
      rw [h]
      exact hS' (came_set hcj hEi)
   refine ⟨fun hcc=>hS' ?_,ih (listed.setIfInBounds j true) a' w' hfree' (ready_mono hr (Ne.symm hji)) h3.1 hTc.1 hS' hTc.2 ?_⟩
   ·exact came_set hcc hEi
   ·rw [e];exact h3.2.2
variable {w:World} {a:Act} {fuel:Nat}
theorem wpAnyK_take(hi:ops[i]? = some oi)
  (hs:Region.noSelect ops=true) (hf:Region.free md ops listed i=true) (hr:(Region.ready md ops listed).contains i=true) (hE:(!E i&&waits md ops E i&&!came E listed)=true)
  (hQ:∀ c a w,Q (.panic c) (a.put oi.dst v) w→Q (.panic c) a w) (hy:YieldsIf P ops S oi v a) (hS:S w)
  (h:wpAnyK P md ops Q S E fuel (listed.setIfInBounds i true) (a.put oi.dst v) w):wpAnyK P md ops Q S E (fuel+1) listed a w:=by
 simp only [Bool.and_eq_true,Bool.not_eq_true']at hE
 exact wpAnyK_first hi (Region.noSelect_spec hs) hQ hE.1.1 (Or.inr ⟨rfl,hE.1.2⟩) fuel listed a w (Region.free_spec hi hf) (by simpa using hr) hy hS (fun _=>hS) (Or.inr hE.2) h
theorem wpAnyK_pure(hi:ops[i]? = some oi)
  (hs:Region.noSelect ops=true) (hf:Region.free md ops listed i=true) (hr:(Region.ready md ops listed).contains i=true) (hE:E i=false)
  (hQ:∀ c a w,Q (.panic c) (a.put oi.dst v) w→Q (.panic c) a w) (hy:YieldsIf P ops (fun _=>True) oi v a) (hS:S w∨came E listed=true)
  (h:wpAnyK P md ops Q S E fuel (listed.setIfInBounds i true) (a.put oi.dst v) w):wpAnyK P md ops Q S E (fuel+1) listed a w:=
 wpAnyK_first (T:=fun _=>True) hi (Region.noSelect_spec hs) hQ hE (Or.inl fun _=>trivial) fuel listed a w (Region.free_spec hi hf) (by simpa using hr) hy trivial (fun hc=>by
  rcases hS with h |h
  ·exact h
  ·rw [came_mono hc]at h;cases h) (Or.inl fun _=>trivial) h
def AllReadyK(P:Program)(md:Region.Mode)(ops:Array Oper)(Q:Exit→Act→World→Prop)(S:World→Prop)(E:Nat→Bool)(fuel:Nat)(listed:Array Bool)(a:Act)(w:World)(rs:List Nat):Prop:=
 ∀ i∈rs,wpOp P ops Q i (fun a' w'=>(came E (listed.setIfInBounds i true)=false→S w')∧wpAnyK P md ops Q S E fuel (listed.setIfInBounds i true) a' w') a w
theorem AllReadyK.nil:AllReadyK P md ops Q S E fuel listed a w []:=fun _ h=>by cases h
variable {rs:List Nat} {o:Oper}
theorem AllReadyK.cons(ho:ops[i]? = some o)
  (h:∀ K':Act→World→Prop,Shut (∀ a w,S w→(S w→wpAnyK P md ops Q S E fuel (listed.setIfInBounds i true) a w)→K' a w)→if Region.wanted o (yielded ops a.tmps)=true then Oper.wp P o a w K' Q else K' (a.put o.dst undef) w)
  (hs:AllReadyK P md ops Q S E fuel listed a w rs):AllReadyK P md ops Q S E fuel listed a w (i::rs):=fun j hj=>by
 rcases List.mem_cons.1 hj with rfl |hj
 ·exact wpOp_step ho (fun K' hK=>h K' (fun a w hS hW=>hK a w ⟨fun _=>hS,hW hS⟩))
 ·exact hs j hj
theorem AllReadyK.late(ho:ops[i]? = some o)(hE:came E (listed.setIfInBounds i true)=true)
  (h:∀ K':Act→World→Prop,Shut (∀ a w,wpAnyK P md ops Q S E fuel (listed.setIfInBounds i true) a w→K' a w)→if Region.wanted o (yielded ops a.tmps)=true then Oper.wp P o a w K' Q else K' (a.put o.dst undef) w)
  (hs:AllReadyK P md ops Q S E fuel listed a w rs):AllReadyK P md ops Q S E fuel listed a w (i::rs):=fun j hj=>by
 rcases List.mem_cons.1 hj with rfl |hj
 ·exact wpOp_step ho (fun K' hK=>h K' (fun a w hW=>hK a w ⟨fun hc=>(by rw [hE]at hc;cases hc),hW⟩))
 ·exact hs j hj
theorem wpAnyK_ready(hr:Region.ready md ops listed=rs)(hne:rs≠[])
  (h:AllReadyK P md ops Q S E fuel listed a w rs):wpAnyK P md ops Q S E (fuel+1) listed a w:=⟨fun h0=>absurd (hr▸h0) hne,hr▸h⟩
theorem wpAnyK_done(hr:Region.ready md ops listed = [])(h:Q .normal a w) :
  ∀ fuel,wpAnyK P md ops Q S E fuel listed a w
 | 0=>⟨hr,h⟩
 | _+1=>⟨fun _=>h,by rw [hr];simp⟩
theorem wp_region_K{id:Nat}(E:Nat→Bool)(hm:P.follows .mixedOrders=true)(hS:S w.drew)
  (h:S w.drew→wpAnyK P .any ops Q S E ops.size (Array.replicate ops.size false) a w.drew):(Code.region id ops true).wp P Q a w:=
 wp_region_any hm (wpAny_of_K _ _ _ _ (h hS))
end
end Cch
namespace Cch
open Go.RowKit Go.Maps
structure Row where
 page:Int
 bytes:List Nat
 pins:Nat
 dirty:Bool
structure Ent where
 row:Row
 bef:Option Nat
 aft:Option Nat
def ptr:Option Nat→Value
 | none=>.pointer none
 | some b=>.pointer (some ⟨b,0,none⟩)
def tailE(e:Ent):List Value:=[.int .i64 (e.row.pins:Int),.bool e.row.dirty,ptr e.bef,ptr e.aft]
def cellsE(e:Ent):List Value:=.int .i64 e.row.page::(bs e.row.bytes++tailE e)
variable {e:Ent}
theorem cellsE_length(h:e.row.bytes.length=512):(cellsE e).length=517:=by simp [cellsE,tailE,bs_length,h]
theorem cellsE_at(h:e.row.bytes.length=512)(j:Nat):(cellsE e)[513+j]? = (tailE e)[j]?:=by
 have e1:513+j=(512+j)+1:=by omega
 rw [cellsE,e1,List.getElem?_cons_succ,List.getElem?_append_right (by rw [bs_length,h];omega),bs_length,h,Nat.add_sub_cancel_left]
theorem cellsE_byte(h:e.row.bytes.length=512)(t:Nat)(ht:t<512):(cellsE e)[1+t]? = some (.int .u8 ((e.row.bytes.getD t 0:Nat):Int)):=by
 rw [cellsE,Nat.add_comm 1 t,List.getElem?_cons_succ,List.getElem?_append_left (by rw [bs_length,h];exact ht),bs_get _ _ (by omega)]
theorem cellsE_set(h:e.row.bytes.length=512)(j:Nat)(v:Value):(cellsE e).set (513+j) v=.int .i64 e.row.page::(bs e.row.bytes++(tailE e).set j v):=by
 have e1:513+j=(512+j)+1:=by omega
 rw [cellsE,e1,List.set_cons_succ,List.set_append_right _ _ (by rw [bs_length,h];omega),bs_length,h,Nat.add_sub_cancel_left]
structure EntAt (w:World) (b:Nat) (e:Ent):Prop where
 blk:w.heap[b]? = some (.cells (cellsE e).toArray 304 (0,0))
 len:e.row.bytes.length=512
variable {b:Nat} {w:World}
theorem EntAt.lt(h:EntAt w b e):b<w.heap.size:=(Array.getElem?_eq_some_iff.1 h.blk).1
theorem EntAt.stay{w':World}(h:EntAt w b e)(hb:w'.heap[b]? = w.heap[b]?):EntAt w' b e:=⟨hb.trans h.blk,h.len⟩
theorem EntAt.cellAt(h:EntAt w b e)(i:Nat):w.cell? ⟨b,i,none⟩=(cellsE e)[i]?:=by
 simp [World.cell?,h.blk]
theorem EntAt.page(h:EntAt w b e):w.cell? ⟨b,0,none⟩=some (.int .i64 e.row.page):=by rw [h.cellAt];rfl
theorem EntAt.pins(h:EntAt w b e):w.cell? ⟨b,513,none⟩=some (.int .i64 (e.row.pins:Int)):=by rw [h.cellAt];exact cellsE_at h.len 0
theorem EntAt.dirty(h:EntAt w b e):w.cell? ⟨b,514,none⟩=some (.bool e.row.dirty):=by rw [h.cellAt];exact cellsE_at h.len 1
theorem EntAt.bef(h:EntAt w b e):w.cell? ⟨b,515,none⟩=some (ptr e.bef):=by rw [h.cellAt];exact cellsE_at h.len 2
theorem EntAt.aft(h:EntAt w b e):w.cell? ⟨b,516,none⟩=some (ptr e.aft):=by rw [h.cellAt];exact cellsE_at h.len 3
theorem EntAt.frozen(h:EntAt w b e)(i:Nat):w.frozen? ⟨b,i,none⟩=false:=by simp [World.frozen?,h.blk]
theorem EntAt.rd(h:EntAt w b e):Rd w (some ⟨b,1,none⟩) 512 512 e.row.bytes:=
 ⟨h.len,Nat.le_refl _,fun h=>(by cases h),fun _=>⟨b,1,rfl,fun t ht=>by rw [h.cellAt];exact cellsE_byte h.len t ht⟩⟩
theorem blk_set{i:Nat}{v:Value}{cs:List Value}{t:TypeId}(h:w.heap[b]? = some (.cells cs.toArray t (0,0))):(w.setCell ⟨b,i,none⟩ v).heap[b]? = some (.cells (cs.set i v).toArray t (0,0)):=by
 have hgl:b<w.heap.size:=(Array.getElem?_eq_some_iff.1 h).1
 simp [World.setCell,Array.getElem?_modify,h]
def Ent.wBef(e:Ent)(b:Nat):Ent:={ e with bef:=some b }
def Ent.wAft(e:Ent)(b:Nat):Ent:={ e with aft:=some b }
def Ent.wBytes(e:Ent)(x:List Nat):Ent:={ e with row:={ e.row with bytes:=x } }
theorem EntAt.setBef(h:EntAt w b e)(q:Nat):EntAt (w.setCell ⟨b,515,none⟩ (.pointer (some ⟨q,0,none⟩))) b (e.wBef q):=
 ⟨by rw [blk_set h.blk,cellsE_set h.len 2];rfl,h.len⟩
theorem EntAt.setAft(h:EntAt w b e)(q:Nat):EntAt (w.setCell ⟨b,516,none⟩ (.pointer (some ⟨q,0,none⟩))) b (e.wAft q):=
 ⟨by rw [blk_set h.blk,cellsE_set h.len 3];rfl,h.len⟩
theorem EntAt.setOther(h:EntAt w b e){k i:Nat}(hk:b≠k)(v:Value):EntAt (w.setCell ⟨k,i,none⟩ v) b e:=h.stay (set_heap w k i b v hk)
def upd(E:Nat→Ent)(k:Nat)(x:Ent):Nat→Ent:=fun b=>if b=k then x else E b
theorem upd_same(E:Nat→Ent)(k:Nat)(x:Ent):upd E k x k=x:=by simp [upd]
theorem upd_other(E:Nat→Ent){k b:Nat}(x:Ent)(h:b≠k):upd E k x b=E b:=by simp [upd,h]
def Chain(E:Nat→Ent):List Nat→Prop
 | x::y::l=>(E x).aft=some y∧(E y).bef=some x∧Chain E (y::l)
 | _=>True
theorem Chain.split{E:Nat→Ent}:∀ {A:List Nat} {p:Nat} {C:List Nat},Chain E (A++p::C)↔Chain E (A++[p])∧Chain E (p::C)
 | [],p,C=>by simp [Chain]
 | [a],p,C=>by
  show (E a).aft=some p∧(E p).bef=some a∧Chain E (p::C)↔((E a).aft=some p∧(E p).bef=some a∧Chain E [p])∧Chain E (p::C)
  simp [Chain,and_assoc]
 | a::b::A,p,C=>by
  have ih:=Chain.split (E:=E) (A:=b::A) (p:=p) (C:=C)
  simp only [List.cons_append]at ih
  simp only [List.cons_append,Chain,and_assoc]
  rw [ih]
theorem Chain.stay{E E':Nat→Ent}:∀ {l:List Nat},Chain E l→(∀ x∈l.dropLast,(E' x).aft=(E x).aft)→(∀ x∈l.tail,(E' x).bef=(E x).bef)→Chain E' l
 | [],_,_,_=>trivial
 | [_],_,_,_=>trivial
 | x::y::l,h,ha,hb=>by
  obtain ⟨h1,h2,h3⟩:=h
  refine ⟨(ha x (by simp [List.dropLast])).trans h1,(hb y (by simp)).trans h2,Chain.stay h3 (fun z hz=>ha z ?_) (fun z hz=>hb z ?_)⟩
  ·simp only [List.dropLast];exact List.mem_cons_of_mem _ hz
  ·simp only [List.tail_cons]at hz ⊢;exact List.mem_cons_of_mem _ hz
variable {B A:List Nat} {p q:Nat}
theorem Chain.ends{E:Nat→Ent}{e:Nat}(h:Chain E (A++p::e::q::B)):(E e).bef=some p∧(E e).aft=some q∧Chain E (A++[p])∧Chain E (q::B):=by
 obtain ⟨h1,h2⟩:=Chain.split.1 h
 exact ⟨h2.2.1,h2.2.2.1,h1,h2.2.2.2.2⟩
theorem last_form(h:Nat)(xs:List Nat):∃ A p,h::xs=A++[p]∧p∈h::xs:=by
 refine ⟨(h::xs).dropLast,(h::xs).getLast (by simp),(List.dropLast_concat_getLast (by simp)).symm,List.getLast_mem _⟩
theorem first_form(ys:List Nat)(h:Nat):∃ q B,ys++[h]=q::B∧q∈h::ys:=by
 cases ys with
 | nil=>exact ⟨h,[],rfl,by simp⟩
 | cons y ys=>exact ⟨y,ys++[h],rfl,by simp⟩
def cut2(E:Nat→Ent)(p q:Nat):Nat→Ent:=upd (upd E p ((E p).wAft q)) q ((upd E p ((E p).wAft q) q).wBef p)
theorem cut2_row(E:Nat→Ent)(p q b:Nat):(cut2 E p q b).row=(E b).row:=by
 unfold cut2 upd;split<;>(try split)<;>simp_all [Ent.wAft,Ent.wBef]
theorem cut2_aft(E:Nat→Ent){p q b:Nat}(h:b≠p):(cut2 E p q b).aft=(E b).aft:=by
 unfold cut2 upd;split<;>simp_all [Ent.wBef]
theorem cut2_bef(E:Nat→Ent){p q b:Nat}(h:b≠q):(cut2 E p q b).bef=(E b).bef:=by
 unfold cut2 upd;simp only [h,if_false];split<;>simp_all [Ent.wAft]
theorem cut2_paft(E:Nat→Ent)(p q:Nat):(cut2 E p q p).aft=some q:=by
 unfold cut2 upd;split<;>simp_all [Ent.wAft,Ent.wBef]
theorem cut2_qbef(E:Nat→Ent)(p q:Nat):(cut2 E p q q).bef=some p:=by
 unfold cut2 upd;simp [Ent.wBef]
theorem cut2_else(E:Nat→Ent){p q b:Nat}(h1:b≠p)(h2:b≠q):cut2 E p q b=E b:=by simp [cut2,upd,h1,h2]
theorem nodup_last(h:(A++[p]).Nodup):p∉A:=by
 intro hp
 have:=List.nodup_append.1 h
 exact this.2.2 p hp p (by simp) rfl
theorem Chain.join{E:Nat→Ent}(h1:Chain E (A++[p]))(h2:Chain E (q::B))
  (hA:p∉A) (hB:q∉B) (hq:q∉(A++[p]).tail) (hp:p∉(q::B).dropLast):Chain (cut2 E p q) (A++p::q::B):=by
 rw [Chain.split]
 refine ⟨h1.stay (fun x hx=>cut2_aft E ?_) (fun x hx=>cut2_bef E ?_),cut2_paft E p q,cut2_qbef E p q,h2.stay (fun x hx=>cut2_aft E ?_) (fun x hx=>cut2_bef E ?_)⟩
 ·rintro rfl;rw [List.dropLast_concat]at hx;exact hA hx
 ·rintro rfl;exact hq hx
 ·rintro rfl;exact hp hx
 ·rintro rfl;exact hB hx
variable {h:Nat}
theorem Chain.cut{E:Nat→Ent}{e:Nat}{xs ys:List Nat}(hc:Chain E (h::(xs++e::ys)++[h]))(nd:(h::(xs++e::ys)).Nodup) :
  ∃ p q,(E e).bef=some p∧(E e).aft=some q∧p∈h::xs∧q∈h::ys∧Chain (cut2 E p q) (h::(xs++ys)++[h]):=by
 obtain ⟨A,p,e1,hp⟩:=last_form h xs
 obtain ⟨q,B,e2,hq⟩:=first_form ys h
 have e3:h::(xs++e::ys)++[h]=A++p::e::q::B:=by
  have:h::(xs++e::ys)++[h]=(h::xs)++e::(ys++[h]):=by simp
  rw [this,e1,e2];simp
 rw [e3]at hc
 obtain ⟨h1,h2,h3,h4⟩:=hc.ends
 refine ⟨p,q,h1,h2,hp,hq,?_⟩
 have e4:h::(xs++ys)++[h]=A++p::q::B:=by
  have:h::(xs++ys)++[h]=(h::xs)++(ys++[h]):=by simp
  rw [this,e1,e2];simp
 rw [e4]
 have nd1:(h::xs).Nodup:=(List.nodup_cons.1 nd).imp (fun hn=>by simp at hn;simp [hn]) (fun hn=>(List.nodup_append.1 hn).1) |> fun h=>List.nodup_cons.2 h
 have hx:∀ x∈h::xs,x∉ys:=by
  intro x hx hy
  have n2:=List.nodup_cons.1 nd
  rcases List.mem_cons.1 hx with rfl |hx
  ·exact n2.1 (by simp [hy])
  ·exact (List.nodup_append.1 n2.2).2.2 x hx x (by simp [hy]) rfl
 have hn:h∉ys:=hx h (by simp)
 have ndy:ys.Nodup:=(List.nodup_cons.1 (List.nodup_append.1 (List.nodup_cons.1 nd).2).2.1).2
 have ndq:(q::B).Nodup:=by
  rw [←e2]
  exact List.nodup_append.2 ⟨ndy,by simp,fun a ha b hb=>by simp at hb;subst hb;rintro rfl;exact hn ha⟩
 refine h3.join h4 (nodup_last (e1▸nd1)) (List.nodup_cons.1 ndq).1 ?_ ?_
 ·rw [←e1]
  intro hq2
  simp only [List.tail_cons]at hq2
  rcases List.mem_cons.1 hq with rfl |hq
  ·exact (List.nodup_cons.1 nd1).1 hq2
  ·exact hx q (by simp [hq2]) hq
 ·rw [←e2,List.dropLast_concat]
  exact hx p hp
theorem Chain.add{E:Nat→Ent}{e:Nat}{ks:List Nat}(hc:Chain E (h::ks++[h]))(nd:(h::ks).Nodup)(he:e∉h::ks) :
  ∃ z,(E h).bef=some z∧z∈h::ks∧∀ E',(∀ b,b≠e→E' b=E b)→(E' e).bef=some z→(E' e).aft=some h→Chain (fun b=>if b=e then E' e else upd (upd E' z ((E' z).wAft e)) h ((upd E' z ((E' z).wAft e) h).wBef e) b) (h::(ks++[e])++[h]):=by
 obtain ⟨A,z,e1,hz⟩:=last_form h ks
 have e2:h::ks++[h]=A++z::[h]:=by rw [e1];simp
 have hc':=hc
 rw [e2]at hc
 obtain ⟨h1,h2⟩:=Chain.split.1 hc
 refine ⟨z,h2.2.1,hz,fun E' ho hb ha=>?_⟩
 have hne:∀ x∈h::ks,x≠e:=fun x hx hxe=>he (hxe▸hx)
 have hze:=hne z hz
 have hhe:=hne h (by simp)
 have e3:h::(ks++[e])++[h]=A++z::[e,h]:=by
  have:h::(ks++[e])++[h]=(h::ks)++[e,h]:=by simp
  rw [this,e1];simp
 rw [e3,Chain.split]
 have hzA:z∉A:=nodup_last (e1▸nd)
 refine ⟨h1.stay (fun x hx=>?_) (fun x hx=>?_),?_,?_,?_,?_,trivial⟩
 ·rw [List.dropLast_concat]at hx
  have hxm:x∈h::ks:=by rw [e1];exact List.mem_append_left _ hx
  have hxz:x≠z:=by rintro rfl;exact hzA hx
  simp only [hne x hxm,if_false,upd]
  split
  ·rename_i hxh;subst hxh;simp [Ent.wBef,hxz,ho x (hne x hxm)]
  ·simp [ho x (hne x hxm)]
 ·rw [←e1,List.tail_cons]at hx
  have hxm:x∈h::ks:=List.mem_cons_of_mem _ hx
  have hxh:x≠h:=by rintro rfl;exact (List.nodup_cons.1 nd).1 hx
  simp only [hne x hxm,if_false,upd,hxh]
  split
  ·rename_i hxz;subst hxz;simp [Ent.wAft,ho x (hne x hxm)]
  ·simp [ho x (hne x hxm)]
 ·simp only [hze,if_false,upd]
  split
  ·rename_i hzh;simp [Ent.wBef,Ent.wAft,hzh]
  ·simp [Ent.wAft]
 ·simp [hb]
 ·simp [ha]
 ·simp [hhe,upd,Ent.wBef]
end Cch
namespace Cch
open Go.RowKit Go.Maps
def ptrD:Option Nat→DataW Unit
 | none=>.lit (.bool false)
 | some b=>.lit (.int .i64 (b:Int))
theorem ptrD_inj{a b:Option Nat}(h:ptrD a=ptrD b):a=b:=by
 cases a<;>cases b<;>simp [ptrD]at h ⊢
 omega
def ptrR:Value→Option (DataW Unit×List MemPlace)
 | .pointer none=>some (ptrD none,[])
 | .pointer (some ⟨b,0,none⟩)=>some (ptrD (some b),[])
 | _=>none
theorem ptrR_mk(o:Option Nat):ptrR (ptr o)=some (ptrD o,[]):=by cases o<;>rfl
theorem ptrR_inv{v:Value}{o:Option Nat}{ps:List MemPlace}(h:ptrR v=some (ptrD o,ps)):v=ptr o:=by
 unfold ptrR at h
 split at h
 ·simp only [Option.some.injEq,Prod.mk.injEq]at h;rw [←ptrD_inj h.1];rfl
 ·simp only [Option.some.injEq,Prod.mk.injEq]at h;rw [←ptrD_inj h.1];rfl
 ·cases h
theorem Tryz.u49:Tryz.prog.underlying 238=some (.map 3 239):=by kernel_rfl
theorem Tryz.u3:Tryz.prog.underlying 3=some (.int .i64):=by kernel_rfl
theorem Tryz.z50(w:World):(zeroValue 239).run Tryz.prog w=.ok (ptr none) w:=by kernel_rfl
def MapAt(w:World)(m:Nat)(f:Int→Option Nat)(n:Nat):Prop:=
 ∃ D:DataW Unit,w.ownsMap Tryz.prog 3 ptrR m n D∧Maps.size D=n∧∀ k:Int,(Lit.int .i64 k).wf=true→Maps.has D (.int .i64 k)=(f k).isSome∧D.atKey (.int .i64 k) (ptrD none)=ptrD (f k)
variable {m n:Nat} {w:World}
theorem MapAt.lt{f:Int→Option Nat}(h:MapAt w m f n):m<w.heap.size:=by obtain ⟨D,h,_⟩:=h;exact h.lt
theorem MapAt.obj{f:Int→Option Nat}(h:MapAt w m f n):∃ es cl,w.heap[m]? = some (.map es cl):=by obtain ⟨D,⟨es,cl,h,_⟩,_⟩:=h;exact ⟨es,cl,h⟩
theorem MapAt.stay{w':World}{f:Int→Option Nat}(h:MapAt w m f n)(hb:w'.heap[m]? = w.heap[m]?):MapAt w' m f n:=by
 obtain ⟨D,⟨es,clock,hg,hF,hs',hD⟩,hr⟩:=h
 exact ⟨D,⟨es,clock,hb.trans hg,hF,hs',hD⟩,hr⟩
theorem MapAt.imp{n':Nat}{f g:Int→Option Nat}(h:MapAt w m f n)(hn:n=n')(hfg:∀ k,(Lit.int .i64 k).wf=true→f k=g k):MapAt w m g n':=by
 subst hn
 obtain ⟨D,h1,h2,h3⟩:=h
 exact ⟨D,h1,h2,fun k hk=>by rw [←hfg k hk];exact h3 k hk⟩
theorem MapAt.new(w:World):MapAt (w.alloc (.map #[] 0)) w.heap.size (fun _=>none) 0:=
 ⟨_,World.ownsMap_made w _ _ _,rfl,fun _ _=>⟨rfl,rfl⟩⟩
variable {k:Int}
theorem key_int(hk:(Lit.int .i64 k).wf=true):keyOf Tryz.prog 3 (.int .i64 k)=some (.int .i64 k):=keyOf_int_mk Tryz.u3 hk
theorem KD:Keyed Tryz.prog 3:=int_keyed Tryz.u3
theorem lit_ne{j:Int}(h:j≠k):(Lit.int .i64 j)≠(Lit.int .i64 k):=by intro e;cases e;exact h rfl
theorem MapAt.look{f:Int→Option Nat}(h:MapAt w m f n){k:Int}(hk:(Lit.int .i64 k).wf=true) :
  (Instr.lookup 238 (.map (some m)) (.int .i64 k) false).run Tryz.prog w=.ok (ptr (f k)) w:=by
 obtain ⟨D,h1,_,h3⟩:=h
 obtain ⟨v,ps,hrun,hv⟩:=h1.lookup KD Tryz.u49 (Tryz.z50 w) (ptrR_mk none) (key_int hk)
 rw [(h3 k hk).2]at hv
 rw [hrun,ptrR_inv hv]
theorem MapAt.len{f:Int→Option Nat}(h:MapAt w m f n)(ty:TypeId):(Builtin.len_ #[238] ty #[.map (some m)]).run Tryz.prog w=.ok (.int .i64 (n:Int)) w:=by
 obtain ⟨D,h1,h2,_⟩:=h
 rw [h1.len Tryz.u49 ty,h2]
theorem MapAt.put{f:Int→Option Nat}(h:MapAt w m f n){k:Int}(hk:(Lit.int .i64 k).wf=true)(hn:n<1000000)(b:Nat) :
  ∃ w',(Instr.mapUpdate 238 (.map (some m)) (.int .i64 k) (.pointer (some ⟨b,0,none⟩))).run Tryz.prog w=.ok () w'∧MapAt w' m (fun j=>if j=k then some b else f j) (if (f k).isSome then n else n+1)∧w.mapTurned w' m:=by
 obtain ⟨D,h1,h2,h3⟩:=h
 obtain ⟨w',hrun,ho,ht⟩:=h1.store KD Tryz.u49 (by unfold maxLen;omega) (key_int hk) (ptrR_mk (some b))
 refine ⟨w',hrun,⟨D.put (.int .i64 k) (ptrD (some b)),?_,?_,fun j hj=>?_⟩,ht⟩
 ·obtain ⟨es,clock,hb,F,hs,hD⟩:=ho
  refine ⟨es,clock,hb,F,?_,hD⟩
  have e1:=size_put (k:=.int .i64 k) (h1.tidy KD) (ptrD (some b))
  rw [(h3 k hk).1,h2]at e1
  rw [←e1,hD,Maps.size_eq,length_read];exact Nat.le_refl _
 ·have e1:=size_put (k:=.int .i64 k) (h1.tidy KD) (ptrD (some b))
  rw [(h3 k hk).1,h2]at e1
  exact e1
 ·by_cases hjk:j=k
  ·subst hjk
   dsimp only;rw [if_pos rfl]
   exact ⟨has_put_same (k:=.int .i64 j) h1.isMap trivial _,atKey_put_same (k:=.int .i64 j) h1.isMap trivial _ _⟩
  ·dsimp only;rw [if_neg hjk,has_put_other (lit_ne hjk),atKey_put_other (lit_ne hjk)]
   exact h3 j hj
theorem MapAt.del{f:Int→Option Nat}(h:MapAt w m f n){k:Int}(hk:(Lit.int .i64 k).wf=true)(ty:TypeId) :
  ∃ w',(Builtin.delete_ #[238,3] ty #[.map (some m),.int .i64 k]).run Tryz.prog w=.ok (.tuple #[]) w'∧MapAt w' m (fun j=>if j=k then none else f j) (if (f k).isSome then n - 1 else n)∧w.mapTurned w' m:=by
 obtain ⟨D,h1,h2,h3⟩:=h
 obtain ⟨w',hrun,ho,ht⟩:=h1.drop KD Tryz.u49 (key_int hk) ty
 have e1:=size_del (k:=.int .i64 k) (h1.tidy KD)
 rw [(h3 k hk).1,h2]at e1
 have e2:Maps.size (D.del (.int .i64 k))=if (f k).isSome then n - 1 else n:=by split at e1<;>rename_i hs<;>simp only [hs]<;>simp<;>omega
 refine ⟨w',hrun,⟨D.del (.int .i64 k),?_,e2,fun j hj=>?_⟩,ht⟩
 ·obtain ⟨es,clock,hb,F,hs,hD⟩:=ho
  refine ⟨es,clock,hb,F,?_,hD⟩
  rw [←e2,hD,Maps.size_eq,length_read];exact Nat.le_refl _
 ·by_cases hjk:j=k
  ·subst hjk
   dsimp only;rw [if_pos rfl]
   exact ⟨has_del_same,atKey_del_same _⟩
  ·dsimp only;rw [if_neg hjk,has_del_other (lit_ne hjk),atKey_del_other (lit_ne hjk)]
   exact h3 j hj
end Cch
namespace Cch
open Go.RowKit Go.Maps
structure Fr (S:Nat→Prop) (w w':World):Prop where
 os:w'.os=w.os
 tape:w'.tape=w.tape
 output:w'.output=w.output
 size:w.heap.size≤w'.heap.size
 blk:∀ k,k<w.heap.size→¬S k→w'.heap[k]? = w.heap[k]?
theorem Fr.refl(S:Nat→Prop)(w:World):Fr S w w:=⟨rfl,rfl,rfl,Nat.le_refl _,fun _ _ _=>rfl⟩
variable {w w':World} {S:Nat→Prop}
theorem Fr.of_below(h:Below w.heap.size w w'):Fr S w w':=⟨h.os,h.tape,h.output,h.size,fun k hk _=>h.block k hk⟩
variable {w1:World} {T:Nat→Prop}
theorem Fr.trans{w2:World}(h:Fr S w w1)(k:Fr T w1 w2)(hT:∀ j,j<w.heap.size→T j→S j):Fr S w w2:=
 ⟨k.os.trans h.os,k.tape.trans h.tape,k.output.trans h.output,Nat.le_trans h.size k.size,fun j hj hS=>(k.blk j (Nat.lt_of_lt_of_le hj h.size) (fun ht=>hS (hT j hj ht))).trans (h.blk j hj hS)⟩
theorem Fr.imp(h:Fr S w w')(hT:∀ j,j<w.heap.size→S j→T j):Fr T w w':=(Fr.refl T w).trans h hT
theorem Fr.drew(h:Fr S w w'):Fr S w w'.drew:=⟨h.os,h.tape,h.output,h.size,h.blk⟩
theorem Fr.set(h:Fr S w w'){k i:Nat}(hk:S k∨w.heap.size≤k)(v:Value):Fr S w (w'.setCell ⟨k,i,none⟩ v):=
 ⟨h.os,h.tape,h.output,by simpa using h.size,fun j hj hS=>(set_heap w' k i j v (by rintro rfl;rcases hk with h1 |h1;exact hS h1;omega)).trans (h.blk j hj hS)⟩
theorem Fr.turned(h:Fr S w w1){m:Nat}(ht:w1.mapTurned w' m)(hm:S m):Fr S w w':=by
 have g:=ht.grown
 exact ⟨g.os.trans h.os,g.tape.trans h.tape,g.output.trans h.output,Nat.le_trans h.size g.size,fun j hj hS=>(g.block j (Nat.lt_of_lt_of_le hj h.size) (by intro e;cases e;exact hS hm)).trans (h.blk j hj hS)⟩
theorem unlink_any(e p q:Nat)(u v:Value)(w:World)(cb:w.cell? ⟨e,515,none⟩=some (.pointer (some ⟨p,0,none⟩)))(ca:w.cell? ⟨e,516,none⟩=some (.pointer (some ⟨q,0,none⟩)))
  (cp:w.cell? ⟨p,516,none⟩=some u) (cq:w.cell? ⟨q,515,none⟩=some v) (fp:w.frozen? ⟨p,516,none⟩=false) (fq:w.frozen? ⟨q,515,none⟩=false) :
  Calls Tryz.prog 322 #[.pointer (some ⟨e,0,none⟩)] w fun r w'=>r=.returned (.tuple #[])∧w'=((w.setCell ⟨p,516,none⟩ (.pointer (some ⟨q,0,none⟩))).setCell ⟨q,515,none⟩ (.pointer (some ⟨p,0,none⟩))).drew:=by
 go_enter Tryz.func322,Tryz.ntmps322
 go_wp2
 go_region
 go_wp2
 go_end0
 exact ⟨rfl,rfl⟩
theorem link_any(c h z e:Nat)(u x y:Value)(w:World)(cc:w.cell? ⟨c,2,none⟩=some (.pointer (some ⟨h,0,none⟩)))(cb:w.cell? ⟨h,515,none⟩=some (.pointer (some ⟨z,0,none⟩)))
  (ce:w.cell? ⟨e,515,none⟩=some x) (cf:w.cell? ⟨e,516,none⟩=some y) (fe:w.frozen? ⟨e,515,none⟩=false) (ff:w.frozen? ⟨e,516,none⟩=false)
  (cp:w.cell? ⟨z,516,none⟩=some u) (fp:w.frozen? ⟨z,516,none⟩=false) (fq:w.frozen? ⟨h,515,none⟩=false) (hze:¬z=e) (hhe:¬h=e) :
  Calls Tryz.prog 323 #[.pointer (some ⟨c,0,none⟩),.pointer (some ⟨e,0,none⟩)] w fun r w'=>r=.returned (.tuple #[])∧w'=((((w.setCell ⟨e,515,none⟩ (.pointer (some ⟨z,0,none⟩))).setCell ⟨e,516,none⟩ (.pointer (some ⟨h,0,none⟩))).setCell ⟨z,516,none⟩ (.pointer (some ⟨e,0,none⟩))).setCell ⟨h,515,none⟩ (.pointer (some ⟨e,0,none⟩))).drew.drew:=by
 go_enter Tryz.func323,Tryz.ntmps323
 go_wp2
 go_region
 go_wp2
 go_region
 go_wp2
 go_end0
 exact ⟨rfl,rfl⟩
theorem EntAt.drew{b:Nat}{e:Ent}(h:EntAt w b e):EntAt w.drew b e:=⟨h.blk,h.len⟩
structure RingAt (w:World) (h:Nat) (ks:List Nat) (E:Nat→Ent):Prop where
 en:∀ b∈h::ks,EntAt w b (E b)
 ch:Chain E (h::ks++[h])
 nd:(h::ks).Nodup
theorem RingAt.stay{h:Nat}{ks:List Nat}{E:Nat→Ent}(H:RingAt w h ks E)(hb:∀ b∈h::ks,w'.heap[b]? = w.heap[b]?):RingAt w' h ks E:=
 ⟨fun b hb'=>(H.en b hb').stay (hb b hb'),H.ch,H.nd⟩
theorem ent_cut2{p q:Nat}{E:Nat→Ent}(hp:EntAt w p (E p))(hq:EntAt w q (E q)){b:Nat}(hb:EntAt w b (E b)) :
  EntAt (((w.setCell ⟨p,516,none⟩ (.pointer (some ⟨q,0,none⟩))).setCell ⟨q,515,none⟩ (.pointer (some ⟨p,0,none⟩))).drew) b (cut2 E p q b):=by
 refine EntAt.drew ?_
 have h1:∀ b,EntAt w b (E b)→EntAt (w.setCell ⟨p,516,none⟩ (.pointer (some ⟨q,0,none⟩))) b (upd E p ((E p).wAft q) b):=fun b hb=>by
  by_cases hbp:b=p
  ·subst hbp;rw [upd_same];exact hp.setAft q
  ·rw [upd_other _ _ hbp];exact hb.setOther hbp _
 unfold cut2
 by_cases hbq:b=q
 ·subst hbq;rw [upd_same];exact (h1 b hq).setBef p
 ·rw [upd_other _ _ hbq];exact (h1 b hb).setOther hbq _
theorem unlink_ring(h e:Nat)(xs ys:List Nat)(E:Nat→Ent)(w:World)(H:RingAt w h (xs++e::ys) E) :
  Calls Tryz.prog 322 #[.pointer (some ⟨e,0,none⟩)] w fun r w'=>r=.returned (.tuple #[])∧∃ E',RingAt w' h (xs++ys) E'∧EntAt w' e (E e)∧(∀ b,(E' b).row=(E b).row)∧(∀ b,b∈ys→(E' b).aft=(E b).aft)∧Fr (·∈h::(xs++ys)) w w':=by
 obtain ⟨p,q,hb,ha,hp,hq,hc⟩:=H.ch.cut H.nd
 have n2:=List.nodup_cons.1 H.nd
 have n3:=List.nodup_append.1 n2.2
 have n4:=List.nodup_cons.1 n3.2.1
 have hpm:p∈h::(xs++e::ys):=by rcases List.mem_cons.1 hp with rfl |hp;simp;simp [hp]
 have hqm:q∈h::(xs++e::ys):=by rcases List.mem_cons.1 hq with rfl |hq;simp;simp [hq]
 have hpe:p≠e:=by
  rcases List.mem_cons.1 hp with rfl |hp
  ·rintro rfl;exact n2.1 (by simp)
  ·exact n3.2.2 p hp e (by simp)
 have hqe:q≠e:=by
  rcases List.mem_cons.1 hq with rfl |hq
  ·rintro rfl;exact n2.1 (by simp)
  ·rintro rfl;exact n4.1 hq
 have ep:=H.en p hpm;have eq:=H.en q hqm;have ee:=H.en e (by simp)
 have cb:=ee.bef;have ca:=ee.aft
 rw [hb]at cb;rw [ha]at ca
 refine (unlink_any e p q _ _ w cb ca ep.aft eq.bef (ep.frozen _) (eq.frozen _)).mono ?_
 rintro r w' ⟨rfl,rfl⟩
 refine ⟨rfl,cut2 E p q,⟨fun b hb=>ent_cut2 ep eq (H.en b ?_),hc,?_⟩,?_,cut2_row E p q,fun b hby=>cut2_aft E ?_,(((Fr.refl _ w).set (Or.inl ?_) _).set (Or.inl ?_) _).drew⟩
 ·simp only [List.mem_cons,List.mem_append]at hb ⊢
  rcases hb with h |h |h<;>simp [h]
 ·refine List.nodup_cons.2 ⟨fun hm=>n2.1 ?_,List.nodup_append.2 ⟨n3.1,n4.2,fun a ha b hb=>n3.2.2 a ha b (by simp [hb])⟩⟩
  simp only [List.mem_cons,List.mem_append]at hm ⊢
  rcases hm with h |h<;>simp [h]
 ·have:=ent_cut2 ep eq ee
  rwa [cut2_else E hpe.symm hqe.symm]at this
 ·rintro rfl
  rcases List.mem_cons.1 hp with rfl |hp
  ·exact n2.1 (by simp [hby])
  ·exact n3.2.2 b hp b (by simp [hby]) rfl
 ·rcases List.mem_cons.1 hp with rfl |hp;simp;simp [hp]
 ·rcases List.mem_cons.1 hq with rfl |hq;simp;simp [hq]
theorem link_ring(c h e:Nat)(ks:List Nat)(E:Nat→Ent)(w:World)(H:RingAt w h ks E)(he:e∉h::ks)(x:Ent)(hx:EntAt w e x)(cc:w.cell? ⟨c,2,none⟩=some (.pointer (some ⟨h,0,none⟩))) :
  Calls Tryz.prog 323 #[.pointer (some ⟨c,0,none⟩),.pointer (some ⟨e,0,none⟩)] w fun r w'=>r=.returned (.tuple #[])∧∃ E',RingAt w' h (ks++[e]) E'∧(E' e).row=x.row∧(∀ b,b≠e→(E' b).row=(E b).row)∧Fr (·∈h::(ks++[e])) w w':=by
 obtain ⟨z,hb,hz,hch⟩:=H.ch.add H.nd he
 have ez:=H.en z hz;have eh:=H.en h (by simp)
 have cb:=eh.bef
 rw [hb]at cb
 have hze:¬z=e:=fun h1=>he (h1▸hz)
 have hhe:¬h=e:=fun h1=>he (by simp [h1])
 refine (link_any c h z e _ _ _ w cc cb hx.bef hx.aft (hx.frozen _) (hx.frozen _) ez.aft (ez.frozen _) (eh.frozen _) hze hhe).mono ?_
 rintro r w' ⟨rfl,rfl⟩
 obtain ⟨E1,hE1⟩:∃ E1,E1=upd E e ((x.wBef z).wAft h):=⟨_,rfl⟩
 have hE1e:E1 e=(x.wBef z).wAft h:=by rw [hE1,upd_same]
 have hE1o:∀ b,b≠e→E1 b=E b:=fun b hb=>by rw [hE1,upd_other _ _ hb]
 have hc:=hch E1 hE1o (by rw [hE1e];rfl) (by rw [hE1e];rfl)
 have hfun:(fun b=>if b=e then E1 e else upd (upd E1 z ((E1 z).wAft e)) h ((upd E1 z ((E1 z).wAft e) h).wBef e) b)=upd (upd E1 z ((E1 z).wAft e)) h ((upd E1 z ((E1 z).wAft e) h).wBef e):=by
  funext b
  by_cases hbe:b=e
  ·subst hbe;rw [if_pos rfl,upd_other _ _ (Ne.symm hhe),upd_other _ _ (Ne.symm hze)]
  ·rw [if_neg hbe]
 rw [hfun]at hc
 have s1:∀ b,EntAt w b (E b)→b≠e→EntAt ((w.setCell ⟨e,515,none⟩ (.pointer (some ⟨z,0,none⟩))).setCell ⟨e,516,none⟩ (.pointer (some ⟨h,0,none⟩))) b (E1 b):=fun b hb hbe=>by
  rw [hE1o b hbe];exact (hb.setOther hbe _).setOther hbe _
 have s1e:EntAt ((w.setCell ⟨e,515,none⟩ (.pointer (some ⟨z,0,none⟩))).setCell ⟨e,516,none⟩ (.pointer (some ⟨h,0,none⟩))) e (E1 e):=by
  rw [hE1e];exact (hx.setBef z).setAft h
 have s2:∀ b,EntAt ((w.setCell ⟨e,515,none⟩ (.pointer (some ⟨z,0,none⟩))).setCell ⟨e,516,none⟩ (.pointer (some ⟨h,0,none⟩))) b (E1 b)→EntAt (((w.setCell ⟨e,515,none⟩ (.pointer (some ⟨z,0,none⟩))).setCell ⟨e,516,none⟩ (.pointer (some ⟨h,0,none⟩))).setCell ⟨z,516,none⟩ (.pointer (some ⟨e,0,none⟩))) b (upd E1 z ((E1 z).wAft e) b):=fun b hb=>by
  by_cases hbz:b=z
  ·subst hbz;rw [upd_same];exact hb.setAft e
  ·rw [upd_other _ _ hbz];exact hb.setOther hbz _
 have s3:∀ b,EntAt (((w.setCell ⟨e,515,none⟩ (.pointer (some ⟨z,0,none⟩))).setCell ⟨e,516,none⟩ (.pointer (some ⟨h,0,none⟩))).setCell ⟨z,516,none⟩ (.pointer (some ⟨e,0,none⟩))) b (upd E1 z ((E1 z).wAft e) b)→EntAt ((((w.setCell ⟨e,515,none⟩ (.pointer (some ⟨z,0,none⟩))).setCell ⟨e,516,none⟩ (.pointer (some ⟨h,0,none⟩))).setCell ⟨z,516,none⟩ (.pointer (some ⟨e,0,none⟩))).setCell ⟨h,515,none⟩ (.pointer (some ⟨e,0,none⟩))) b (upd (upd E1 z ((E1 z).wAft e)) h ((upd E1 z ((E1 z).wAft e) h).wBef e) b):=fun b hb=>by
  by_cases hbh:b=h
  ·subst hbh;rw [upd_same];exact hb.setBef e
  ·rw [upd_other _ _ hbh];exact hb.setOther hbh _
 refine ⟨rfl,_,⟨fun b hb=>?_,hc,?_⟩,?_,fun b hbe=>?_,(((((Fr.refl _ w).set (Or.inl (by simp)) _).set (Or.inl (by simp)) _).set (Or.inl ?_) _).set (Or.inl (by simp)) _).drew.drew⟩
 ·refine EntAt.drew (EntAt.drew ?_)
  by_cases hbe:b=e
  ·subst hbe;exact s3 b (s2 b s1e)
  ·refine s3 b (s2 b (s1 b (H.en b ?_) hbe))
   simp only [List.mem_cons,List.mem_append,List.not_mem_nil,or_false]at hb ⊢
   rcases hb with h |h |h
   ·exact Or.inl h
   ·exact Or.inr h
   ·exact absurd h hbe
 ·rw [show h::(ks++[e])=(h::ks)++[e] by simp]
  exact List.nodup_append.2 ⟨H.nd,by simp,fun a ha b hb=>by simp at hb;subst hb;rintro rfl;exact he ha⟩
 ·rw [upd_other _ _ (Ne.symm hhe),upd_other _ _ (Ne.symm hze),hE1e];rfl
 ·unfold upd
  split
  ·rename_i h1;subst h1;split<;>simp_all [Ent.wBef,Ent.wAft]
  ·split
   ·rename_i h1;subst h1;simp_all [Ent.wAft]
   ·rw [hE1o b hbe]
 ·simp only [List.mem_cons,List.mem_append]at hz ⊢
  rcases hz with h |h<;>simp [h]
theorem use_ring(c h e:Nat)(xs ys:List Nat)(E:Nat→Ent)(w:World)(H:RingAt w h (xs++e::ys) E)(cc:w.heap[c]?.isSome)(hc:c∉h::(xs++e::ys))(ch:w.cell? ⟨c,2,none⟩=some (.pointer (some ⟨h,0,none⟩))) :
  Calls Tryz.prog 287 #[.pointer (some ⟨c,0,none⟩),.pointer (some ⟨e,0,none⟩)] w fun r w'=>r=.returned (.tuple #[])∧∃ E',RingAt w' h (xs++ys++[e]) E'∧(∀ b,(E' b).row=(E b).row)∧Fr (·∈h::(xs++e::ys)) w w':=by
 have hcl:c<w.heap.size:=by
  rcases Nat.lt_or_ge c w.heap.size with h1 |h1
  ·exact h1
  ·rw [Array.getElem?_eq_none h1]at cc;cases cc
 have k1:=hid (unlink_ring h e xs ys E w H)
 have n2:=List.nodup_cons.1 H.nd
 have n3:=List.nodup_append.1 n2.2
 have n4:=List.nodup_cons.1 n3.2.1
 have hnot:e∉h::(xs++ys):=by
  intro hm
  simp only [List.mem_cons,List.mem_append]at hm
  rcases hm with h1 |h1 |h1
  ·exact n2.1 (by simp [←h1])
  ·exact n3.2.2 e h1 e (by simp) rfl
  ·exact n4.1 h1
 have hnot2:=hid hnot
 have k2:Hid (∀ (E1:Nat→Ent) (w1:World),RingAt w1 h (xs++ys) E1→EntAt w1 e (E e)→(∀ b,(E1 b).row=(E b).row)→Fr (·∈h::(xs++ys)) w w1→Calls Tryz.prog 323 #[.pointer (some ⟨c,0,none⟩),.pointer (some ⟨e,0,none⟩)] w1 fun r w'=>r=.returned (.tuple #[])∧∃ E',RingAt w' h (xs++ys++[e]) E'∧(∀ b,(E' b).row=(E b).row)∧Fr (·∈h::(xs++e::ys)) w w'):=by
  refine hid fun E1 w1 h1 h2 h3 h4=>?_
  have hcs:c∉h::(xs++ys):=fun hm=>hc (by
   simp only [List.mem_cons,List.mem_append]at hm ⊢
   rcases hm with h |h |h<;>simp [h])
  have ch1:w1.cell? ⟨c,2,none⟩=some (.pointer (some ⟨h,0,none⟩)):=(World.cell?_of_block (h4.blk c hcl hcs)).trans ch
  refine (link_ring c h e (xs++ys) E1 w1 h1 hnot (E e) h2 ch1).mono ?_
  rintro r w' ⟨rfl,E',g1,g2,g3,g4⟩
  refine ⟨rfl,E',g1,fun b=>?_,(h4.imp ?_).trans g4 ?_⟩
  ·by_cases hbe:b=e
   ·subst hbe;exact g2
   ·exact (g3 b hbe).trans (h3 b)
  ·intro j _ hj
   simp only [List.mem_cons,List.mem_append]at hj ⊢
   rcases hj with h |h |h<;>simp [h]
  ·intro j _ hj
   simp only [List.mem_cons,List.mem_append,List.not_mem_nil,or_false]at hj ⊢
   rcases hj with h |(h |h) |h<;>simp [h]
 clear H hnot n2 n3 n4 cc ch
 go_enter Tryz.func287,Tryz.ntmps287
 go_wp2_with (first |(go_at_call 322;refine k1.out.mono ?_;rintro r w1 ⟨rfl,E1,h1,h2,h3,-,h4⟩;replace k2:=hid (k2.out E1 w1 h1 h2 h3 h4);clear h1 h2 h3 h4) |(go_at_call 323;refine k2.out.mono ?_;rintro r w2 ⟨rfl,h5⟩;replace h5:=hid h5))
 go_end0
 exact ⟨rfl,h5.out⟩
end Cch
end Go.Proofs.YtfcikkechphmaaaGreatDoor
