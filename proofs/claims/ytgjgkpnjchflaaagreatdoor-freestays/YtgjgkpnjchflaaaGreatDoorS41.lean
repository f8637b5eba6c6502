/- The document's heap in memory; rows whose elements have two cells; no statement of the seat is proved here. -/
import Derived.Test.YtgjgkpnjchflaaaGreatDoorS40
import Derived.Test.YtgjgkpnjchflaaaGreatDoorS35
import Derived.WalkMore
import Derived.Test.YtgjgkpnjchflaaaGreatDoorS17
import Derived.Deep.DeepCutAuto
import Derived.Deep.LoopGhost
set_option maxHeartbeats 16000000
set_option maxRecDepth 20000
namespace Go.Proofs.YtgjgkpnjchflaaaGreatDoor
section
open Go.RowKit Go.Maps
open Dsk (gt hid undrew keep_old keep_cell lt_cell Rd)
open Cch (Fr)
structure El2 (t e:TypeId) (z:Value) (b:Nat):Prop where
 ht:Tryz.prog.underlying t=some (.slice e)
 hi:∃ i,Tryz.prog.info? e=some i∧i.zero=some z∧i.size=2∧i.bytes=b
 hz:z.cells.size=2
 hb:b≤64
structure Src2 (w:World) (ao:Option Addr) (m c:Nat) (ys:List Value):Prop where
 len:ys.length=m*2
 no:ao=none→m=0∧c=0
 at_:∀ ad,ao=some ad→∀ j u,ys[j]? = some u→w.cell? (ad.add j)=some u
 one:∀ u∈ys,u.oneCell'=true
variable {v:Value} {e:TypeId} {n:Nat} {w:World}
theorem row_form2{B:Nat}{xs:List Value}(h:w.ownsRow B e 2 v n xs):∃ ao cap,v=.slice ao n cap∧(ao=none→n=0∧cap=0)∧∀ a,ao=some a→a=⟨a.block,0,none⟩∧n≤cap∧a.block<w.heap.size:=by
 rcases h.2 with ⟨rfl,rfl⟩ | ⟨g,cap,cur,rfl,_,hg,hnc,_⟩
 ·exact ⟨none,0,rfl,fun _=>⟨rfl,rfl⟩,fun a ha=>by cases ha⟩
 ·exact ⟨_,_,rfl,fun h=>(by cases h),fun a ha=>by cases ha;exact ⟨rfl,hnc,(Array.getElem?_eq_some_iff.1 hg).1⟩⟩
variable {b:Nat} {t:TypeId}
theorem app2_run{z:Value}(E:El2 t e z b)(ty:TypeId)(w:World)(v:Value)(n:Nat)(xs:List Value)(hown:w.ownsRow 0 e 2 v n xs)(ao:Option Addr)(m c:Nat)(ys:List Value)(hs:Src2 w ao m c ys)(hb:n+m≤1000000) :
  ∃ ao' c' w',(Builtin.append_ #[t,t] ty #[v,.slice ao m c]).run Tryz.prog w=.ok (.slice ao' (n+m) c') w'∧w'.ownsRow 0 e 2 (.slice ao' (n+m) c') (n+m) (xs++ys)∧w.grownBy w' v.ownBlock∧∀ a,ao'=some a→(v.ownBlock=some a.block∨a.block=w.heap.size):=by
 obtain ⟨i,hi,hz,hsz,hby⟩:=E.hi
 have hbb:=E.hb
 have key:∃ v' w',(Builtin.append_ #[t,t] ty #[v,.slice ao m c]).run Tryz.prog w=.ok v' w'∧w'.ownsRow 0 e 2 v' (n+m) (xs++ys)∧w.grownBy w' v.ownBlock∧(v'.ownBlock=v.ownBlock∨v'.ownBlock=some w.heap.size):=by
  cases ao with
  | none=>
   obtain ⟨rfl,rfl⟩:=hs.no rfl
   obtain rfl:ys = []:=List.eq_nil_of_length_eq_zero (by rw [hs.len])
   exact ⟨v,w,run_append_owned_none (P:=Tryz.prog) (w:=w) 0 t ty e i 2 E.ht hi v n xs hown,by simpa using hown,⟨rfl,rfl,rfl,Nat.le_refl _,fun _ _ _=>rfl⟩,Or.inl rfl⟩
  | some ad=>
   have hm:(n+m)*b≤1000000*64:=Nat.mul_le_mul hb hbb
   obtain ⟨v',w',h1,h2,h3,_,h5⟩:=run_append_own_at (P:=Tryz.prog) w 0 t ty e i z 2 b E.ht hi hz hsz hby E.hz (by decide) v n xs hown ad m c ys hs.len (hs.at_ ad rfl) hs.one (by unfold maxLen;omega) (by omega) (Nat.zero_le _)
   exact ⟨v',w',h1,h2,h3,h5⟩
 obtain ⟨v',w',h1,h2,h3,h4⟩:=key
 obtain ⟨ao',c',rfl,_⟩:=row_form2 h2
 refine ⟨ao',c',w',h1,h2,h3,fun a ha=>?_⟩
 subst ha
 rcases h4 with h4 |h4
 ·exact Or.inl h4.symm
 ·right;simpa [Value.ownBlock] using h4
theorem wpList_app2{ops:Array Oper}{rest:List Oper}{o:Oper}{a:Act}{Q:Exit→Act→World→Prop}(hgd:o.guard=none)(s x:Operand){t e:TypeId}{z:Value}{b:Nat}(E:El2 t e z b)
  (ho:o.op=.call { callee:=.builtin .append,args:=#[s,x],argTypes:=#[t,t] }) (v:Value) (n:Nat) (xs:List Value) (hs:a.eval s=v) (hown:w.ownsRow 0 e 2 v n xs)
  (ao:Option Addr) (m c:Nat) (ys:List Value) (hx:a.eval x=.slice ao m c) (hsr:Src2 w ao m c ys) (hb:n+m≤1000000)
  (h:∀ ao' c' w',w'.ownsRow 0 e 2 (.slice ao' (n+m) c') (n+m) (xs++ys)→w.grownBy w' v.ownBlock→(∀ a,ao'=some a→(v.ownBlock=some a.block∨a.block=w.heap.size))→wpList Tryz.prog ops Q rest (a.put o.dst (.slice ao' (n+m) c')) w'):wpList Tryz.prog ops Q (o::rest) a w:=by
 refine wpList_plain hgd fun K hK=>?_
 obtain ⟨ao',c',w',hr,h2,h3,h4⟩:=app2_run E o.type w v n xs hown ao m c ys hsr hb
 unfold Oper.wp execOp
 simp only [ho,resolve,invoke,builtin,Sem.run_bind,Sem.run_pure,Result.andThen_ok,List.map_toArray,List.map_cons,List.map_nil,hs,hx,hr]
 exact hK _ _ (h ao' c' w' h2 h3 h4)
theorem lit_row2(W:World)(B:Nat)(a b:Value)(e:TypeId)(hB:B≤W.heap.size):(W.alloc (.cells #[a,b] e)).ownsRow B e 2 (.slice (some ⟨W.heap.size,0,none⟩) 1 1) 1 [a,b]:=
 ⟨by simp,.inr ⟨W.heap.size,1,#[a,b],rfl,hB,heap_alloc_new _ _,Nat.le_refl _,by unfold maxLen;omega,by simp,by simp⟩⟩
theorem info88:(Tryz.prog.info? 88).map (fun i=>(i.zero,i.size,i.bytes))=some (some (.agg #[.int .i64 0,.slice none 0 0]),2,32):=by kernel_rfl
theorem u29:Tryz.prog.underlying 29=some (.slice 88):=by kernel_rfl
theorem el29:El2 29 88 (.agg #[.int .i64 0,.slice none 0 0]) 32:=⟨u29,by obtain ⟨i,h0,h1,h2,h3⟩:=info_parts info88;exact ⟨i,h0,h1,h2,h3⟩,by decide,by decide⟩
def Lf(W:World)(S:Nat→Prop)(v:Value)(ls:List Nat):Prop:=(v=.slice none 0 0∧ls = [])∨∃ (b c:Nat) (cur:Array Value),v=.slice (some ⟨b,0,none⟩) ls.length c∧S b∧W.heap[b]? = some (.cells cur 3 (0,0))∧ls.length≤c∧∀ (i x:Nat),ls[i]? = some x→cur[i]? = some (.int .i64 ((x:Nat):Int))
variable {ls:List Nat} {W:World} {S:Nat→Prop}
theorem Lf.fr{E S':Nat→Prop}{W':World}(h:Lf W S v ls)(hf:Fr E W W')(hE:∀ b,S b→(∃ cur,W.heap[b]? = some (.cells cur 3 (0,0)))→¬E b)(hS:∀ b,S b→S' b):Lf W' S' v ls:=by
 rcases h with h | ⟨b,c,cur,h1,h2,h3,h4,h5⟩
 ·exact Or.inl h
 ·exact Or.inr ⟨b,c,cur,h1,hS b h2,(hf.blk b (Array.getElem?_eq_some_iff.1 h3).1 (hE b h2 ⟨cur,h3⟩)).trans h3,h4,h5⟩
theorem Lf.form(h:Lf W S v ls):∃ ao c,v=.slice ao ls.length c∧ls.length≤c∧Cch.Src W ao ls.length c (zI ls):=by
 rcases h with ⟨rfl,rfl⟩ | ⟨b,c,cur,h1,h2,h3,h4,h5⟩
 ·exact ⟨none,0,rfl,Nat.le_refl _,rfl,fun _=>⟨rfl,rfl⟩,fun ad h=>(by cases h),fun u hu=>by cases hu⟩
 ·refine ⟨_,c,h1,h4,by simp [zI],fun h=>(by cases h),fun ad had j u hu=>?_,fun u hu=>by unfold zI at hu;obtain ⟨x,_,rfl⟩:=List.mem_map.1 hu;rfl⟩
  obtain rfl:=Option.some.inj had
  unfold zI at hu
  rw [List.getElem?_map]at hu
  obtain ⟨x,hx,rfl⟩:=Option.map_eq_some_iff.1 hu
  rw [Addr.add_lit]
  simp only [World.cell?,h3,Nat.zero_add]
  exact h5 j x hx
theorem Lf.of_own{ao:Option Addr}{c:Nat}(h:W.ownsRow 0 3 1 (.slice ao n c) n (zI ls))(hn:n=ls.length)(hS:∀ k,(Value.slice ao n c).ownBlock=some k→S k):Lf W S (.slice ao n c) ls:=by
 subst hn
 rcases h.2 with ⟨hv,hz⟩ | ⟨g,cap,cur,hv,_,hg,hnc,_,hcs,htk⟩
 ·exact Or.inl ⟨hv,List.eq_nil_of_length_eq_zero hz⟩
 ·simp only [Value.slice.injEq,true_and]at hv
  obtain ⟨rfl,rfl⟩:=hv
  refine Or.inr ⟨g,c,cur,rfl,hS g rfl,hg,hnc,fun i x hx=>?_⟩
  have hi:i<ls.length:=(List.getElem?_eq_some_iff.1 hx).1
  have h1:(cur.toList.take (ls.length*1))[i]? = (zI ls)[i]?:=by rw [htk]
  rw [List.getElem?_take_of_lt (by omega),Array.getElem?_toList]at h1
  rw [h1];unfold zI;rw [List.getElem?_map,hx];rfl
def Tk(W:World)(S:Nat→Prop)(g o:Nat)(tr:List (Nat×List Nat)):Prop:=∃ cur:Array Value,W.heap[g]? = some (.cells cur 88 (0,0))∧S g∧∀ (i:Nat) (x:Nat×List Nat),tr[i]? = some x→cur[o+i*2]? = some (.int .i64 ((x.1:Nat):Int))∧∃ v,cur[o+i*2+1]? = some v∧Lf W S v x.2
def hC(v:Value)(N:Nat)(wd:List Int):List Value:=v::.int .i64 (N:Int)::wd.map (Value.int .i64)
structure RefH (W:World) (S:Nat→Prop) (hm:Nat) (tr:List (Nat×List Nat)) (N:Nat) (wd:List Int):Prop where
 is:∃ v,W.heap[hm]? = some (.cells (hC v N wd).toArray 32 (0,0))∧((v=.slice none 0 0∧tr = [])∨∃ g o c,v=.slice (some ⟨g,o,none⟩) tr.length c∧tr.length≤c∧Tk W S g o tr)
 mem:S hm
 lt:∀ b,S b→b<W.heap.size
 wl:wd.length=60
section
variable {W W':World} {S S' E:Nat→Prop} {hm N:Nat} {tr:List (Nat×List Nat)} {wd:List Int}
theorem Tk.fr{g o:Nat}(h:Tk W S g o tr)(hf:Fr E W W')(hE:∀ b,S b→(∃ cur t,W.heap[b]? = some (.cells cur t (0,0))∧t≠32)→¬E b)(hS:∀ b,S b→S' b):Tk W' S' g o tr:=by
 obtain ⟨cur,h1,h2,h3⟩:=h
 refine ⟨cur,(hf.blk g (Array.getElem?_eq_some_iff.1 h1).1 (hE g h2 ⟨cur,88,h1,by decide⟩)).trans h1,hS g h2,fun i x hx=>?_⟩
 obtain ⟨h4,v,h5,h6⟩:=h3 i x hx
 exact ⟨h4,v,h5,h6.fr hf (fun b hb ⟨cur,hc⟩=>hE b hb ⟨cur,3,hc,by decide⟩) hS⟩
theorem RefH.fr(h:RefH W S hm tr N wd)(hf:Fr E W W')(hE:∀ b,S b→¬E b):RefH W' S hm tr N wd:=by
 obtain ⟨v,h1,h2⟩:=h.is
 refine ⟨⟨v,(hf.blk hm (h.lt hm h.mem) (hE hm h.mem)).trans h1,?_⟩,h.mem,fun b hb=>Nat.lt_of_lt_of_le (h.lt b hb) hf.size,h.wl⟩
 rcases h2 with h2 | ⟨g,o,c,h2,h3,h4⟩
 ·exact Or.inl h2
 ·exact Or.inr ⟨g,o,c,h2,h3,h4.fr hf (fun b hb _=>hE b hb) (fun _ h=>h)⟩
theorem RefH.more(h:RefH W S hm tr N wd)(hS:∀ b,S b→S' b)(hl:∀ b,S' b→b<W.heap.size):RefH W S' hm tr N wd:=by
 obtain ⟨v,h1,h2⟩:=h.is
 refine ⟨⟨v,h1,?_⟩,hS hm h.mem,hl,h.wl⟩
 rcases h2 with h2 | ⟨g,o,c,h2,h3,h4⟩
 ·exact Or.inl h2
 ·exact Or.inr ⟨g,o,c,h2,h3,h4.fr (Fr.refl (fun _=>False) _) (fun _ _ _ h=>h) hS⟩
end
variable {cs:Array Value} {i:Nat}
theorem cell_of(h:W.heap[b]? = some (.cells cs t (0,0))):W.cell? ⟨b,i,none⟩=cs[i]?:=by simp [World.cell?,h]
theorem froz_of(h:W.heap[b]? = some (.cells cs t (0,0))):W.frozen? ⟨b,i,none⟩=false:=by simp [World.frozen?,h]
theorem blk_set2(h:W.heap[b]? = some (.cells cs t (0,0))):(W.setCell ⟨b,i,none⟩ v).heap[b]? = some (.cells (cs.setIfInBounds i v) t (0,0)):=by
 simp only [World.setCell]
 rw [Array.getElem?_modify,if_pos rfl,h]
 rfl
end
section
open Go.RowKit Go.Maps
open Dsk (gt hid undrew keep_old keep_cell lt_cell Rd)
open Cch (Fr)
section
variable {W W':World} {S S' E:Nat→Prop} {hm N:Nat} {tr:List (Nat×List Nat)} {wd:List Int}
theorem cut_hi8(g n c i:Nat)(h1:i≤c)(W:World):(Instr.slice 33 (.slice (some ⟨g,0,none⟩) n c) none (some (.int .i64 (i:Int))) none).run Tryz.prog W=.ok (.slice (some ⟨g,0,none⟩) i c) W:=by
 rw [run_slice_h (P:=Tryz.prog) (t:=33) (a:=_) (len:=n) (cap:=c) (ht:=by kernel_rfl) (kh:=.i64) (h:=(i:Int)) (h0:=by omega) (h2:=by omega)]
 have e:(sizeOf (Tryz.prog.elem 33)).run Tryz.prog W=.ok 1 W:=by kernel_rfl
 rw [e]
 simp [sliced,Result.andThen,Addr.add]
def DTo(S:Nat→Prop)(hm:Nat)(tr:List (Nat×List Nat))(N:Nat)(wd:List Int)(v:Value)(W:World)(e:Ending)(W':World):Prop:=e=.returned v∧∃ S',RefH W' S' hm tr N wd∧Fr S W W'∧∀ b,S' b→S b∨W.heap.size≤b
theorem RefH.cells(h:RefH W S hm tr N wd):∃ ao c,W.cell? ⟨hm,0,none⟩=some (.slice ao tr.length c)∧W.cell? ⟨hm,1,none⟩=some (.int .i64 (N:Int)):=by
 obtain ⟨v,h1,h2⟩:=h.is
 have c0:W.cell? ⟨hm,0,none⟩=some v:=by rw [cell_of h1];rfl
 have c1:W.cell? ⟨hm,1,none⟩=some (.int .i64 (N:Int)):=by rw [cell_of h1];rfl
 rcases h2 with ⟨rfl,rfl⟩ | ⟨g,o,c,rfl,_,_⟩
 ·exact ⟨_,_,c0,c1⟩
 ·exact ⟨_,_,c0,c1⟩
theorem RefH.froz(h:RefH W S hm tr N wd)(i:Nat):W.frozen? ⟨hm,i,none⟩=false:=by
 obtain ⟨v,h1,h2⟩:=h.is
 exact froz_of h1
theorem RefH.pages(h:RefH W S hm tr N wd)(M:Nat):RefH (W.setCell ⟨hm,1,none⟩ (.int .i64 (M:Int))) S hm tr M wd∧Fr S W (W.setCell ⟨hm,1,none⟩ (.int .i64 (M:Int))):=by
 have hf:=fr_setb W hm 1 (.int .i64 (M:Int))
 obtain ⟨v,h1,h2⟩:=h.is
 refine ⟨⟨⟨v,by rw [Cch.blk_set h1];rfl,?_⟩,h.mem,fun b hb=>by simpa using h.lt b hb,h.wl⟩,fr_imp hf (fun b hb=>hb▸h.mem)⟩
 rcases h2 with h2 | ⟨g,o,c,h2,h3,h4⟩
 ·exact Or.inl h2
 ·exact Or.inr ⟨g,o,c,h2,h3,h4.fr hf (fun b _ ⟨cur,t,h5,h6⟩ e=>by subst e;rw [h1]at h5;simp at h5;exact h6 h5.2.symm) (fun _ h=>h)⟩
theorem RefH.list(h:RefH W S hm tr N wd){tr':List (Nat×List Nat)}{v:Value}(hv:(v=.slice none 0 0∧tr' = [])∨∃ g o c,v=.slice (some ⟨g,o,none⟩) tr'.length c∧tr'.length≤c∧Tk W S g o tr'):RefH (W.setCell ⟨hm,0,none⟩ v) S hm tr' N wd∧Fr S W (W.setCell ⟨hm,0,none⟩ v):=by
 have hf:=fr_setb W hm 0 v
 obtain ⟨v0,h1,h2⟩:=h.is
 refine ⟨⟨⟨v,by rw [Cch.blk_set h1];rfl,?_⟩,h.mem,fun b hb=>by simpa using h.lt b hb,h.wl⟩,fr_imp hf (fun b hb=>hb▸h.mem)⟩
 rcases hv with h2 | ⟨g,o,c,h2,h3,h4⟩
 ·exact Or.inl h2
 ·exact Or.inr ⟨g,o,c,h2,h3,h4.fr hf (fun b _ ⟨cur,t,h5,h6⟩ e=>by subst e;rw [h1]at h5;simp at h5;exact h6 h5.2.symm) (fun _ h=>h)⟩
theorem RefH.word(h:RefH W S hm tr N wd)(i:Nat)(x:Int):RefH (W.setCell ⟨hm,2+i,none⟩ (.int .i64 x)) S hm tr N (wd.set i x)∧Fr S W (W.setCell ⟨hm,2+i,none⟩ (.int .i64 x)):=by
 have hf:=fr_setb W hm (2+i) (.int .i64 x)
 obtain ⟨v0,h1,h2⟩:=h.is
 refine ⟨⟨⟨v0,?_,?_⟩,h.mem,fun b hb=>by simpa using h.lt b hb,by simpa using h.wl⟩,fr_imp hf (fun b hb=>hb▸h.mem)⟩
 ·rw [Cch.blk_set h1]
  congr 3
  rw [show 2+i=i+1+1 by omega]
  simp [hC,List.map_set]
 rcases h2 with h2 | ⟨g,o,c,h2,h3,h4⟩
 ·exact Or.inl h2
 ·exact Or.inr ⟨g,o,c,h2,h3,h4.fr hf (fun b _ ⟨cur,t,h5,h6⟩ e=>by subst e;rw [h1]at h5;simp at h5;exact h6 h5.2.symm) (fun _ h=>h)⟩
theorem RefH.wordAt(h:RefH W S hm tr N wd){i:Nat}(hi:i<60):W.cell? ⟨hm,2+i,none⟩=some (.int .i64 (wd.getD i 0)):=by
 obtain ⟨v0,h1,_⟩:=h.is
 have hl:=h.wl
 rw [cell_of h1,show 2+i=i+1+1 by omega]
 simp [hC,List.getD,List.getElem?_eq_getElem (show i<wd.length by omega)]
theorem RefH.leaves(h:RefH W S hm tr N wd){j:Nat}{ls ls':List Nat}{r:List (Nat×List Nat)}(htr:tr=(j,ls)::r){g o c:Nat}(hc:W.cell? ⟨hm,0,none⟩=some (.slice (some ⟨g,o,none⟩) tr.length c)){v:Value}(hv:Lf W S v ls'):RefH (W.setCell ⟨g,o+1,none⟩ v) S hm ((j,ls')::r) N wd∧Fr S W (W.setCell ⟨g,o+1,none⟩ v):=by
 have hf:=fr_setb W g (o+1) v
 subst htr
 obtain ⟨v0,h1,h2⟩:=h.is
 have e0:W.cell? ⟨hm,0,none⟩=some v0:=by rw [cell_of h1];rfl
 rw [e0]at hc
 obtain rfl:=Option.some.inj hc
 rcases h2 with ⟨h2,_⟩ | ⟨g',o',c',h2,h3,h4⟩
 ·simp at h2
 ·simp only [Value.slice.injEq,Option.some.injEq,Addr.mk.injEq,and_true,true_and]at h2
  obtain ⟨⟨rfl,rfl⟩,rfl⟩:=h2
  obtain ⟨cur,k1,k2,k3⟩:=h4
  have hgm:g≠hm:=fun e=>by subst e;rw [h1]at k1;simp at k1
  have hlf:∀ u l,Lf W S u l→Lf (W.setCell ⟨g,o+1,none⟩ v) S u l:=fun u l hl=>hl.fr hf (fun b _ ⟨cur',h5⟩ e=>by subst e;rw [k1]at h5;simp at h5) (fun _ h=>h)
  have hlen:o+1<cur.size:=by
   obtain ⟨_,u,h5,_⟩:=k3 0 (j,ls) rfl
   simp only [Nat.zero_mul,Nat.add_zero]at h5
   exact (Array.getElem?_eq_some_iff.1 h5).1
  refine ⟨⟨⟨_,(hf.blk hm (h.lt hm h.mem) (fun e=>hgm e.symm)).trans h1,Or.inr ⟨g,o,c,rfl,h3,cur.setIfInBounds (o+1) v,blk_set2 k1,k2,fun i x hx=>?_⟩⟩,h.mem,fun b hb=>by simpa using h.lt b hb,h.wl⟩,fr_imp hf (fun b hb=>hb▸k2)⟩
  cases i with
  | zero=>
   simp only [List.getElem?_cons_zero,Option.some.injEq]at hx
   subst hx
   obtain ⟨h5,_⟩:=k3 0 (j,ls) rfl
   simp only [Nat.zero_mul,Nat.add_zero]at h5 ⊢
   refine ⟨?_,v,?_,hlf _ _ hv⟩
   ·rw [Array.getElem?_setIfInBounds_ne (by omega)];exact h5
   ·simp [hlen]
  | succ i=>
   obtain ⟨h5,u,h6,h7⟩:=k3 (i+1) x (by simpa using hx)
   refine ⟨?_,u,?_,hlf _ _ h7⟩
   ·rw [Array.getElem?_setIfInBounds_ne (by omega)];exact h5
   ·rw [Array.getElem?_setIfInBounds_ne (by omega)];exact h6
theorem RefH.first(h:RefH W S hm tr N wd){j:Nat}{ls:List Nat}{r:List (Nat×List Nat)}(htr:tr=(j,ls)::r):∃ g o c v,W.cell? ⟨hm,0,none⟩=some (.slice (some ⟨g,o,none⟩) (r.length+1) c)∧r.length+1≤c∧W.cell? ⟨g,o,none⟩=some (.int .i64 (j:Int))∧W.cell? ⟨g,o+1,none⟩=some v∧Lf W S v ls∧Tk W S g o tr∧g≠hm∧∀ i,W.frozen? ⟨g,i,none⟩=false:=by
 obtain ⟨v0,h1,h2⟩:=h.is
 have e0:W.cell? ⟨hm,0,none⟩=some v0:=by rw [cell_of h1];rfl
 rcases h2 with ⟨_,h2⟩ | ⟨g,o,c,rfl,h3,h4⟩
 ·rw [h2]at htr;cases htr
 ·have h4':=h4
  obtain ⟨cur,k1,k2,k3⟩:=h4
  obtain ⟨h5,u,h6,h7⟩:=k3 0 (j,ls) (by rw [htr];rfl)
  simp only [Nat.zero_mul,Nat.add_zero]at h5 h6
  have hl:tr.length=r.length+1:=by rw [htr];rfl
  rw [hl]at e0 h3
  exact ⟨g,o,c,u,e0,h3,by rw [cell_of k1];exact h5,by rw [cell_of k1];exact h6,h7,h4',fun e=>(by subst e;rw [h1]at k1;simp at k1),fun i=>froz_of k1⟩
theorem Tk.tail{g o:Nat}{x:Nat×List Nat}{r:List (Nat×List Nat)}(h:Tk W S g o (x::r)):Tk W S g (o+2) r:=by
 obtain ⟨cur,k1,k2,k3⟩:=h
 refine ⟨cur,k1,k2,fun i y hy=>?_⟩
 have:=k3 (i+1) y (by simpa using hy)
 rw [show o+(i+1)*2=o+2+i*2 by omega]at this
 exact this
theorem mtake_none(h:RefH W S hm [] N wd)(hN:N≤1000000):Calls Tryz.prog 27 #[.pointer (some ⟨hm,0,none⟩)] W (DTo S hm [] (N+1) wd (.int .i64 ((N+1:Nat):Int)) W):=by
 obtain ⟨ao,c,c0,c1⟩:=h.cells
 have f1:=h.froz 1
 have H:=hid h
 have kw:IntKind.i64.wrap ((N:Int)+1)=((N+1:Nat):Int):=by rw [IntWalk.i64_in _ ⟨by omega,by omega⟩];omega
 clear h
 go_enter Tryz.func27,Tryz.ntmps27
 go_wp2
 go_ret
 obtain ⟨h1,h2⟩:=H.out.pages (N+1)
 exact ⟨rfl,S,h1,h2,fun b hb=>Or.inl hb⟩
theorem cut29(g o n c:Nat)(W:World):(Instr.slice 29 (.slice (some ⟨g,o,none⟩) (n+1) c) (some (.int .i64 1)) none none).run Tryz.prog W=.ok (.slice (some ⟨g,if c=1 then o else o+2,none⟩) n (c - 1)) W:=by
 rw [run_slice_l (P:=Tryz.prog) (t:=29) (a:=_) (len:=n+1) (cap:=c) (ht:=by kernel_rfl) (kl:=.i64) (l:=1) (h0:=by omega) (h1:=by omega)]
 have e:(sizeOf (Tryz.prog.elem 29)).run Tryz.prog W=.ok 2 W:=by kernel_rfl
 rw [e]
 by_cases h:c=1
 ·simp [sliced,Result.andThen,h]
 ·simp [sliced,Result.andThen,h,Addr.add]
variable {j:Nat}
theorem mtake_trunk{r:List (Nat×List Nat)}(h:RefH W S hm ((j,[])::r) N wd)(hl:r.length≤1000000):Calls Tryz.prog 27 #[.pointer (some ⟨hm,0,none⟩)] W (DTo S hm r N wd (.int .i64 (j:Int)) W):=by
 obtain ⟨g,o,c,v,c0,hc,c1,c2,hv,hT,hgm,fz⟩:=h.first rfl
 have hv0:∃ ao cc,v=.slice ao 0 cc:=by
  rcases hv with ⟨rfl,_⟩ | ⟨b,cc,cur,rfl,_⟩
  ·exact ⟨_,_,rfl⟩
  ·exact ⟨_,_,rfl⟩
 obtain ⟨ao,cc,rfl⟩:=hv0
 have f0:=h.froz 0
 have H:=hid h
 obtain ⟨n,hn⟩:∃ n,n=r.length:=⟨_,rfl⟩
 rw [←hn]at c0 hc hl
 have hcu:=cut29 g o n c
 obtain ⟨of,hof⟩:∃ of,of=(if c=1 then o else o+2):=⟨_,rfl⟩
 rw [←hof]at hcu
 have e1:((n:Int)+1)≠0:=by omega
 have hn0:¬((n+1:Nat):Int)=0:=by omega
 have HT:=hid hT;have HOF:=hid hof;have HN:=hid hn;have HC:=hid hc
 clear h hv hT hof hn
 go_enter Tryz.func27,Tryz.ntmps27
 go_wp2
 go_ret
 have hrl:r.length≤c - 1:=by have:=HN.out;have:=HC.out;omega
 obtain ⟨h1,h2⟩:=H.out.list (tr':=r) (v:=.slice (some ⟨g,of,none⟩) n (c - 1)) (Or.inr ⟨g,of,c - 1,by rw [HN.out],hrl,by
  by_cases hc1:c=1
  ·have hr0:r = []:=List.eq_nil_of_length_eq_zero (by omega)
   subst hr0
   obtain ⟨cur,k1,k2,_⟩:=HT.out
   exact ⟨cur,k1,k2,fun i x hx=>by cases hx⟩
  ·rw [HOF.out,if_neg hc1];exact HT.out.tail⟩)
 exact ⟨rfl,S,h1,h2,fun b hb=>Or.inl hb⟩
theorem mtake_leaf{x:Nat}{ls:List Nat}{r:List (Nat×List Nat)}(h:RefH W S hm ((j,ls++[x])::r) N wd)(hl:r.length≤1000000)(hls:ls.length≤1000000):Calls Tryz.prog 27 #[.pointer (some ⟨hm,0,none⟩)] W (DTo S hm ((j,ls)::r) N wd (.int .i64 (x:Int)) W):=by
 obtain ⟨g,o,c,v,c0,hc,c1,c2,hv,hT,hgm,fz⟩:=h.first rfl
 have H:=hid h
 rcases hv with ⟨_,hv⟩ | ⟨b,cc,cur,rfl,hbS,hb,hcc,hcur⟩
 ·simp at hv
 have cx:W.cell? ⟨b,ls.length,none⟩=some (.int .i64 (x:Int)):=by rw [cell_of hb];exact hcur _ x (by simp)
 have hcu:=cut_hi8 b (ls.length+1) cc ls.length (by simp at hcc;omega)
 have fo:=fz (o+1)
 have HV:=hid (show Lf W S (.slice (some ⟨b,0,none⟩) ls.length cc) ls from Or.inr ⟨b,cc,cur,rfl,hbS,hb,by simp at hcc;omega,fun i y hy=>hcur i y (by rw [List.getElem?_append_left (List.getElem?_eq_some_iff.1 hy).1];exact hy)⟩)
 rw [List.length_append,List.length_singleton]at c2
 obtain ⟨n,hn⟩:∃ n,n=r.length:=⟨_,rfl⟩
 obtain ⟨m,hm'⟩:∃ m,m=ls.length:=⟨_,rfl⟩
 rw [←hn]at c0 hc hl
 rw [←hm']at c2 hcu cx hls HV
 have hn0:¬((n+1:Nat):Int)=0:=by omega
 have hm0:¬((m+1:Nat):Int)=0:=by omega
 have hn1:¬(n:Int)+1=0:=by omega
 have hm1:¬(m:Int)+1=0:=by omega
 have kw:IntKind.i64.wrap ((m:Int)+1 - 1)=(m:Int):=by rw [IntWalk.i64_in _ ⟨by omega,by omega⟩];omega
 have HN:=hid hn
 have HG:=hid (show W.cell? ⟨hm,0,none⟩=some (.slice (some ⟨g,o,none⟩) ((j,ls++[x])::r).length c) by rw [List.length_cons,←hn];exact c0)
 clear h hT hn hm' hb hcur hbS hcc
 go_enter Tryz.func27,Tryz.ntmps27
 go_wp2
 go_ret
 obtain ⟨h1,h2⟩:=H.out.leaves rfl HG.out HV.out
 exact ⟨rfl,S,h1,h2,fun b hb=>Or.inl hb⟩
end
end
section
open Go.RowKit Go.Maps
open Dsk (gt hid undrew keep_old keep_cell lt_cell Rd op_at)
open Cch (Fr wpAnyK wpAnyK_done wp_region_K wpAnyK_ready AllReadyK)
section
variable {W W':World} {S S' E:Nat→Prop} {hm N:Nat} {tr:List (Nat×List Nat)} {wd:List Int}
variable {xs:List Value} {n c:Nat} {ao:Option Addr} {W W':World}
theorem src_below(h:Cch.Src W ao n c xs)(hb:Below W.heap.size W W'):Cch.Src W' ao n c xs:=⟨h.len,h.no,fun ad e j u hu=>keep_old hb (h.at_ ad e j u hu),h.one⟩
variable {k:Nat}
theorem src_grown{a:Nat}{b:Option Nat}(h:Cch.Src W (some ⟨a,0,none⟩) n c xs)(hg:W.grownBy W' b)(hb:b=some k)(hk:a≠k)(hl:a<W.heap.size):Cch.Src W' (some ⟨a,0,none⟩) n c xs:=⟨h.len,h.no,fun ad e j u hu=>by
 have h1:=h.at_ ad e j u hu
 obtain rfl:=Option.some.inj e
 rw [Addr.add_lit]at h1 ⊢
 rw [World.cell?_of_block (hg.block a hl (fun e=>hk (Option.some.inj (e.trans hb))))]
 exact h1,h.one⟩
variable {Y Z:World}
theorem blw_grown(hb:Below W.heap.size W Y)(hg:Y.grownBy Z (Value.slice (some ⟨k,0,none⟩) n c).ownBlock)(hk:W.heap.size≤k):Below W.heap.size W Z:=hb.grown hg hb.size (fun j hj=>by cases hj;exact hk)
variable {v:Value}
theorem blw_grown2(hb:Below W.heap.size W Y)(hg:Y.grownBy Z v.ownBlock)(hv:∀ k,v.ownBlock=some k→W.heap.size≤k):Below W.heap.size W Z:=hb.grown hg hb.size (fun j hj=>hv j hj)
theorem new_blk(hb:Below W.heap.size W Y)(hv:∀ k,v.ownBlock=some k→W.heap.size≤k)(ha:∀ a,ao=some a→(v.ownBlock=some a.block∨a.block=Y.heap.size)):∀ k,(Value.slice ao n c).ownBlock=some k→W.heap.size≤k:=by
 intro k hk
 cases ao with
 | none=>cases hk
 | some a=>
  cases hk
  rcases ha a rfl with h |h
  ·exact hv _ h
  ·rw [h];exact hb.size
theorem RefH.new(h:RefH W S hm tr N wd)(hb:Below W.heap.size W W'):RefH W' (fun b=>S b∨(W.heap.size≤b∧b<W'.heap.size)) hm tr N wd:=(h.fr (Fr.of_below (S:=fun _=>False) hb) (fun _ _ h=>h)).more (fun b hb=>Or.inl hb) (fun b hb'=>by rcases hb' with h1 |h1;exact Nat.lt_of_lt_of_le (h.lt b h1) hb.size;exact h1.2)
variable {x:Nat}
theorem mgive_more{j:Nat}{ls:List Nat}{r:List (Nat×List Nat)}(h:RefH W S hm ((j,ls)::r) N wd)(hl:r.length≤1000000)(hls:ls.length<126)(hx1:2≤x)(hx:x≤N):Calls Tryz.prog 28 #[.pointer (some ⟨hm,0,none⟩),.int .i64 (x:Int)] W (DTo S hm ((j,ls++[x])::r) N wd (.int .i64 0) W):=by
 obtain ⟨ao,c0',cc0,c1'⟩:=h.cells
 clear cc0
 obtain ⟨g,o,c,v,c0,hc,c1,c2,hv,hT,hgm,fz⟩:=h.first rfl
 obtain ⟨bo,cc,rfl,hlc,hsr⟩:=hv.form
 have H:=hid h;have HSR:=hid hsr
 have fo:=fz (o+1)
 have HG:=hid (show W.cell? ⟨hm,0,none⟩=some (.slice (some ⟨g,o,none⟩) ((j,ls)::r).length c) from c0)
 obtain ⟨n,hn⟩:∃ n,n=r.length:=⟨_,rfl⟩
 obtain ⟨m,hm'⟩:∃ m,m=ls.length:=⟨_,rfl⟩
 rw [←hn]at c0 hc hl
 rw [←hm']at c2 hls HSR
 have hx2:¬(x:Int)<2:=by omega
 have hxN:¬(N:Int)<(x:Int):=by omega
 have hn0:(0:Int)<((n+1:Nat):Int):=by omega
 have hn1:(0:Int)<(n:Int)+1:=by omega
 have hm1:(m:Int)<126:=by omega
 have HM:=hid hm';have C0:=hid c0;have C2:=hid c2
 have HGL:=hid (lt_cell c1);have FO:=hid fo
 clear h hT hn hm' hsr hv hlc fz
 go_enter Tryz.func28,Tryz.ntmps28
 go_upto_region 4 with fail
 refine wp_region_K (S:=fun X=>Below W.heap.size W X) (fun i=>i == 18) (by kernel_rfl) (Below.refl _ _).drew (fun hHeld=>?_)
 obtain ⟨X0,hX0⟩:∃ X0,X0=W.drew:=⟨_,rfl⟩
 rw [←hX0]at hHeld ⊢
 have B0:=hid hHeld
 clear hX0
 refine gkp 0 ?_
 refine gkp 1 ?_
 refine gkp 2 ?_
 refine gkt 3 ?_ (h:=by intro X hSw;have k0:=keep_old hSw C0.out;go_simp;first |done |with_reducible rfl)
 refine gkp 5 ?_
 refine gkp 6 ?_
 refine gkp 7 ?_
 refine gkt 8 ?_ (h:=by intro X hSw;have k0:=keep_old hSw C0.out;go_simp;first |done |with_reducible rfl)
 refine gkp 9 ?_
 refine gkp 10 ?_
 refine gkt 11 ?_ (h:=by intro X hSw;have k0:=keep_old hSw C2.out;go_simp;first |done |with_reducible rfl)
 refine gkp 13 ?_
 refine wpAnyK_ready (rs:=[4,14]) (by kernel_rfl) (by simp) ?_
 refine AllReadyK.cons (op_at _ 4 _ rfl) (fun K hK=>?_) ?_
 ·go_simp
  obtain ⟨Y1,hY1⟩:∃ Y,Y=X0.alloc (.cells #[] 3):=⟨_,rfl⟩
  rw [←hY1]
  have BA:Below X0.heap.size X0 Y1:=by rw [hY1];exact Below.alloc (Below.refl _ _) (Nat.le_refl _) _
  have RE:=hid (show Y1.ownsRow 0 3 1 (.slice (some ⟨X0.heap.size,0,none⟩) 0 0) 0 [] by rw [hY1];exact rr_base (World.ownsRow_made X0 #[] 0 (Nat.le_refl _) (by decide) rfl) (Nat.zero_le _))
  have HE:=hid (show W.heap.size≤X0.heap.size from B0.out.size)
  replace B0:=hid (gt B0.out BA)
  have hR:=B0.out
  clear BA hY1
  refine hK.out _ _ hR (fun hHeld=>?_)
  clear hK K hR
  (try simp only [Act.put,sA,sZ,sS])
  refine wpAnyK_ready (rs:=[12,14]) (by kernel_rfl) (by simp) ?_
  refine AllReadyK.cons (op_at _ 12 _ rfl) (fun K hK=>?_) ?_
  ·refine Cch.step_app rfl (.tmp 36) (.tmp 43) el41 rfl (.slice (some ⟨X0.heap.size,0,none⟩) 0 0) 0 [] rfl RE.out bo m cc (zI ls) rfl (src_below HSR.out B0.out) (by omega) ?_
   simp only [Nat.zero_add,List.nil_append]
   intro a5 c5 Z1a ho5 hg5 ha5
   have RR:=hid ho5
   have RN:=hid (show ∀ k,(Value.slice a5 m c5).ownBlock=some k→W.heap.size≤k from new_blk (v:=.slice (some ⟨X0.heap.size,0,none⟩) 0 0) B0.out (fun k e=>by cases e;exact HE.out) ha5)
   replace B0:=hid (blw_grown B0.out hg5 HE.out)
   have hR:=B0.out
   clear ho5 hg5 ha5 RE
   refine hK.out _ _ hR (fun hHeld=>?_)
   clear hK K hR
   (try simp only [Act.put,sA,sZ,sS])
   refine gk1 14 (fun K hK=>?_)
   go_simp
   obtain ⟨Y1ac,hY1ac⟩:∃ Y,Y=Z1a.alloc (.cells #[.int .i64 (x:Int)] 3):=⟨_,rfl⟩
   rw [←hY1ac]
   have BA:Below Z1a.heap.size Z1a Y1ac:=by rw [hY1ac];exact Below.alloc (Below.refl _ _) (Nat.le_refl _) _
   have LS:=hid (show Cch.Src Y1ac (some ⟨Z1a.heap.size,0,none⟩) 1 1 [.int .i64 (x:Int)] by rw [hY1ac];exact lit_src Z1a [.int .i64 (x:Int)] 3 (by intro y hy;simp at hy;subst hy;rfl))
   have LL:=hid (show Z1a.heap.size<Y1ac.heap.size by rw [hY1ac];simp)
   have LL0:=LL
   replace RR:=hid (rr_fr RR.out (Fr.of_below (S:=fun _=>False) BA) (fun _ _ h=>h))
   replace B0:=hid (gt B0.out BA)
   have hR:=B0.out
   clear BA hY1ac
   refine hK.out _ _ hR (fun hHeld=>?_)
   clear hK K hR
   (try simp only [Act.put,sA,sZ,sS])
   refine gk1 15 (fun K hK=>?_)
   refine Cch.step_app rfl (.tmp 44) (.tmp 46) el41 rfl (.slice a5 m c5) m _ rfl RR.out (some ⟨Z1a.heap.size,0,none⟩) 1 1 [.int .i64 (x:Int)] rfl LS.out (by omega) ?_
   intro a6 c6 Z1acb ho6 hg6 ha6
   have QN:=hid (show ∀ k,(Value.slice a6 (m+1) c6).ownBlock=some k→W.heap.size≤k from new_blk B0.out RN.out ha6)
   replace B0:=hid (blw_grown2 B0.out hg6 RN.out)
   have QR:=hid ho6
   have hR:=B0.out
   clear ho6 hg6 ha6 RR
   refine hK.out _ _ hR (fun hHeld=>?_)
   clear hK K hR
   (try simp only [Act.put,sA,sZ,sS])
   refine gkp 16 ?_
   refine gkp 17 ?_
   have k2:=keep_old B0.out C2.out
   have kf:Z1acb.frozen? ⟨g,o+1,none⟩=false:=(by have:=World.frozen?_of_block (w:=W) (w':=Z1acb) (a:=⟨g,o+1,none⟩) (B0.out.block g HGL.out);rw [this];exact FO.out)
   refine gkl 18 (fun K hK=>?_)
   go_simp
   refine hK.out _ _ ?_
   clear hK K
   (try simp only [Act.put,sA,sZ,sS])
   refine wpAnyK_done (by kernel_rfl) ?_ _
   clear hHeld
   go_wp2
   go_ret
   have hH:=H.out.new B0.out
   have hLf:Lf Z1acb (fun b=>S b∨(W.heap.size≤b∧b<Z1acb.heap.size)) (.slice a6 (m+1) c6) (ls++[x]):=Lf.of_own (by rw [zI_append];exact QR.out) (by rw [List.length_append,←HM.out];simp) (fun k hk=>Or.inr ⟨QN.out k hk,(rr_blk QR.out hk).2⟩)
   obtain ⟨h1,h2⟩:=hH.leaves rfl (keep_old B0.out HG.out) hLf
   refine ⟨rfl,_,h1,?_,fun b hb=>?_⟩
   ·exact (Fr.of_below (S:=S) B0.out).trans h2 (fun b hl hb=>by rcases hb with hb |hb;exact hb;omega)
   ·rcases hb with hb |hb;exact Or.inl hb;exact Or.inr hb.1
  refine AllReadyK.cons (op_at _ 14 _ rfl) (fun K hK=>?_) ?_
  ·go_simp
   have EL:=hid (rr_blk RE.out (k:=X0.heap.size) rfl).2
   obtain ⟨Y1a,hY1a⟩:∃ Y,Y=Y1.alloc (.cells #[.int .i64 (x:Int)] 3):=⟨_,rfl⟩
   rw [←hY1a]
   have BA:Below Y1.heap.size Y1 Y1a:=by rw [hY1a];exact Below.alloc (Below.refl _ _) (Nat.le_refl _) _
   have LS:=hid (show Cch.Src Y1a (some ⟨Y1.heap.size,0,none⟩) 1 1 [.int .i64 (x:Int)] by rw [hY1a];exact lit_src Y1 [.int .i64 (x:Int)] 3 (by intro y hy;simp at hy;subst hy;rfl))
   have LL:=hid (show Y1.heap.size<Y1a.heap.size by rw [hY1a];simp)
   have LL0:=LL
   replace RE:=hid (rr_fr RE.out (Fr.of_below (S:=fun _=>False) BA) (fun _ _ h=>h))
   have NE:=hid (show Y1.heap.size≠X0.heap.size from (fun e=>by have h1:=(rr_blk RE.out (k:=X0.heap.size) rfl).2;have h2:=EL.out;omega))
   replace B0:=hid (gt B0.out BA)
   have hR:=B0.out
   clear BA hY1a
   refine hK.out _ _ hR (fun hHeld=>?_)
   clear hK K hR
   (try simp only [Act.put,sA,sZ,sS])
   refine gk1 12 (fun K hK=>?_)
   refine Cch.step_app rfl (.tmp 36) (.tmp 43) el41 rfl (.slice (some ⟨X0.heap.size,0,none⟩) 0 0) 0 [] rfl RE.out bo m cc (zI ls) rfl (src_below HSR.out B0.out) (by omega) ?_
   simp only [Nat.zero_add,List.nil_append]
   intro a5 c5 Z1ab ho5 hg5 ha5
   have RR:=hid ho5
   have RN:=hid (show ∀ k,(Value.slice a5 m c5).ownBlock=some k→W.heap.size≤k from new_blk (v:=.slice (some ⟨X0.heap.size,0,none⟩) 0 0) B0.out (fun k e=>by cases e;exact HE.out) ha5)
   replace LS:=hid (src_grown LS.out hg5 rfl NE.out LL.out)
   replace B0:=hid (blw_grown B0.out hg5 HE.out)
   have hR:=B0.out
   clear ho5 hg5 ha5 RE
   refine hK.out _ _ hR (fun hHeld=>?_)
   clear hK K hR
   (try simp only [Act.put,sA,sZ,sS])
   refine gk1 15 (fun K hK=>?_)
   refine Cch.step_app rfl (.tmp 44) (.tmp 46) el41 rfl (.slice a5 m c5) m _ rfl RR.out (some ⟨Y1.heap.size,0,none⟩) 1 1 [.int .i64 (x:Int)] rfl LS.out (by omega) ?_
   intro a6 c6 Z1abc ho6 hg6 ha6
   have QN:=hid (show ∀ k,(Value.slice a6 (m+1) c6).ownBlock=some k→W.heap.size≤k from new_blk B0.out RN.out ha6)
   replace B0:=hid (blw_grown2 B0.out hg6 RN.out)
   have QR:=hid ho6
   have hR:=B0.out
   clear ho6 hg6 ha6 RR
   refine hK.out _ _ hR (fun hHeld=>?_)
   clear hK K hR
   (try simp only [Act.put,sA,sZ,sS])
   refine gkp 16 ?_
   refine gkp 17 ?_
   have k2:=keep_old B0.out C2.out
   have kf:Z1abc.frozen? ⟨g,o+1,none⟩=false:=(by have:=World.frozen?_of_block (w:=W) (w':=Z1abc) (a:=⟨g,o+1,none⟩) (B0.out.block g HGL.out);rw [this];exact FO.out)
   refine gkl 18 (fun K hK=>?_)
   go_simp
   refine hK.out _ _ ?_
   clear hK K
   (try simp only [Act.put,sA,sZ,sS])
   refine wpAnyK_done (by kernel_rfl) ?_ _
   clear hHeld
   go_wp2
   go_ret
   have hH:=H.out.new B0.out
   have hLf:Lf Z1abc (fun b=>S b∨(W.heap.size≤b∧b<Z1abc.heap.size)) (.slice a6 (m+1) c6) (ls++[x]):=Lf.of_own (by rw [zI_append];exact QR.out) (by rw [List.length_append,←HM.out];simp) (fun k hk=>Or.inr ⟨QN.out k hk,(rr_blk QR.out hk).2⟩)
   obtain ⟨h1,h2⟩:=hH.leaves rfl (keep_old B0.out HG.out) hLf
   refine ⟨rfl,_,h1,?_,fun b hb=>?_⟩
   ·exact (Fr.of_below (S:=S) B0.out).trans h2 (fun b hl hb=>by rcases hb with hb |hb;exact hb;omega)
   ·rcases hb with hb |hb;exact Or.inl hb;exact Or.inr hb.1
  exact AllReadyK.nil
 refine AllReadyK.cons (op_at _ 14 _ rfl) (fun K hK=>?_) ?_
 ·go_simp
  obtain ⟨Y1,hY1⟩:∃ Y,Y=X0.alloc (.cells #[.int .i64 (x:Int)] 3):=⟨_,rfl⟩
  rw [←hY1]
  have BA:Below X0.heap.size X0 Y1:=by rw [hY1];exact Below.alloc (Below.refl _ _) (Nat.le_refl _) _
  have LS:=hid (show Cch.Src Y1 (some ⟨X0.heap.size,0,none⟩) 1 1 [.int .i64 (x:Int)] by rw [hY1];exact lit_src X0 [.int .i64 (x:Int)] 3 (by intro y hy;simp at hy;subst hy;rfl))
  have LL:=hid (show X0.heap.size<Y1.heap.size by rw [hY1];simp)
  have LL0:=LL
  replace B0:=hid (gt B0.out BA)
  have hR:=B0.out
  clear BA hY1
  refine hK.out _ _ hR (fun hHeld=>?_)
  clear hK K hR
  (try simp only [Act.put,sA,sZ,sS])
  refine gk1 4 (fun K hK=>?_)
  go_simp
  obtain ⟨Y1b,hY1b⟩:∃ Y,Y=Y1.alloc (.cells #[] 3):=⟨_,rfl⟩
  rw [←hY1b]
  have BA:Below Y1.heap.size Y1 Y1b:=by rw [hY1b];exact Below.alloc (Below.refl _ _) (Nat.le_refl _) _
  have RE:=hid (show Y1b.ownsRow 0 3 1 (.slice (some ⟨Y1.heap.size,0,none⟩) 0 0) 0 [] by rw [hY1b];exact rr_base (World.ownsRow_made Y1 #[] 0 (Nat.le_refl _) (by decide) rfl) (Nat.zero_le _))
  have HE:=hid (show W.heap.size≤Y1.heap.size from B0.out.size)
  replace LS:=hid (src_below LS.out BA)
  replace LL:=hid (Nat.lt_of_lt_of_le LL.out BA.size)
  have NE:=hid (show X0.heap.size≠Y1.heap.size from Nat.ne_of_lt LL0.out)
  replace B0:=hid (gt B0.out BA)
  have hR:=B0.out
  clear BA hY1b
  refine hK.out _ _ hR (fun hHeld=>?_)
  clear hK K hR
  (try simp only [Act.put,sA,sZ,sS])
  refine gk1 12 (fun K hK=>?_)
  refine Cch.step_app rfl (.tmp 36) (.tmp 43) el41 rfl (.slice (some ⟨Y1.heap.size,0,none⟩) 0 0) 0 [] rfl RE.out bo m cc (zI ls) rfl (src_below HSR.out B0.out) (by omega) ?_
  simp only [Nat.zero_add,List.nil_append]
  intro a5 c5 Z1ba ho5 hg5 ha5
  have RR:=hid ho5
  have RN:=hid (show ∀ k,(Value.slice a5 m c5).ownBlock=some k→W.heap.size≤k from new_blk (v:=.slice (some ⟨Y1.heap.size,0,none⟩) 0 0) B0.out (fun k e=>by cases e;exact HE.out) ha5)
  replace LS:=hid (src_grown LS.out hg5 rfl NE.out LL.out)
  replace B0:=hid (blw_grown B0.out hg5 HE.out)
  have hR:=B0.out
  clear ho5 hg5 ha5 RE
  refine hK.out _ _ hR (fun hHeld=>?_)
  clear hK K hR
  (try simp only [Act.put,sA,sZ,sS])
  refine gk1 15 (fun K hK=>?_)
  refine Cch.step_app rfl (.tmp 44) (.tmp 46) el41 rfl (.slice a5 m c5) m _ rfl RR.out (some ⟨X0.heap.size,0,none⟩) 1 1 [.int .i64 (x:Int)] rfl LS.out (by omega) ?_
  intro a6 c6 Z1bac ho6 hg6 ha6
  have QN:=hid (show ∀ k,(Value.slice a6 (m+1) c6).ownBlock=some k→W.heap.size≤k from new_blk B0.out RN.out ha6)
  replace B0:=hid (blw_grown2 B0.out hg6 RN.out)
  have QR:=hid ho6
  have hR:=B0.out
  clear ho6 hg6 ha6 RR
  refine hK.out _ _ hR (fun hHeld=>?_)
  clear hK K hR
  (try simp only [Act.put,sA,sZ,sS])
  refine gkp 16 ?_
  refine gkp 17 ?_
  have k2:=keep_old B0.out C2.out
  have kf:Z1bac.frozen? ⟨g,o+1,none⟩=false:=(by have:=World.frozen?_of_block (w:=W) (w':=Z1bac) (a:=⟨g,o+1,none⟩) (B0.out.block g HGL.out);rw [this];exact FO.out)
  refine gkl 18 (fun K hK=>?_)
  go_simp
  refine hK.out _ _ ?_
  clear hK K
  (try simp only [Act.put,sA,sZ,sS])
  refine wpAnyK_done (by kernel_rfl) ?_ _
  clear hHeld
  go_wp2
  go_ret
  have hH:=H.out.new B0.out
  have hLf:Lf Z1bac (fun b=>S b∨(W.heap.size≤b∧b<Z1bac.heap.size)) (.slice a6 (m+1) c6) (ls++[x]):=Lf.of_own (by rw [zI_append];exact QR.out) (by rw [List.length_append,←HM.out];simp) (fun k hk=>Or.inr ⟨QN.out k hk,(rr_blk QR.out hk).2⟩)
  obtain ⟨h1,h2⟩:=hH.leaves rfl (keep_old B0.out HG.out) hLf
  refine ⟨rfl,_,h1,?_,fun b hb=>?_⟩
  ·exact (Fr.of_below (S:=S) B0.out).trans h2 (fun b hl hb=>by rcases hb with hb |hb;exact hb;omega)
  ·rcases hb with hb |hb;exact Or.inl hb;exact Or.inr hb.1
 exact AllReadyK.nil
theorem Tk.src{g o:Nat}(h:Tk W S g o tr)(c:Nat):∃ ys,Src2 W (some ⟨g,o,none⟩) tr.length c ys∧∀ (i:Nat) (y:Nat×List Nat),tr[i]? = some y→ys[i*2]? = some (.int .i64 ((y.1:Nat):Int))∧∃ v,ys[i*2+1]? = some v∧Lf W S v y.2:=by
 obtain ⟨cur,h1,h2,h3⟩:=h
 have hat:∀ j,j<tr.length*2→∃ u,cur[o+j]? = some u∧u.oneCell'=true:=fun j hj=>by
  have hi:j/2<tr.length:=by omega
  obtain ⟨h4,v,h5,h6⟩:=h3 (j/2) _ (List.getElem?_eq_getElem hi)
  rcases Nat.mod_two_eq_zero_or_one j with hm |hm
  ·rw [show o+j=o+j/2*2 by omega];exact ⟨_,h4,rfl⟩
  ·rw [show o+j=o+j/2*2+1 by omega]
   obtain ⟨ao,c',rfl,_⟩:=h6.form
   exact ⟨_,h5,rfl⟩
 refine ⟨(List.range (tr.length*2)).map fun j=>(cur[o+j]?).getD undef,⟨by simp,fun h=>(by cases h),fun ad had j u hu=>?_,fun u hu=>?_⟩,fun i y hy=>?_⟩
 ·obtain rfl:=Option.some.inj had
  have hj:j<tr.length*2:=by have:=(List.getElem?_eq_some_iff.1 hu).1;simpa using this
  rw [List.getElem?_map,List.getElem?_range hj]at hu
  obtain rfl:=Option.some.inj hu
  obtain ⟨u,hu1,_⟩:=hat j hj
  rw [Addr.add_lit,cell_of h1]
  show cur[o+j]? = some ((cur[o+j]?).getD undef)
  rw [hu1];rfl
 ·obtain ⟨j,hj,rfl⟩:=List.mem_map.1 hu
  obtain ⟨u,hu1,hu2⟩:=hat j (by simpa using hj)
  rw [hu1];exact hu2
 ·have hi:i<tr.length:=(List.getElem?_eq_some_iff.1 hy).1
  obtain ⟨h4,v,h5,h6⟩:=h3 i y hy
  refine ⟨?_,v,?_,h6⟩
  ·rw [List.getElem?_map,List.getElem?_range (by omega)];simp [h4]
  ·rw [List.getElem?_map,List.getElem?_range (by omega)]
   simp only [Option.map_some]
   rw [show o+(i*2+1)=o+i*2+1 by omega,h5];rfl
theorem RefH.src(h:RefH W S hm tr N wd):∃ ao c ys,W.cell? ⟨hm,0,none⟩=some (.slice ao tr.length c)∧Src2 W ao tr.length c ys∧∀ (i:Nat) (y:Nat×List Nat),tr[i]? = some y→ys[i*2]? = some (.int .i64 ((y.1:Nat):Int))∧∃ v,ys[i*2+1]? = some v∧Lf W S v y.2:=by
 obtain ⟨v0,h1,h2⟩:=h.is
 have e0:W.cell? ⟨hm,0,none⟩=some v0:=by rw [cell_of h1];rfl
 rcases h2 with ⟨rfl,rfl⟩ | ⟨g,o,c,rfl,h3,h4⟩
 ·exact ⟨none,0,[],e0,⟨rfl,fun _=>⟨rfl,rfl⟩,fun ad h=>(by cases h),fun u hu=>by cases hu⟩,fun i y hy=>by cases hy⟩
 ·obtain ⟨ys,h5,h6⟩:=h4.src c
  exact ⟨_,c,ys,e0,h5,h6⟩
theorem src2_below(h:Src2 W ao n c xs)(hb:Below W.heap.size W W'):Src2 W' ao n c xs:=⟨h.len,h.no,fun ad e j u hu=>keep_old hb (h.at_ ad e j u hu),h.one⟩
theorem Tk.of_own{ys:List Value}(ho:W'.ownsRow 0 88 2 (.slice ao n c) n ys)(hn:n=tr.length)(hne:tr≠[])(hS:∀ k,(Value.slice ao n c).ownBlock=some k→S k)(hy:∀ (i:Nat) (y:Nat×List Nat),tr[i]? = some y→ys[i*2]? = some (.int .i64 ((y.1:Nat):Int))∧∃ v,ys[i*2+1]? = some v∧Lf W' S v y.2):∃ g o,ao=some ⟨g,o,none⟩∧n≤c∧Tk W' S g o tr:=by
 subst hn
 rcases ho.2 with ⟨hv,hz⟩ | ⟨g,cap,cur,hv,_,hg,hnc,_,hcs,htk⟩
 ·exact absurd (List.eq_nil_of_length_eq_zero hz) hne
 ·simp only [Value.slice.injEq,true_and]at hv
  obtain ⟨rfl,rfl⟩:=hv
  refine ⟨g,0,rfl,hnc,cur,hg,hS g rfl,fun i y hy'=>?_⟩
  have hi:i<tr.length:=(List.getElem?_eq_some_iff.1 hy').1
  have key:∀ j u,j<tr.length*2→ys[j]? = some u→cur[j]? = some u:=fun j u hj hu=>by
   have h1:(cur.toList.take (tr.length*2))[j]? = ys[j]?:=by rw [htk]
   rw [List.getElem?_take_of_lt hj,Array.getElem?_toList]at h1
   rw [h1];exact hu
  obtain ⟨h4,v,h5,h6⟩:=hy i y hy'
  rw [Nat.zero_add]
  exact ⟨key _ _ (by omega) h4,v,key _ _ (by omega) h5,h6⟩
theorem mgive_new(h:RefH W S hm tr N wd)(hl:tr.length≤100000)(hx1:2≤x)(hx:x≤N)(hfull:∀ j ls r,tr=(j,ls)::r→126≤ls.length):Calls Tryz.prog 28 #[.pointer (some ⟨hm,0,none⟩),.int .i64 (x:Int)] W (DTo S hm ((x,[])::tr) N wd (.int .i64 0) W):=by
 obtain ⟨_,_,cx,c1⟩:=h.cells
 clear cx
 obtain ⟨ao,c,ys,c0,hs,hy⟩:=h.src
 have H:=hid h;have HS:=hid hs;have HY:=hid hy
 have f0:=h.froz 0
 have F0:=hid f0
 have hml:=h.lt hm h.mem
 have HML:=hid hml
 have hx2:¬(x:Int)<2:=by omega
 have hxN:¬(N:Int)<(x:Int):=by omega
 obtain ⟨n,hn⟩:∃ n,n=tr.length:=⟨_,rfl⟩
 rw [←hn]at c0 HS hl
 have HN:=hid hn
 have B1:=hid (show Below W.heap.size W (W.alloc (.cells #[.int .i64 (x:Int),.slice none 0 0] 88)) from Below.alloc (Below.refl _ _) (Nat.le_refl _) _)
 have R1:=hid (lit_row2 W 0 (.int .i64 (x:Int)) (.slice none 0 0) 88 (Nat.zero_le _))
 have fin:∀ a4 c4 w4,w4.ownsRow 0 88 2 (.slice a4 (1+n) c4) (1+n) ([.int .i64 (x:Int),.slice none 0 0]++ys)→(W.alloc (.cells #[.int .i64 (x:Int),.slice none 0 0] 88)).grownBy w4 (Value.slice (some ⟨W.heap.size,0,none⟩) 1 1).ownBlock→(∀ a,a4=some a→((Value.slice (some ⟨W.heap.size,0,none⟩) 1 1).ownBlock=some a.block∨a.block=(W.alloc (.cells #[.int .i64 (x:Int),.slice none 0 0] 88)).heap.size))→DTo S hm ((x,[])::tr) N wd (.int .i64 0) W (.returned (.int .i64 0)) (w4.setCell ⟨hm,0,none⟩ (.slice a4 (1+n) c4))∧Below W.heap.size W w4:=fun a4 c4 w4 ho hg ha=>by
  have B4:=blw_grown B1.out hg (Nat.le_refl _)
  have N4:∀ k,(Value.slice a4 (1+n) c4).ownBlock=some k→W.heap.size≤k:=new_blk (v:=.slice (some ⟨W.heap.size,0,none⟩) 1 1) B1.out (fun k e=>by cases e;exact Nat.le_refl _) ha
  have hH:=H.out.new B4
  obtain ⟨g,o,rfl,hnc,hT⟩:=Tk.of_own (tr:=(x,[])::tr) (S:=fun b=>S b∨(W.heap.size≤b∧b<w4.heap.size)) ho (by rw [List.length_cons,HN.out];omega) (by simp) (fun k hk=>Or.inr ⟨N4 k hk,(Array.getElem?_eq_some_iff.1 (rr_kind ho hk).choose_spec).1⟩) (fun i y hy'=>by
   cases i with
   | zero=>
    simp only [List.getElem?_cons_zero,Option.some.injEq]at hy'
    subst hy'
    exact ⟨rfl,_,rfl,Or.inl ⟨rfl,rfl⟩⟩
   | succ i=>
    obtain ⟨h5,v,h6,h7⟩:=HY.out i y (by simpa using hy')
    have e1:([Value.int .i64 (x:Int),.slice none 0 0]++ys)[(i+1)*2]? = ys[i*2]?:=by rw [show (i+1)*2=i*2+1+1 by omega];rfl
    have e2:([Value.int .i64 (x:Int),.slice none 0 0]++ys)[(i+1)*2+1]? = ys[i*2+1]?:=by rw [show (i+1)*2+1=i*2+1+1+1 by omega];rfl
    exact ⟨e1.trans h5,v,e2.trans h6,h7.fr (Fr.of_below (S:=fun _=>False) B4) (fun _ _ _ h=>h) (fun b hb=>Or.inl hb)⟩)
  obtain ⟨h1,h2⟩:=hH.list (tr':=(x,[])::tr) (v:=.slice (some ⟨g,o,none⟩) (1+n) c4) (Or.inr ⟨g,o,c4,by rw [List.length_cons,HN.out,Nat.add_comm],by rw [List.length_cons,←HN.out];omega,hT⟩)
  refine ⟨⟨rfl,_,h1,(Fr.of_below (S:=S) B4).trans h2 (fun b hl hb=>by rcases hb with hb |hb;exact hb;omega),fun b hb=>?_⟩,B4⟩
  rcases hb with hb |hb
  ·exact Or.inl hb
  ·exact Or.inr hb.1
 have FIN:=hid fin
 clear fin
 match tr,h,hfull,HN with
 | [],h,hfull,HN=>
  obtain rfl:n=0:=HN.out
  clear h hs hy hn
  go_enter Tryz.func28,Tryz.ntmps28
  go_wp2_with ((with_reducible refine Dsk.here_op 58 ?_);refine wpList_app2 rfl (.tmp 53) (.tmp 57) el29 rfl (.slice (some ⟨W.heap.size,0,none⟩) 1 1) 1 _ rfl R1.out ao 0 c ys rfl (src2_below HS.out B1.out) (by omega) ?_;intro a4 c4 w4 ho4 hg4 ha4;have Q4:=hid (FIN.out a4 c4 w4 ho4 hg4 ha4);have k0:=keep_old Q4.out.2 c0;have kf:w4.frozen? ⟨hm,0,none⟩=false:=(by rw [World.frozen?_of_block (Q4.out.2.block hm HML.out)];exact F0.out);clear ho4 hg4 ha4)
  go_ret
  exact Q4.out.1
 | (j,ls)::r,h,hfull,HN=>
  obtain ⟨g,o,c',v,d0,hc,d1,d2,hv,hT,hgm,fz⟩:=h.first rfl
  obtain ⟨bo,cc,rfl,hlc,hsr⟩:=hv.form
  have hf:=hfull j ls r rfl
  have hn2:n=r.length+1:=HN.out
  rw [←hn2]at d0
  have e1:=c0.symm.trans d0
  simp only [Option.some.injEq,Value.slice.injEq,true_and]at e1
  obtain ⟨rfl,rfl⟩:=e1
  obtain ⟨m,hm'⟩:∃ m,m=ls.length:=⟨_,rfl⟩
  rw [←hm']at d2 hf
  have hn0:(0:Int)<(n:Int):=by omega
  have hm1:¬(m:Int)<126:=by omega
  clear h hs hy hn hfull hv hT hsr hlc hm' fz hn2 d0
  go_enter Tryz.func28,Tryz.ntmps28
  go_wp2_with ((with_reducible refine Dsk.here_op 58 ?_);refine wpList_app2 rfl (.tmp 53) (.tmp 57) el29 rfl (.slice (some ⟨W.heap.size,0,none⟩) 1 1) 1 _ rfl R1.out (some ⟨g,o,none⟩) n c ys rfl (src2_below HS.out B1.out) (by omega) ?_;intro a4 c4 w4 ho4 hg4 ha4;have Q4:=hid (FIN.out a4 c4 w4 ho4 hg4 ha4);have k0:=keep_old Q4.out.2 c0;have kf:w4.frozen? ⟨hm,0,none⟩=false:=(by rw [World.frozen?_of_block (Q4.out.2.block hm HML.out)];exact F0.out);clear ho4 hg4 ha4)
  go_ret
  exact Q4.out.1
theorem mgive_any(h:RefH W S hm tr N wd)(hl:tr.length≤100000)(hx1:2≤x)(hx:x≤N):Calls Tryz.prog 28 #[.pointer (some ⟨hm,0,none⟩),.int .i64 (x:Int)] W (DTo S hm (giveT x tr) N wd (.int .i64 0) W):=by
 match tr,h with
 | [],h=>exact mgive_new h hl hx1 hx (fun _ _ _ e=>by cases e)
 | (j,ls)::r,h=>
  by_cases hf:ls.length<126
  ·rw [show giveT x ((j,ls)::r)=(j,ls++[x])::r from if_pos hf]
   exact mgive_more h (by simp at hl;omega) hf hx1 hx
  ·rw [show giveT x ((j,ls)::r)=(x,[])::(j,ls)::r from if_neg hf]
   exact mgive_new h hl hx1 hx (fun _ _ _ e=>by cases e;omega)
theorem mtake_any(h:RefH W S hm tr N wd)(hN:N≤1000000)(hl:tr.length≤100000)(hls:∀ y∈tr,y.2.length≤1000):Calls Tryz.prog 27 #[.pointer (some ⟨hm,0,none⟩)] W (DTo S hm (takeT tr) (takeN N tr) wd (.int .i64 ((takeV N tr:Nat):Int)) W):=by
 match tr,h with
 | [],h=>exact mtake_none h hN
 | (j,ls)::r,h=>
  by_cases hf:ls = []
  ·subst hf
   rw [show takeT ((j,[])::r)=r by simp [takeT]]
   exact mtake_trunk h (by simp at hl;omega)
  ·obtain ⟨ls',v,rfl⟩:∃ ls' v,ls=ls'++[v]:=⟨ls.dropLast,ls.getLast hf,(List.dropLast_concat_getLast hf).symm⟩
   have h2:=hls _ (List.mem_cons_self)
   simp only [List.length_append,List.length_singleton]at h2
   have:=mtake_leaf h (by simp at hl;omega) (by omega)
   rw [show takeT ((j,ls'++[v])::r)=(j,ls')::r by simp [takeT],show takeV N ((j,ls'++[v])::r)=v by simp [takeV]]
   exact this
end
end
section
open Go.RowKit Go.Maps
open Dsk (gt hid undrew keep_old keep_cell lt_cell Rd op_at)
open Cch (Fr wpAnyK wpAnyK_done wp_region_K wpAnyK_ready AllReadyK)
section
variable {W W':World} {S S' E:Nat→Prop} {hm N:Nat} {tr:List (Nat×List Nat)} {wd:List Int}
def S14(b:Nat)(u v:Value)(X:World):Prop:=X.cell? ⟨b,0,none⟩=some u∧X.cell? ⟨b,1,none⟩=some v
variable {X Y:World} {v:Value}
theorem S14.fr{b:Nat}{u:Value}{E:Nat→Prop}(h:S14 b u v X)(hf:Fr E X Y)(hE:¬E b):S14 b u v Y:=⟨fr_cell hf h.1 hE,fr_cell hf h.2 hE⟩
theorem fr_gr(hg:X.grownBy Y v.ownBlock):Fr (fun b=>v.ownBlock=some b) X Y:=⟨hg.os,hg.tape,hg.output,hg.size,fun k hk hn=>hg.block k hk (fun e=>hn e.symm)⟩
theorem mall_any(h:RefH W S hm tr N wd)(hF:(flat tr).length≤100000):Calls Tryz.prog 14 #[.pointer (some ⟨hm,0,none⟩)] W fun e W'=>∃ ao cp,e=.returned (.slice ao (flat tr).length cp)∧W'.ownsRow W.heap.size 3 1 (.slice ao (flat tr).length cp) (flat tr).length (zI (flat tr))∧Below W.heap.size W W':=by
 obtain ⟨v0,h1,h2⟩:=h.is
 have hv:∃ lo c,v0=.slice lo tr.length c∧tr.length≤c∧(0<tr.length→∃ g o,lo=some ⟨g,o,none⟩∧Tk W S g o tr):=by
  rcases h2 with ⟨rfl,rfl⟩ | ⟨g,o,c,rfl,h3,h4⟩
  ·exact ⟨none,0,rfl,Nat.le_refl _,fun h=>absurd h (by simp)⟩
  ·exact ⟨_,c,rfl,h3,fun _=>⟨g,o,rfl,h4⟩⟩
 obtain ⟨lo,c,rfl,hc,hT⟩:=hv
 have c0:W.cell? ⟨hm,0,none⟩=some (.slice lo tr.length c):=by rw [cell_of h1];rfl
 have HT:=hid hT;have HFF:=hid hF
 obtain ⟨T,hTn⟩:∃ T,T=tr.length:=⟨_,rfl⟩
 rw [←hTn]at c0 hc
 have HTN:=hid hTn
 have hTF:=flat_len tr
 have HTF:=hid hTF
 have hTb:T≤100000:=by omega
 clear h h1 h2 hT hTn hTF hF
 go_enter Tryz.func14,Tryz.ntmps14
 go_wp2
 go_loopg [3,11] T (fun k v3 v11 X=>∃ (i:Nat) (ao:Option Addr) (cp m:Nat),i+k=T∧v11=.int .i64 (i:Int)∧v3=.slice ao m cp∧Hid (m=(flat (tr.take i)).length)∧Hid (X.ownsRow W.heap.size 3 1 (.slice ao m cp) m (zI (flat (tr.take i))))∧Hid (Below W.heap.size W X))
 case atStart=>exact ⟨0,none,0,0,by omega,rfl,rfl,hid rfl,hid ⟨rfl,.inl ⟨rfl,rfl⟩⟩,hid (Below.refl _ _)⟩
 case round=>
  obtain ⟨i,ao,cp,m,hik,rfl,rfl,HM,HO,HB⟩:=hrel
  by_cases hi:i<T
  ·have hi':(i:Int)<(T:Int):=by omega
   have hit:i<tr.length:=by rw [←HTN.out];exact hi
   obtain ⟨g,o,rfl,hTk⟩:=HT.out (by omega)
   obtain ⟨cur,q1,q2,q3⟩:=hTk
   obtain ⟨y,hy⟩:∃ y,tr[i]? = some y:=⟨_,List.getElem?_eq_getElem hit⟩
   obtain ⟨q4,v,q5,q6⟩:=q3 i y hy
   obtain ⟨bo,cc,rfl,hlc,hsr⟩:=q6.form
   have d0:=keep_old HB.out (show W.cell? ⟨g,o+i*2,none⟩=_ by rw [cell_of q1];exact q4)
   have d1:=keep_old HB.out (show W.cell? ⟨g,o+i*2+1,none⟩=_ by rw [cell_of q1];exact q5)
   have hfl:flat (tr.take (i+1))=flat (tr.take i)++(y.1::y.2):=by rw [List.take_add_one,hy,flat_append];simp [flat]
   have hfll:(flat tr).length=(flat (tr.take i)).length+(1+y.2.length+(flat (tr.drop (i+1))).length):=by
    conv=>lhs;rw [←List.take_append_drop (i+1) tr]
    rw [flat_append,hfl];simp;omega
   have HSR:=hid hsr;have HFL:=hid hfl;have HFLL:=hid hfll
   obtain ⟨j,hj⟩:∃ j,j=y.1:=⟨_,rfl⟩
   obtain ⟨ls,hls⟩:∃ ls,ls=y.2:=⟨_,rfl⟩
   rw [←hj]at d0 HFL
   rw [←hls]at HSR HFL HFLL d1 hlc
   obtain ⟨L,hL⟩:∃ L,L=ls.length:=⟨_,rfl⟩
   rw [←hL]at HSR d1 HFLL hlc
   have HL:=hid hL
   clear q1 q2 q3 q4 q5 q6 hsr hfl hfll hj hls hL hy
   obtain ⟨X1,hX1⟩:∃ X1,X1=wr.alloc (.cells #[.int .i64 (j:Int),.slice bo L cc] 88):=⟨_,rfl⟩
   have BX:=hid (show Below wr.heap.size wr X1 by rw [hX1];exact Below.alloc (Below.refl _ _) (Nat.le_refl _) _)
   have hs1:S14 wr.heap.size (.int .i64 (j:Int)) (.slice bo L cc) X1.drew:=by
    have e:=show X1.heap[wr.heap.size]? = some (.cells #[.int .i64 (j:Int),.slice bo L cc] 88 (0,0)) by rw [hX1];exact heap_alloc_new _ _
    exact ⟨(cell_of (W:=X1) e).trans rfl,(cell_of (W:=X1) e).trans rfl⟩
   have HX1:=hid hX1
   clear hX1
   go_upto_region 5 with fail
   rw [←HX1.out]
   refine wp_region_K (S:=S14 wr.heap.size (.int .i64 (j:Int)) (.slice bo L cc)) (fun _=>false) (by kernel_rfl) hs1 (fun hHeld=>?_)
   obtain ⟨X2,hX2⟩:∃ X2,X2=X1.drew:=⟨_,rfl⟩
   rw [←hX2]at hHeld ⊢
   have BX2:=hid (show Below wr.heap.size wr X2 by rw [hX2];exact BX.out.drew)
   have L2:=hid (show wr.heap.size<X2.heap.size from lt_cell hHeld.1)
   clear hX2
   refine gkp 0 ?_
   refine gkp 1 ?_
   refine gkt 2 ?_ (h:=by intro X hSw;obtain ⟨k0,k1⟩:=hSw;go_simp;first |done |with_reducible rfl)
   refine gkp 5 ?_
   refine gkt 6 ?_ (h:=by intro X hSw;obtain ⟨k0,k1⟩:=hSw;go_simp;first |done |with_reducible rfl)
   refine gk1 3 (fun K hK=>?_)
   go_simp
   obtain ⟨Y,hY⟩:∃ Y,Y=X2.alloc (.cells #[.int .i64 (j:Int)] 3):=⟨_,rfl⟩
   rw [←hY]
   have BA:Below X2.heap.size X2 Y:=by rw [hY];exact Below.alloc (Below.refl _ _) (Nat.le_refl _) _
   have LS:=hid (show Cch.Src Y (some ⟨X2.heap.size,0,none⟩) 1 1 [.int .i64 (j:Int)] by rw [hY];exact lit_src X2 [.int .i64 (j:Int)] 3 (by intro y hy;simp at hy;subst hy;rfl))
   have BY:=hid (gt BX2.out BA)
   have YS:=hid BA.size
   have RY:=hid (rr_fr HO.out (Fr.of_below (S:=fun _=>False) BY.out) (fun _ _ h=>h))
   have hR:S14 wr.heap.size (.int .i64 (j:Int)) (.slice bo L cc) Y:=hHeld.fr (Fr.of_below (S:=fun _=>False) BA) (fun h=>h)
   clear hY BA
   refine hK.out _ _ hR (fun hHeld=>?_)
   clear hK K hR
   (try simp only [Act.put,sA,sZ,sS])
   refine gk1 4 (fun K hK=>?_)
   refine Cch.step_app rfl (.tmp 15) (.tmp 18) el41 rfl (.slice ao m cp) m _ rfl (rr_base RY.out (Nat.zero_le _)) (some ⟨X2.heap.size,0,none⟩) 1 1 [.int .i64 (j:Int)] rfl LS.out (by have:=HM.out;have:=HFF.out;have:=HFLL.out;omega) ?_
   intro a5 c5 Z ho5 hg5 ha5
   have hR:S14 wr.heap.size (.int .i64 (j:Int)) (.slice bo L cc) Z:=hHeld.fr (fr_gr hg5) (fun e=>by have:=(rr_blk HO.out e).2;omega)
   have BZ:=hid (blw_grown2 (gt HB.out BY.out) hg5 (fun k hk=>(rr_blk HO.out hk).1))
   have NZ:=hid (show ∀ k,(Value.slice a5 (m+1) c5).ownBlock=some k→W.heap.size≤k∧k≠wr.heap.size from fun k hk=>⟨new_blk (gt HB.out BY.out) (fun k hk=>(rr_blk HO.out hk).1) ha5 k hk,fun e=>by
    cases a5 with
    | none=>cases hk
    | some a=>
     cases hk
     rcases ha5 a rfl with h |h
     ·have:=(rr_blk HO.out h).2;omega
     ·have:=BY.out.size;have:=L2.out;have h9:=BX2.out.size;have h8:=YS.out;omega⟩)
   have RZ:=hid ho5
   clear ho5 hg5 ha5 RY LS
   refine hK.out _ _ hR (fun hHeld=>?_)
   clear hK K hR
   (try simp only [Act.put,sA,sZ,sS])
   refine gk1 7 (fun K hK=>?_)
   refine Cch.step_app rfl (.tmp 19) (.tmp 21) el41 rfl (.slice a5 (m+1) c5) (m+1) _ rfl RZ.out bo L cc (zI ls) rfl (src_below HSR.out BZ.out) (by have:=HM.out;have:=HFF.out;have:=HFLL.out;omega) ?_
   intro a6 c6 V ho6 hg6 ha6
   have hR:S14 wr.heap.size (.int .i64 (j:Int)) (.slice bo L cc) V:=hHeld.fr (fr_gr hg6) (fun e=>(NZ.out _ e).2 rfl)
   have BV:=hid (blw_grown2 BZ.out hg6 (fun k hk=>(NZ.out k hk).1))
   have NV:=hid (new_blk BZ.out (fun k hk=>(NZ.out k hk).1) ha6 (n:=m+1+L) (c:=c6))
   have RV:=hid ho6
   clear ho6 hg6 ha6 RZ
   refine hK.out _ _ hR (fun hHeld=>?_)
   clear hK K hR
   (try simp only [Act.put,sA,sZ,sS])
   refine gkp 8 ?_
   refine wpAnyK_done (by kernel_rfl) ?_ _
   clear hHeld hs1
   go_wp2
   go_roundg (gk - 1)
   case measure=>omega
   case rel=>
    refine ⟨i+1,a6,c6,m+1+L,by omega,by go_num,rfl,hid ?_,hid ?_,BV⟩
    ·rw [HFL.out,List.length_append,←HM.out,List.length_cons,←HL.out];omega
    ·rw [HFL.out,zI_append]
     have:=rr_up RV.out NV.out
     rw [List.append_assoc]at this
     exact this
  ·obtain rfl:i=T:=by omega
   have hi':¬(i:Int)<(i:Int):=by omega
   go_wp2
   go_ret
   have e1:tr.take i=tr:=by rw [HTN.out,List.take_length]
   have h8:=HM.out;have h9:=HO.out
   rw [e1]at h8 h9
   subst h8
   exact ⟨ao,cp,rfl,h9,HB.out⟩
end
end
end Go.Proofs.YtgjgkpnjchflaaaGreatDoor
