/- Pages that go: shed; no statement of the seat is proved here. -/
import Derived.Test.YtfcikkechphmaaaGreatDoorW26
import Derived.Test.YtfcikkechphmaaaGreatDoorW18
set_option maxHeartbeats 16000000
set_option maxRecDepth 20000
namespace Go.Proofs.YtfcikkechphmaaaGreatDoor
namespace Cch
open Go.RowKit Go.Maps
def shedL(p:Row→Bool):Nat→List Row→List Row
 | _,[]=>[]
 | 0,l=>l
 | n+1,r::l=>if p r then shedL p n l else r::shedL p (n+1) l
theorem shedL_zero(p:Row→Bool)(l:List Row):shedL p 0 l=l:=by cases l<;>rfl
theorem shedL_nil(p:Row→Bool)(n:Nat):shedL p n [] = []:=by cases n<;>rfl
structure SI (w:World) (c:Nat) (C:Parts) (s:CS) (fv:Value) (most:Nat) (kept rest:List Nat) (g:Nat) (W:World):Prop where
 cp:∃ C',CP W c C' { s with l:=rowsOf (kept++rest) C.E }∧C'.m=C.m∧C'.h=C.h∧C'.ks=kept++rest∧∀ b,(C'.E b).row=(C.E b).row
 sub:∀ b∈kept++rest,b∈C.ks
 b0:Boxed W w.heap.size 125 (.pointer (some ⟨c,0,none⟩))
 b1:Boxed W (w.heap.size+1) 3 (.int .i64 (most:Int))
 b2:Boxed W (w.heap.size+1+1) 364 fv
 b3:Boxed W (w.heap.size+1+1+1) 3 (.int .i64 (g:Int))
 b4:Boxed W (w.heap.size+1+1+1+1) 125 (.pointer (some ⟨c,0,none⟩))
 fr:Fr (C.S c) w W
 cnt:kept.length+rest.length+g=C.ks.length
variable {kept rest:List Nat} {most g c:Nat} {fv:Value} {s:CS} {C:Parts} {w W:World}
theorem SI.sz(h:SI w c C s fv most kept rest g W):w.heap.size+5≤W.heap.size:=by have:=h.b4.lt;omega
theorem Fr.put{S:Nat→Prop}(h:Fr S w W){l:Nat}(o:Obj)(hl:w.heap.size≤l):Fr S w (W.putObj l o):=
 ⟨h.os,h.tape,h.output,by have:=h.size;simpa [World.putObj] using this,fun j hj hS=>(put_other (by omega)).trans (h.blk j hj hS)⟩
theorem SI.turn{W':World}(h:SI w c C s fv most kept rest g W)(hc:∀ k,C.S c k→k<w.heap.size)
  (hb:∀ k,k<w.heap.size+5→W'.heap[k]? = W.heap[k]?) (hf:Fr (C.S c) w W'):SI w c C s fv most kept rest g W':=by
 obtain ⟨⟨C',h1,h2,h3,h4,h5⟩,sub,b0,b1,b2,b3,b4,fr,cnt⟩:=h
 refine ⟨⟨C',h1.stay (fun k _ hk=>hb k ?_),h2,h3,h4,h5⟩,sub,(hb _ (by omega)).trans b0,(hb _ (by omega)).trans b1,(hb _ (by omega)).trans b2,(hb _ (by omega)).trans b3,(hb _ (by omega)).trans b4,hf,cnt⟩
 have:C.S c k:=by
  rcases hk with rfl |rfl |hk
  ·exact Or.inl rfl
  ·exact Or.inr (Or.inl h2)
  ·refine Or.inr (Or.inr ?_)
   rw [h3,h4]at hk
   rcases List.mem_cons.1 hk with rfl |hk
   ·simp
   ·exact List.mem_cons_of_mem _ (sub k hk)
 have:=hc k this
 omega
theorem SI.put(h:SI w c C s fv most kept rest g W)(hc:∀ k,C.S c k→k<w.heap.size){l:Nat}(o:Obj)(hl:w.heap.size+5≤l):SI w c C s fv most kept rest g (W.putObj l o):=
 h.turn hc (fun k hk=>put_other (by omega)) (h.fr.put o (by omega))
variable {k:Nat}
theorem drop_nx{ks:List Nat}{h:Nat}(hk:k<ks.length):ks.drop k=nx ks h k::ks.drop (k+1):=by
 rw [List.drop_eq_getElem_cons hk];simp [nx,List.getElem?_eq_getElem hk]
theorem getD_append_right(kept:List Nat)(ks:List Nat)(h k:Nat)(j:Nat):nx (kept++ks.drop k) h (kept.length+j)=nx ks h (k+j):=by
 simp [nx,List.getElem?_append_right,List.getElem?_drop]
theorem SI.onRow(h:SI w c C s fv most kept (C.ks.drop k) g W)(h0:k=0→kept = []):OnRow (w.heap.size+1+1+1+1) c C.h C.ks k W:=by
 obtain ⟨⟨C',h1,h2,h3,h4,h5⟩,sub,b0,b1,b2,b3,b4,fr,cnt⟩:=h
 have hmem:∀ j,k+j<C.ks.length→nx C.ks C.h (k+j)∈C'.ks:=fun j hj=>by
  rw [h4,←getD_append_right kept C.ks C.h k j]
  exact nx_in (by simp;omega)
 refine ⟨b4.cell,by rw [h1.c2,h3],⟨_,h3▸h1.rg.en C'.h (by simp)⟩,fun hk=>⟨_,h1.rg.en _ (List.mem_cons_of_mem _ (hmem 0 (by omega)))⟩,fun hk=>?_,fun hk=>?_⟩
 ·subst hk
  have e1:=h1.rg.first
  obtain rfl:=h0 rfl
  rw [h4,h3]at e1
  rw [(h3▸h1.rg.en C'.h (by simp):EntAt W C.h (C'.E C.h)).aft,e1]
  simp [ptr]
 ·have hm:=hmem 0 (by omega)
  have hl:kept.length<C'.ks.length:=by rw [h4];simp;omega
  have e1:=h1.rg.next hl
  have e2:=getD_append_right kept C.ks C.h k 0
  have e3:=getD_append_right kept C.ks C.h k 1
  simp only [Nat.add_zero]at e2 hm
  rw [h4,h3,e2,e3]at e1
  rw [(h1.rg.en _ (List.mem_cons_of_mem _ hm)).aft,e1]
  rfl
theorem SI.ents(h:SI w c C s fv most kept (C.ks.drop k) g W)(j:Nat)(hj:k≤j)(hl:j<C.ks.length):∃ y,EntAt W (nx C.ks C.h j) y∧y.row=(C.E (nx C.ks C.h j)).row:=by
 obtain ⟨⟨C',h1,h2,h3,h4,h5⟩,_⟩:=h
 obtain ⟨i,rfl⟩:∃ i,j=k+i:=⟨j - k,by omega⟩
 refine ⟨_,h1.rg.en _ (List.mem_cons_of_mem _ ?_),h5 _⟩
 rw [h4,←getD_append_right kept C.ks C.h k i]
 exact nx_in (by simp;omega)
variable {C':Parts}
theorem SI.sub_S(h:SI w c C s fv most kept rest g W)(h2:C'.m=C.m)(h3:C'.h=C.h)(h4:C'.ks=kept++rest){k:Nat}(hk:C'.S c k):C.S c k:=by
 rcases hk with rfl |rfl |hk
 ·exact Or.inl rfl
 ·exact Or.inr (Or.inl h2)
 ·refine Or.inr (Or.inr ?_)
  rw [h3,h4]at hk
  rcases List.mem_cons.1 hk with rfl |hk
  ·simp
  ·exact List.mem_cons_of_mem _ (h.sub k hk)
variable {C2:Parts} {e:Nat} {w2:World}
theorem SI.gone(h:SI w c C s fv most kept (e::rest) g W)(hc:∀ k,C.S c k→k<w.heap.size)
  (h2:C'.m=C.m) (h3:C'.h=C.h) (h4:C'.ks=kept++e::rest) (h5:∀ b,(C'.E b).row=(C.E b).row) (cp2:CP w2 c C2 { s with l:=rowsOf (kept++rest) C'.E }) (wn:Went W c e kept rest C' C2 w2) :
  SI w c C s fv most kept rest (g+1) (w2.setCell ⟨w.heap.size+1+1+1,0,none⟩ (.int .i64 ((g+1:Nat):Int))):=by
 have hin:∀ k,C'.S c k→k<w.heap.size:=fun k hk=>hc k (h.sub_S h2 h3 h4 hk)
 have hb:∀ k,w.heap.size≤k→k<W.heap.size→w2.heap[k]? = W.heap[k]?:=fun k hk hl=>wn.fr.blk k hl (fun hs=>by have:=hin k hs;omega)
 have hs:=h.sz
 have hsub:∀ b∈kept++rest,b∈C.ks:=fun b hb=>h.sub b (by
  simp only [List.mem_append,List.mem_cons]at hb ⊢
  rcases hb with h |h<;>simp [h])
 have hc2:∀ k,C2.S c k→k<w.heap.size:=fun k hk=>by
  rcases hk with rfl |rfl |hk
  ·exact hin _ (Or.inl rfl)
  ·exact hin _ (Or.inr (Or.inl wn.m))
  ·rw [wn.h,wn.ks]at hk
   refine hin _ (Or.inr (Or.inr ?_))
   rw [h4]
   simp only [List.mem_append,List.mem_cons]at hk ⊢
   rcases hk with h |h |h<;>simp [h]
 have hrows:rowsOf (kept++rest) C'.E=rowsOf (kept++rest) C.E:=rowsOf_congr (fun b _=>h5 b)
 rw [hrows]at cp2
 refine ⟨⟨C2,cp2.stay (fun k _ hk=>set_heap _ _ _ _ _ (by have:=hc2 k hk;omega)),wn.m.trans h2,wn.h.trans h3,wn.ks,fun b=>(wn.rows b).trans (h5 b)⟩,hsub,?_,?_,?_,?_,?_,?_,?_⟩
 ·exact (set_heap _ _ _ _ _ (by omega)).trans ((hb _ (by omega) (by omega)).trans h.b0)
 ·exact (set_heap _ _ _ _ _ (by omega)).trans ((hb _ (by omega) (by omega)).trans h.b1)
 ·exact (set_heap _ _ _ _ _ (by omega)).trans ((hb _ (by omega) (by omega)).trans h.b2)
 ·exact Boxed.set _ ((hb _ (by omega) (by omega)).trans h.b3)
 ·exact (set_heap _ _ _ _ _ (by omega)).trans ((hb _ (by omega) (by omega)).trans h.b4)
 ·exact (h.fr.trans wn.fr (fun j _ hj=>h.sub_S h2 h3 h4 hj)).set (Or.inr (by omega)) _
 ·have:=h.cnt;simp at this ⊢;omega
theorem SI.two{v:Value}(h:SI w c C s fv most kept (e::rest) g W)(hc:∀ k,C.S c k→k<w.heap.size)
  (h2:C'.m=C.m) (h3:C'.h=C.h) (h4:C'.ks=kept++e::rest) (wn:Went W c e kept rest C' C2 w2) (m:Mark (w.heap.size+5) W) (r:Rec (w.heap.size+5) W):TwoKept (w.heap.size+5) W (w2.setCell ⟨w.heap.size+1+1+1,0,none⟩ v):=by
 obtain ⟨r,hr⟩:=r
 have l1:w.heap.size+5<W.heap.size:=(Array.getElem?_eq_some_iff.1 m).1
 have l2:w.heap.size+5+1<W.heap.size:=(Array.getElem?_eq_some_iff.1 hr).1
 have hb:∀ k,w.heap.size≤k→k<W.heap.size→w2.heap[k]? = W.heap[k]?:=fun k hk hl=>wn.fr.blk k hl (fun hs=>by have:=hc k (h.sub_S h2 h3 h4 hs);omega)
 exact ⟨(set_heap _ _ _ _ _ (by omega)).trans (hb _ (by omega) l1),(set_heap _ _ _ _ _ (by omega)).trans (hb _ (by omega) l2)⟩
theorem SI.cells(h:SI w c C s fv most kept (e::rest) g W)(hc:∀ k,C.S c k→k<w.heap.size)
  (h2:C'.m=C.m) (h3:C'.h=C.h) (h4:C'.ks=kept++e::rest) (wn:Went W c e kept rest C' C2 w2) :
  w2.cell? ⟨w.heap.size+1+1+1,0,none⟩=some (.int .i64 (g:Int))∧w2.cell? ⟨w.heap.size+1,0,none⟩=some (.int .i64 (most:Int))∧w2.frozen? ⟨w.heap.size+1+1+1,0,none⟩=false:=by
 have hs:=h.sz
 have hb:∀ k,w.heap.size≤k→k<W.heap.size→w2.heap[k]? = W.heap[k]?:=fun k hk hl=>wn.fr.blk k hl (fun hs=>by have:=hc k (h.sub_S h2 h3 h4 hs);omega)
 have e3:Boxed w2 (w.heap.size+1+1+1) 3 (.int .i64 (g:Int)):=(hb _ (by omega) (by omega)).trans h.b3
 have e1:Boxed w2 (w.heap.size+1) 3 (.int .i64 (most:Int)):=(hb _ (by omega) (by omega)).trans h.b1
 exact ⟨e3.cell,e1.cell,e3.frozen⟩
def SLoop(w:World)(c:Nat)(C:Parts)(s:CS)(fv:Value)(most:Nat)(p:Row→Bool)(k:Nat)(W:World):Prop:=
 ∃ kept g,SI w c C s fv most kept (C.ks.drop k) g W∧g<most∧rowsOf kept C.E++shedL p (most - g) (rowsOf (C.ks.drop k) C.E)=shedL p most s.l
def SOut(w:World)(c:Nat)(C:Parts)(s:CS)(fv:Value)(most:Nat)(p:Row→Bool)(W:World):Prop:=
 ∃ kept rest g,SI w c C s fv most kept rest g W∧rowsOf (kept++rest) C.E=shedL p most s.l
theorem rows_append(xs ys:List Nat)(E:Nat→Ent):rowsOf (xs++ys) E=rowsOf xs E++rowsOf ys E:=by simp [rowsOf]
variable {l:List Row} {r:Row} {m:Nat}
theorem shed_no{p:Row→Bool}(hm:0<m)(h:p r=false):shedL p m (r::l)=r::shedL p m l:=by
 obtain ⟨n,rfl⟩:∃ n,m=n+1:=⟨m - 1,by omega⟩
 simp [shedL,h]
theorem shed_yes{p:Row→Bool}(hm:0<m)(h:p r=true):shedL p m (r::l)=shedL p (m - 1) l:=by
 obtain ⟨n,rfl⟩:∃ n,m=n+1:=⟨m - 1,by omega⟩
 simp [shedL,h]
theorem shed_end{l:Nat}{p:Row→Bool}{o:Obj}(hc:∀ k,C.S c k→k<w.heap.size)(h0:CP w c C s)(h:SI w c C s fv most kept rest g W)
  (hres:rowsOf (kept++rest) C.E=shedL p most s.l) (hl:w.heap.size+5≤l) :
  Ending.returned (Value.int .i64 (g:Int))=.returned (.int .i64 ((s.l.length - (shedL p most s.l).length:Nat):Int)) ∧
   ∃ C',CP (W.putObj l o) c C' { s with l:=shedL p most s.l }∧C'.m=C.m∧C'.h=C.h∧(∀ b∈C'.ks,b∈C.ks)∧Fr (C.S c) w (W.putObj l o):=by
 have h1:=h.put hc o hl
 obtain ⟨C',h2,h3,h4,h5,h6⟩:=h1.cp
 rw [hres]at h2
 refine ⟨?_,C',h2,h3,h4,fun b hb=>h.sub b (h5▸hb),h1.fr⟩
 have e1:(shedL p most s.l).length=kept.length+rest.length:=by rw [←hres];simp [rowsOf]
 have e2:s.l.length=C.ks.length:=by rw [h0.ls];simp
 have e3:=h.cnt
 rw [e1,e2,←e3]
 congr 2
 omega
attribute [local go_sem] Oper.semAt_some
theorem shed52(c most eb:Nat)(C:Parts)(s:CS)(p:Row→Bool)(w:World)(h:CP w c C s)(hlen:C.ks.length≤1000000)(hm:1≤most)(hm2:most≤1000000)
  (kw:∀ (W:World) (k:Nat),k<C.ks.length→Fr (C.S c) w W→(∀ j,k≤j→j<C.ks.length→∃ y,EntAt W (nx C.ks C.h j) y∧y.row=(C.E (nx C.ks C.h j)).row) →
   Calls Tryz.prog 290 (#[.pointer (some ⟨nx C.ks C.h k,0,none⟩)]++#[.pointer (some ⟨eb,0,none⟩)]) W fun e w'=>e=.returned (.bool (p (C.E (nx C.ks C.h k)).row))∧w'=W) :
  Calls Tryz.prog 289 #[.pointer (some ⟨c,0,none⟩),.int .i64 (most:Int),.func (.func 290) #[] #[.pointer (some ⟨eb,0,none⟩)]] w fun e w'=>e=.returned (.int .i64 ((s.l.length - (shedL p most s.l).length:Nat):Int)) ∧
   ∃ C',CP w' c C' { s with l:=shedL p most s.l }∧C'.m=C.m∧C'.h=C.h∧(∀ b∈C'.ks,b∈C.ks)∧Fr (C.S c) w w':=by
 have k2:=hid (row_any c)
 have hmi:¬(most:Int)≤0:=by omega
 have hmi2:0<most:=hm
 have HH:=hid h;have KW:=hid kw
 have hSlt:Hid (∀ k,C.S c k→k<w.heap.size):=hid (fun k hk=>h.lt hk)
 clear h kw
 refine (callsIn_wide (n:=3)).1 ?_
 refine callsIn_of_wp_marks Tryz.func289 rfl trivial ?_ rfl
 simp only [Tryz.ntmps289,List.size_toArray,List.length_cons,List.length_nil,Nat.reduceAdd,Nat.reduceSub,Array.replicate_succ,Array.replicate_zero,List.push_toArray,List.append_toArray,List.nil_append,List.cons_append]
 gi_wp2_with (refine ⟨trivial,?_⟩;gi_at_call 324;refine (callsIn_wide.2 (k2.out _)).mono ?_;rintro e w1 ⟨rfl,rfl⟩)
 have hb0:=Boxed.new w 125 (.pointer (some ⟨c,0,none⟩))
 have hb1:=Boxed.new (w.alloc (.cells #[.pointer (some ⟨c,0,none⟩)] 125)) 3 (.int .i64 (most:Int))
 have hb2:=Boxed.new ((w.alloc (.cells #[.pointer (some ⟨c,0,none⟩)] 125)).alloc (.cells #[.int .i64 (most:Int)] 3)) 364 (.func (.func 290) #[] #[.pointer (some ⟨eb,0,none⟩)])
 have hb3:=Boxed.new (((w.alloc (.cells #[.pointer (some ⟨c,0,none⟩)] 125)).alloc (.cells #[.int .i64 (most:Int)] 3)).alloc (.cells #[.func (.func 290) #[] #[.pointer (some ⟨eb,0,none⟩)]] 364)) 3 (.int .i64 0)
 have hb4:=Boxed.new ((((w.alloc (.cells #[.pointer (some ⟨c,0,none⟩)] 125)).alloc (.cells #[.int .i64 (most:Int)] 3)).alloc (.cells #[.func (.func 290) #[] #[.pointer (some ⟨eb,0,none⟩)]] 364)).alloc (.cells #[.int .i64 0] 3)) 125 (.pointer (some ⟨c,0,none⟩))
 simp only [World.size_alloc]at hb1 hb2 hb3 hb4
 have hbl:Below w.heap.size w (((((w.alloc (.cells #[.pointer (some ⟨c,0,none⟩)] 125)).alloc (.cells #[.int .i64 (most:Int)] 3)).alloc (.cells #[.func (.func 290) #[] #[.pointer (some ⟨eb,0,none⟩)]] 364)).alloc (.cells #[.int .i64 0] 3)).alloc (.cells #[.pointer (some ⟨c,0,none⟩)] 125)):=
  (((((Below.refl _ w).alloc (Nat.le_refl _) _).alloc (by simp) _).alloc (by simp;omega) _).alloc (by simp;omega) _).alloc (by simp;omega) _
 have hI0:SI w c C s (.func (.func 290) #[] #[.pointer (some ⟨eb,0,none⟩)]) most [] C.ks 0 (((((w.alloc (.cells #[.pointer (some ⟨c,0,none⟩)] 125)).alloc (.cells #[.int .i64 (most:Int)] 3)).alloc (.cells #[.func (.func 290) #[] #[.pointer (some ⟨eb,0,none⟩)]] 364)).alloc (.cells #[.int .i64 0] 3)).alloc (.cells #[.pointer (some ⟨c,0,none⟩)] 125)):=by
  refine ⟨⟨C,?_,rfl,rfl,rfl,fun _=>rfl⟩,fun b hb=>hb,(((hb0.alloc _).alloc _).alloc _).alloc _,((hb1.alloc _).alloc _).alloc _,(hb2.alloc _).alloc _,hb3.alloc _,hb4,Fr.of_below hbl,by simp⟩
  have h1:=HH.out.later hbl
  have e1:s.l=rowsOf ([]++C.ks) C.E:=HH.out.ls
  rw [←e1];exact h1
 obtain ⟨W0,hW0⟩:∃ W0,W0=(((((w.alloc (.cells #[.pointer (some ⟨c,0,none⟩)] 125)).alloc (.cells #[.int .i64 (most:Int)] 3)).alloc (.cells #[.func (.func 290) #[] #[.pointer (some ⟨eb,0,none⟩)]] 364)).alloc (.cells #[.int .i64 0] 3)).alloc (.cells #[.pointer (some ⟨c,0,none⟩)] 125)):=⟨_,rfl⟩
 have hsz:W0.heap.size=w.heap.size+5:=by rw [hW0];simp
 rw [←hW0]at hI0 ⊢
 clear hW0 hb0 hb1 hb2 hb3 hb4 hbl
 refine range_nat (gf:=333) (lb:=#[.pointer (some ⟨w.heap.size+1+1+1+1,0,none⟩)]) rfl (enters_of Tryz.func333 (by kernel_rfl) rfl) C.ks.length (fun k=>.pointer (some ⟨nx C.ks C.h k,0,none⟩)) rfl
  (fun k W=>SLoop w c C s (.func (.func 290) #[] #[.pointer (some ⟨eb,0,none⟩)]) most p k W) (fun x W=>x=.exit 0∧SOut w c C s (.func (.func 290) #[] #[.pointer (some ⟨eb,0,none⟩)]) most p W) ?hI ?hX ?h0 ?hseq
  (fun k=>{ tmps:=#[Value.pointer (some ⟨c,0,none⟩),.int .i64 (most:Int),.func (.func 290) #[] #[.pointer (some ⟨eb,0,none⟩)],.pointer (some ⟨w.heap.size,0,none⟩),.pointer (some ⟨w.heap.size+1,0,none⟩),.pointer (some ⟨w.heap.size+1+1,0,none⟩),.int .i64 0,.pointer (some ⟨w.heap.size+1+1+1,0,none⟩),.pointer (some ⟨nx C.ks C.h k,0,none⟩),.int .i64 (most:Int),.bool false,.pointer (some ⟨c,0,none⟩),.func (.func 333) #[] #[.pointer (some ⟨w.heap.size+1+1+1+1,0,none⟩)],.pointer (some ⟨nx C.ks C.h k,0,none⟩),undef,undef,undef,undef,undef,undef,undef,undef,undef,undef,undef,undef],defers:=[] }) ?assign ?body ?done ?stop
 case hI=>
  rintro k W l o o' h1 _ _ _ ⟨kept,g,h5,h6⟩
  exact ⟨kept,g,h5.put hSlt.out o' (by omega),h6⟩
 case hX=>
  rintro x W l o o' h1 _ _ _ ⟨rfl,kept,rest,g,h5,h6⟩
  exact ⟨rfl,kept,rest,g,h5.put hSlt.out o' (by omega),h6⟩
 case h0=>
  intro W hb _
  refine ⟨[],0,(hI0.turn hSlt.out (fun k hk=>hb.block k (by omega)) (hI0.fr.trans (T:=fun _=>False) ⟨hb.os,hb.tape,hb.output,hb.size,fun k hk _=>hb.block k hk⟩ (fun _ _ h=>h.elim))),hm,?_⟩
  have e1:s.l=rowsOf C.ks C.E:=HH.out.ls
  rw [e1];rfl
 case hseq=>
  intro l J Jx W hJI hY hJ0
  refine row1_in 2 (w.heap.size+1+1+1+1) c C.h l C.ks HH.out.rg.nd J Jx (fun k W hj=>?_) hY W hJ0
  obtain ⟨kept,g,h5,h6⟩:=hJI k W hj
  exact h5.onRow (fun hk=>List.eq_nil_of_length_eq_zero (by have:=h5.cnt;rw [List.length_drop]at this;omega))
 case assign=>
  intro l k W K hK
  gi_wp2
  exact hK
 case body=>
  rintro l k W hk ⟨kept,g,hS,hg,hres⟩ hM hR
  rw [hsz]at hM hR ⊢
  have kw:=hid (KW.out W k hk hS.fr hS.ents)
  have c0:=hS.b0.cell;have c1:=hS.b1.cell;have c2:=hS.b2.cell;have c3:=hS.b3.cell;have f3:=hS.b3.frozen
  have hds:=drop_nx (h:=C.h) hk
  have HS:=hid hS;have HRES:=hid hres;have HM:=hid hM;have HR:=hid hR;have HD:=hid hds
  obtain ⟨C',h1,h2,h3,h4,h5⟩:=hS.cp
  rw [hds]at h1 h4
  have hSg:SI w c C s (.func (.func 290) #[] #[.pointer (some ⟨eb,0,none⟩)]) most kept (nx C.ks C.h k::C.ks.drop (k+1)) g W:=by rw [←hds];exact hS
  have HSg:=hid hSg
  have hgm:¬g=most:=by omega
  have hgm2:¬(g:Int)=(most:Int):=by omega
  have hgw:IntKind.i64.wrap ((g:Int)+1)=((g+1:Nat):Int):=by rw [IntWalk.i64_in _ ⟨by omega,by omega⟩];omega
  have e1:rowsOf (nx C.ks C.h k::C.ks.drop (k+1)) C.E=(C.E (nx C.ks C.h k)).row::rowsOf (C.ks.drop (k+1)) C.E:=rfl
  have HE1:=hid e1
  clear hS hres hM hR hds hSg e1
  cases hp:p (C.E (nx C.ks C.h k)).row
  ·rw [hp]at kw
   have hend:Hid (SLoop w c C s (.func (.func 290) #[] #[.pointer (some ⟨eb,0,none⟩)]) most p (k+1) W):=by
    obtain ⟨_,sub,b0,b1,b2,b3,b4,fr,cnt⟩:=HSg.out
    refine hid ⟨kept++[nx C.ks C.h k],g,⟨⟨C',?_,h2,h3,by rw [h4];simp,h5⟩,fun b hb=>sub b (by simpa using hb),b0,b1,b2,b3,b4,fr,by simp at cnt ⊢;omega⟩,hg,?_⟩
    ·rw [List.append_assoc];exact h1
    ·rw [←HRES.out,HD.out,HE1.out,shed_no (by omega) hp,rows_append];simp [rowsOf]
   clear h1 h2 h3 h4 h5
   gi_wp2_with (refine ⟨trivial,?_⟩;gi_at_call 290;refine (CallsIn.inRound l (callsIn_wide.2 kw.out)).mono ?_;rintro e w1 ⟨rfl,h0⟩;obtain rfl:=h0.symm)
   obtain ⟨r,hr⟩:=HR.out
   exact ⟨⟨rfl,rfl⟩,hend.out⟩
  ·rw [hp]at kw
   have kr:=hid (remove_cp c (nx C.ks C.h k) kept (C.ks.drop (k+1)) C' _ W h1 h4)
   have H2:=hid h2;have H3:=hid h3;have H4:=hid h4;have H5:=hid h5
   have hsl:=HS.out.sz
   have hin:∀ k,C'.S c k→k<w.heap.size:=fun k hk=>hSlt.out k (HSg.out.sub_S h2 h3 h4 hk)
   have HIN:=hid hin
   clear h1 h2 h3 h4 h5 hin
   rcases Nat.lt_or_ge (g+1) most with hlt |hge
   ·have hg1:¬g+1=most:=by omega
    have hg2:¬(g:Int)+1=(most:Int):=by omega
    have hg3:¬((g+1:Nat):Int)=(most:Int):=by omega
    gi_wp2_with (first |(refine ⟨trivial,?_⟩;gi_at_call 290;refine (CallsIn.inRound l (callsIn_wide.2 kw.out)).mono ?_;rintro e w1 ⟨rfl,h0⟩;obtain rfl:=h0.symm) |(refine ⟨trivial,?_⟩;gi_at_call 325;refine (CallsIn.inRound l (callsIn_wide.2 kr.out)).mono ?_;rintro e w2 ⟨rfl,C2,hcp2,hwn⟩;obtain ⟨d3,d1,g3⟩:=HSg.out.cells hSlt.out H2.out H3.out H4.out hwn;have HC2:=hid hcp2;have HW2:=hid hwn;clear hcp2 hwn))
    refine ⟨HSg.out.two hSlt.out H2.out H3.out H4.out HW2.out HM.out HR.out,kept,g+1,HSg.out.gone hSlt.out H2.out H3.out H4.out H5.out HC2.out HW2.out,hlt,?_⟩
    rw [←HRES.out,HD.out,HE1.out,shed_yes (by omega) hp,Nat.sub_sub]
   ·have hg1:g+1=most:=by omega
    have hg2:(g:Int)+1=(most:Int):=by omega
    have hg3:((g+1:Nat):Int)=(most:Int):=by omega
    gi_wp2_with (first |(refine ⟨trivial,?_⟩;gi_at_call 290;refine (CallsIn.inRound l (callsIn_wide.2 kw.out)).mono ?_;rintro e w1 ⟨rfl,h0⟩;obtain rfl:=h0.symm) |(refine ⟨trivial,?_⟩;gi_at_call 325;refine (CallsIn.inRound l (callsIn_wide.2 kr.out)).mono ?_;rintro e w2 ⟨rfl,C2,hcp2,hwn⟩;obtain ⟨d3,d1,g3⟩:=HSg.out.cells hSlt.out H2.out H3.out H4.out hwn;have HC2:=hid hcp2;have HW2:=hid hwn;clear hcp2 hwn))
    refine ⟨HSg.out.two hSlt.out H2.out H3.out H4.out HW2.out HM.out HR.out,rfl,kept,C.ks.drop (k+1),g+1,(by have q:=HSg.out.gone hSlt.out H2.out H3.out H4.out H5.out HC2.out HW2.out;rw [show ((g+1:Nat):Int)=(most:Int) by omega]at q;exact q),?_⟩
    rw [←HRES.out,HD.out,HE1.out,shed_yes (by omega) hp,show most - g - 1=0 by omega,shedL_zero,rows_append]
 case done=>
  rintro W ⟨kept,g,hS,hg,hres⟩ hM
  rw [List.drop_length]at hS hres
  have hO:SOut w c C s (.func (.func 290) #[] #[.pointer (some ⟨eb,0,none⟩)]) most p W:=⟨kept,[],g,hS,by rw [←hres,rows_append,show rowsOf [] C.E = [] from rfl,shedL_nil]⟩
  have c3:=hS.b3.cell
  have HS:=hid hS;have HM:=hid hM;have HRES:=hid hres
  clear hS hM hres hO
  gi_wp2
  refine ⟨by simp,.inl ⟨_,_,rfl,run_takeDeferred HM.out,?_⟩⟩
  refine ⟨_,results_tmp rfl _ _ _,?_⟩
  exact shed_end hSlt.out HH.out HS.out (by rw [←HRES.out,rows_append,show rowsOf [] C.E = [] from rfl,shedL_nil]) (by rw [hsz];exact Nat.le_refl _)
 case stop=>
  rintro x W ⟨rfl,kept,rest,g,hS,hres⟩ hM
  have c3:=hS.b3.cell
  have HS:=hid hS;have HM:=hid hM;have HRES:=hid hres
  clear hS hM hres
  gi_wp2
  refine ⟨by simp,.inl ⟨_,_,rfl,run_takeDeferred HM.out,?_⟩⟩
  refine ⟨_,results_tmp rfl _ _ _,?_⟩
  exact shed_end hSlt.out HH.out HS.out HRES.out (by rw [hsz];exact Nat.le_refl _)
end Cch
namespace Cch
open Go.RowKit Go.Maps
def p52(k:Int)(r:Row):Bool:=decide (r.page≠k)&&(decide (r.pins=0)&&!r.dirty)
theorem which52_same(e eb:Nat)(w:World)(hc:w.cell? ⟨eb,0,none⟩=some (.pointer (some ⟨e,0,none⟩))) :
  Calls Tryz.prog 290 #[.pointer (some ⟨e,0,none⟩),.pointer (some ⟨eb,0,none⟩)] w fun r w'=>r=.returned (.bool false)∧w'=w:=by
 have h1:=ptr_eq w e
 go_enter Tryz.func290,Tryz.ntmps290
 go_wp2
 go_ret
 exact ⟨rfl,rfl⟩
theorem which52_else(b e eb:Nat)(x y:Ent)(w:World)(hb:EntAt w b x)(he:EntAt w e y)(hne:b≠e)(hc:w.cell? ⟨eb,0,none⟩=some (.pointer (some ⟨e,0,none⟩))) :
  Calls Tryz.prog 290 #[.pointer (some ⟨b,0,none⟩),.pointer (some ⟨eb,0,none⟩)] w fun r w'=>r=.returned (.bool (decide (x.row.pins=0)&&!x.row.dirty))∧w'=w:=by
 have h1:=ptr_ne hb he hne
 have c1:=hb.pins;have c2:=hb.dirty
 clear hb he
 rcases Nat.eq_zero_or_pos x.row.pins with hz |hz
 ·rw [hz]at c1 ⊢
  simp only [Int.ofNat_zero]at c1
  cases hd:x.row.dirty
  ·rw [hd]at c2
   go_enter Tryz.func290,Tryz.ntmps290
   go_wp2
   go_ret
   exact ⟨rfl,rfl⟩
  ·rw [hd]at c2
   go_enter Tryz.func290,Tryz.ntmps290
   go_wp2
   go_ret
   exact ⟨rfl,rfl⟩
 ·have h2:¬x.row.pins=0:=by omega
  have h3:¬(x.row.pins:Int)=0:=by omega
  have e1:(decide (x.row.pins=0)&&!x.row.dirty)=false:=by simp [h2]
  rw [e1]
  go_enter Tryz.func290,Tryz.ntmps290
  go_wp2
  go_ret
  exact ⟨rfl,rfl⟩
variable {x:Ent} {e:Nat}
theorem chain_upd{E:Nat→Ent}(hb:x.bef=(E e).bef)(ha:x.aft=(E e).aft){l:List Nat}(h:Chain E l):Chain (upd E e x) l:=by
 refine h.stay (fun b _=>?_) (fun b _=>?_)
 ·unfold upd;split
  ·rename_i h1;rw [h1];exact ha
  ·rfl
 ·unfold upd;split
  ·rename_i h1;rw [h1];exact hb
  ·rfl
variable {s:CS} {C:Parts} {c:Nat} {w w':World}
theorem CP.turn(h:CP w c C s)(he:e∈C.ks){x:Ent}(hx:EntAt w' e x)(hb:x.bef=(C.E e).bef)(ha:x.aft=(C.E e).aft)(hp:x.row.page=(C.E e).row.page)
  (hblk:∀ k,k<w.heap.size→C.S c k→k≠e→w'.heap[k]? = w.heap[k]?):CP w' c { C with E:=upd C.E e x } { s with l:=rowsOf C.ks (upd C.E e x) }:=by
 have hch:e≠c:=fun h0=>h.nc (h0▸List.mem_cons_of_mem _ he)
 have hcm:C.m≠e:=fun h0=>h.nm (h0▸List.mem_cons_of_mem _ he)
 have hpg:∀ b,((upd C.E e x) b).row.page=(C.E b).row.page:=fun b=>by
  unfold upd;split
  ·rename_i h1;rw [h1];exact hp
  ·rfl
 have hpo:pagesOf C.ks (upd C.E e x)=pagesOf C.ks C.E:=List.map_congr_left (fun b _=>hpg b)
 refine CP.mk' ((hblk c h.clt (Or.inl rfl) hch.symm).trans h.hd) ?_ ⟨fun b hb=>?_,chain_upd hb ha h.rg.ch,h.rg.nd⟩ rfl (by show (pagesOf C.ks (upd C.E e x)).Nodup;rw [hpo];exact h.pn) ?_ h.rm
 ·refine MapAt.imp (h.mp.stay (hblk _ h.mp.lt (Or.inr (Or.inl rfl)) hcm)) rfl (fun k _=>?_)
  show lk C.ks C.E k=lk C.ks (upd C.E e x) k
  unfold lk
  congr 1
  funext b
  rw [hpg b]
 ·by_cases hbe:b=e
  ·subst hbe;show EntAt w' b (upd C.E b x b);rw [upd_same];exact hx
  ·show EntAt w' b (upd C.E e x b)
   rw [upd_other _ _ hbe]
   exact (h.rg.en b hb).stay (hblk b (h.rg.en b hb).lt (Or.inr (Or.inr hb)) hbe)
 ·intro r hr
  obtain ⟨b,hb,rfl⟩:=List.mem_map.1 hr
  have:=h.wf (C.E b).row (by rw [h.ls];exact List.mem_map.2 ⟨b,hb,rfl⟩)
  rw [hpg b]
  exact this
theorem CP.hits(h:CP w c C s)(hit miss:Nat)(hd:w'.heap[c]? = some (.cells (hdC C.m C.h s.room hit miss).toArray 242 (0,0)))(hblk:∀ k,k<w.heap.size→C.S c k→k≠c→w'.heap[k]? = w.heap[k]?) :
  CP w' c C { s with hit:=hit,miss:=miss }:=
 ⟨hd,h.mp.stay (hblk _ h.mp.lt (Or.inr (Or.inl rfl)) h.mc),h.rg.stay (fun b hb=>hblk b (h.rg.en b hb).lt (Or.inr (Or.inr hb)) (fun h0=>h.nc (h0▸hb))),h.ls,h.pg,h.wf,h.rm⟩
theorem EntAt.copy(h:EntAt w e x){b:List Nat}(hb:b.length=512) :
  EntAt (w.setRow e ((cellsE x).take 1++(bs b++(cellsE x).drop (1+(bs b).length))).toArray) e (x.wBytes b)∧∀ k,k≠e→(w.setRow e ((cellsE x).take 1++(bs b++(cellsE x).drop (1+(bs b).length))).toArray).heap[k]? = w.heap[k]?:=by
 have e1:(cellsE x).take 1++(bs b++(cellsE x).drop (1+(bs b).length))=cellsE (x.wBytes b):=by
  have e2:(cellsE x).drop (1+(bs b).length)=tailE x:=by
   rw [bs_length,hb,Nat.add_comm,cellsE,List.drop_succ_cons,List.drop_append_of_le_length (by rw [bs_length,h.len];exact Nat.le_refl _),List.drop_of_length_le (by rw [bs_length,h.len];exact Nat.le_refl _),List.nil_append]
  rw [e2]
  rfl
 rw [e1]
 refine ⟨⟨?_,hb⟩,fun k hk=>?_⟩
 ·exact setRow_heap _ _ _ _ _ _ h.blk
 ·exact setRow_other _ _ _ _ hk
end Cch
namespace Cch
open Go.RowKit Go.Maps
theorem clone_any(b o n cap:Nat)(xs:List Nat)(w:World)(hr:Rd w (some ⟨b,o,none⟩) n cap xs)(hn:n≤1000000) :
  Calls Tryz.prog 173 #[.slice (some ⟨b,o,none⟩) n cap] w fun e w'=>∃ ao cap',e=.returned (.slice ao n cap')∧w'.ownsRow w.heap.size 5 1 (.slice ao n cap') n (bs xs)∧Below w.heap.size w w':=by
 have hb0:Below w.heap.size w (w.alloc (.cells #[] 5)):=(Below.refl _ w).alloc (Nat.le_refl _) _
 have hr0:=hid (hr.keep hb0)
 have ho0:(w.alloc (.cells #[] 5)).ownsRow w.heap.size 5 1 (.slice (some ⟨w.heap.size,0,none⟩) 0 0) 0 (bs []):=World.ownsRow_made w #[] 0 (Nat.le_refl _) (by decide) rfl
 have HO:=hid ho0;have HB:=hid hb0
 have hnil:(binOp .eql 48 (.slice (some ⟨b,o,none⟩) n cap) (.slice none 0 0)).run Tryz.prog w=.ok (.bool false) w:=by
  have h2:∀ d:Nat,(Op.equalIn (d+1) 48 (.slice (some ⟨b,o,none⟩) n cap) (.slice none 0 0)).run Tryz.prog w=.ok false w:=fun d=>by simp [Op.equalIn,run_underlying Tryz.underlying48]
  simp only [binOp]
  simp [Op.equal,Op.maxDepth,h2 9999]
 clear hr ho0 hb0
 go_enter Tryz.func173,Tryz.ntmps173
 go_wp2_with ((with_reducible refine here_op 7 ?_);refine wpList_append_rd rfl (.tmp 5) (.tmp 6) rfl w.heap.size _ 0 [] rfl HO.out _ n cap xs rfl hr0.out (by omega) (by simp) ?_;intro v' w2 ho2 hb2;have HO2:=hid ho2;have HB2:=hid hb2;clear ho2 hb2)
 go_ret
 obtain ⟨ao,cap',e1,_,_⟩:=rd_owned HO2.out
 subst e1
 simp only [Nat.zero_add,List.nil_append]at HO2 ⊢
 exact ⟨ao,cap',rfl,HO2.out,HB.out.trans HB2.out⟩
def CS.find(s:CS)(k:Int):Option Row:=s.l.find? (fun r=>r.page == k)
def CS.others(s:CS)(k:Int):List Row:=s.l.filter (fun r=>r.page != k)
variable {s:CS} {C:Parts} {c:Nat} {w:World}
theorem CP.find(h:CP w c C s)(k:Int):s.find k=(lk C.ks C.E k).map (fun b=>(C.E b).row):=by
 unfold CS.find lk
 rw [h.ls,List.find?_map]
 rfl
theorem CP.find_some(h:CP w c C s){k:Int}{b:Nat}(hb:lk C.ks C.E k=some b):s.find k=some (C.E b).row:=by rw [h.find,hb];rfl
theorem CP.find_none(h:CP w c C s){k:Int}(hb:lk C.ks C.E k=none):s.find k=none:=by rw [h.find,hb];rfl
def CS.peek(s:CS)(k:Int):Option (List Nat):=(s.find k).map Row.bytes
def Bytes(o:Option (List Nat))(B:Nat)(w':World)(e:Ending):Prop:=
 match o with
 | none=>e=.returned (.tuple #[.slice none 0 0,.bool false])
 | some x=>x.length=512∧∃ ao cap,e=.returned (.tuple #[.slice ao 512 cap,.bool true])∧w'.ownsRow B 5 1 (.slice ao 512 cap) 512 (bs x)
end Cch
namespace Cch
open Go.RowKit Go.Maps
structure Step (w w':World) (c:Nat) (C C':Parts) (s':CS):Prop where
 cp:CP w' c C' s'
 fr:Fr (C.S c) w w'
 gr:∀ k,C'.S c k→C.S c k∨w.heap.size≤k
variable {s:CS} {C:Parts} {c:Nat} {w:World}
theorem others_of(h:CP w c C s){k:Int}{e:Nat}(he:lk C.ks C.E k=some e){xs ys:List Nat}(hks:C.ks=xs++e::ys):s.others k=rowsOf (xs++ys) C.E:=by
 have h1:=(lk_iff h.pn).1 he
 have hpn:=h.pn
 rw [hks]at hpn
 simp only [pagesOf,List.map_append,List.map_cons]at hpn
 have n1:=List.nodup_append.1 hpn
 have n2:=List.nodup_cons.1 n1.2.1
 have ex:∀ x∈xs,((C.E x).row.page != k)=true:=fun x hx=>by
  have:=n1.2.2 _ (List.mem_map.2 ⟨x,hx,rfl⟩) (C.E e).row.page (by simp)
  rw [h1.2]at this
  simpa using this
 have ey:∀ x∈ys,((C.E x).row.page != k)=true:=fun x hx=>by
  have:(C.E x).row.page≠k:=fun h0=>n2.1 (List.mem_map.2 ⟨x,hx,by rw [h0,h1.2]⟩)
  simpa using this
 unfold CS.others
 rw [h.ls,hks]
 simp only [rowsOf,List.map_append,List.map_cons,List.filter_append,List.filter_cons,h1.2,bne_self_eq_false,if_false,Bool.false_eq_true]
 congr 1
 ·refine List.filter_eq_self.2 (fun r hr=>?_)
  obtain ⟨x,hx,rfl⟩:=List.mem_map.1 hr
  exact ex x hx
 ·refine List.filter_eq_self.2 (fun r hr=>?_)
  obtain ⟨x,hx,rfl⟩:=List.mem_map.1 hr
  exact ey x hx
theorem others_none(h:CP w c C s){k:Int}(he:lk C.ks C.E k=none):s.others k=s.l:=by
 refine List.filter_eq_self.2 (fun r hr=>?_)
 rw [h.ls]at hr
 obtain ⟨x,hx,rfl⟩:=List.mem_map.1 hr
 simpa using lk_none he x hx
end Cch
namespace Cch
open Go.RowKit Go.Maps
variable {e:TypeId} {xs:List Value} {B n:Nat} {w:World}
theorem own_ge{cap:Nat}{ao:Option Addr}(h:w.ownsRow B e 1 (.slice ao n cap) n xs):∀ a,ao=some a→B≤a.block:=by
 intro a ha
 rcases h.2 with ⟨hv,_⟩ | ⟨g,cap',cur,hv,hB,_⟩
 ·simp only [Value.slice.injEq]at hv;rw [hv.1]at ha;cases ha
 ·simp only [Value.slice.injEq]at hv;rw [hv.1]at ha;cases ha;exact hB
theorem shed_none(c f:Nat)(m:Int)(lb:Array Value)(w:World)(hm:m≤0) :
  Calls Tryz.prog 289 #[.pointer (some ⟨c,0,none⟩),.int .i64 m,.func (.func f) #[] lb] w fun e w'=>e=.returned (.int .i64 0)∧Below w.heap.size w w':=by
 go_enter Tryz.func289,Tryz.ntmps289
 go_wp2
 go_ret
 exact ⟨rfl,(by repeat (first |with_reducible exact Below.refl _ _ |with_reducible assumption |with_reducible refine Below.drew ?_ |with_reducible refine below_drewN ?_ _ |with_reducible refine Below.alloc ?_ (by simp<;>omega) _ |with_reducible refine Below.setCell ?_ (by simp<;>omega) _))⟩
variable {c:Nat}
theorem step_of_shed{w':World}{C C':Parts}{s:CS}(h:CP w' c C' s)(hm:C'.m=C.m)(hh:C'.h=C.h)(hs:∀ b∈C'.ks,b∈C.ks)(hf:Fr (C.S c) w w'):Step w w' c C C' s:=by
 refine ⟨h,hf,fun k hk=>Or.inl ?_⟩
 rcases hk with rfl |rfl |hk
 ·exact Or.inl rfl
 ·exact Or.inr (Or.inl hm)
 ·refine Or.inr (Or.inr ?_)
  rcases List.mem_cons.1 hk with rfl |hk
  ·rw [hh];simp
  ·exact List.mem_cons_of_mem _ (hs k hk)
theorem own_base{B':Nat}{v:Value}(h:w.ownsRow B e 1 v n xs)(hb:B'≤B):w.ownsRow B' e 1 v n xs:=by
 refine ⟨h.1,?_⟩
 rcases h.2 with hn | ⟨g,cap,cur,rfl,hB,hr⟩
 ·exact .inl hn
 ·exact .inr ⟨g,cap,cur,rfl,Nat.le_trans hb hB,hr⟩
def CS.get(s:CS)(k:Int):CS:=match s.find k with |none=>{ s with miss:=s.miss+1 } |some r=>{ s with l:=s.others k++[r],hit:=s.hit+1 }
variable {m h room hit miss:Nat}
theorem hd_set3(hd:w.heap[c]? = some (.cells (hdC m h room hit miss).toArray 242 (0,0)))(x:Nat):(w.setCell ⟨c,3,none⟩ (.int .i64 (x:Int))).heap[c]? = some (.cells (hdC m h room x miss).toArray 242 (0,0)):=by rw [blk_set hd];rfl
theorem hd_set4(hd:w.heap[c]? = some (.cells (hdC m h room hit miss).toArray 242 (0,0)))(x:Nat):(w.setCell ⟨c,4,none⟩ (.int .i64 (x:Int))).heap[c]? = some (.cells (hdC m h room hit x).toArray 242 (0,0)):=by rw [blk_set hd];rfl
theorem get_call(c:Nat)(C:Parts)(s:CS)(k:Int)(w:World)(h:CP w c C s)(hk:(Lit.int .i64 k).wf=true)(hh:s.hit≤1000000)(hm:s.miss≤1000000) :
  Calls Tryz.prog 232 #[.pointer (some ⟨c,0,none⟩),.int .i64 k] w fun e w'=>Bytes (s.peek k) w.heap.size w' e∧∃ C',Step w w' c C C' (s.get k):=by
 have k1:=hid (made_yes c s.room w h.c0 h.rm.1)
 have c1:=h.c1;have c3:=h.c3;have c4:=h.c4
 have f3:=hd_frozen h.hd 3;have f4:=hd_frozen h.hd 4
 have hl:=h.mp.look hk
 cases ho:lk C.ks C.E k with
 | none=>
  rw [ho,show ptr none=.pointer none from rfl]at hl
  have e1:s.peek k=none:=by unfold CS.peek;rw [h.find_none ho];rfl
  have e2:s.get k = { s with miss:=s.miss+1 }:=by unfold CS.get;rw [h.find_none ho]
  have hw:IntKind.i64.wrap ((s.miss:Int)+1)=((s.miss+1:Nat):Int):=by rw [IntWalk.i64_in _ ⟨by omega,by omega⟩];omega
  have hend:Hid (∃ C',Step w (w.setCell ⟨c,4,none⟩ (.int .i64 ((s.miss+1:Nat):Int))) c C C' { s with miss:=s.miss+1 }):=
   hid ⟨C,h.hits s.hit (s.miss+1) (hd_set4 h.hd _) (fun j _ _ hj=>set_heap _ _ _ _ _ hj),(Fr.refl _ w).set (Or.inl (Or.inl rfl)) _,fun _ h=>Or.inl h⟩
  rw [e1,e2]
  clear h e1 e2 ho hh hm
  go_enter Tryz.func232,Tryz.ntmps232
  go_wp2_with (go_at_call 286;refine k1.out.mono ?_;rintro e w1 ⟨rfl,h0⟩;obtain rfl:=h0.symm)
  go_ret2
  exact ⟨rfl,hend.out⟩
 | some b=>
  rw [ho,show ptr (some b)=.pointer (some ⟨b,0,none⟩) from rfl]at hl
  have e1:s.peek k=some (C.E b).row.bytes:=by unfold CS.peek;rw [h.find_some ho];rfl
  obtain ⟨xs,ys,hks,_⟩:=h.idx ho
  have e2:s.get k = { s with l:=rowsOf (xs++ys++[b]) C.E,hit:=s.hit+1 }:=by unfold CS.get;rw [h.find_some ho,others_of h ho hks];simp [rowsOf]
  have hw:IntKind.i64.wrap ((s.hit:Int)+1)=((s.hit+1:Nat):Int):=by rw [IntWalk.i64_in _ ⟨by omega,by omega⟩];omega
  have h1:=h.hits (s.hit+1) s.miss (hd_set3 h.hd _) (w':=w.setCell ⟨c,3,none⟩ (.int .i64 ((s.hit+1:Nat):Int))) (fun j _ _ hj=>set_heap _ _ _ _ _ hj)
  have k2:=hid (use_cp c b xs ys C _ _ h1 hks)
  have hfr:Fr (C.S c) w (w.setCell ⟨c,3,none⟩ (.int .i64 ((s.hit+1:Nat):Int))):=(Fr.refl _ w).set (Or.inl (Or.inl rfl)) _
  have hlen:=hid (h.rg.en b (by rw [hks];simp)).len
  have HF:=hid hfr;have HKS:=hid hks
  have hsz:(w.setCell ⟨c,3,none⟩ (.int .i64 ((s.hit+1:Nat):Int))).heap.size=w.heap.size:=by simp
  have HSZ:=hid hsz
  rw [e1,e2]
  clear h e1 e2 ho hh hm h1 hfr hks hsz
  go_enter Tryz.func232,Tryz.ntmps232
  go_wp2_with (first |(go_at_call 286;refine k1.out.mono ?_;rintro e w1 ⟨rfl,h0⟩;obtain rfl:=h0.symm) |(go_at_call 287;refine k2.out.mono ?_;rintro e w2 ⟨rfl,C2,g1,g2,g3,g4,g5,g6⟩;have k3:=hid (clone_any b 1 512 512 _ w2 (g1.rg.en b (by rw [g4];simp)).rd (by omega));rw [g5 b]at k3;have G1:=hid g1;have G2:=hid g2;have G3:=hid g3;have G4:=hid g4;have G6:=hid g6;clear g1 g2 g3 g4 g5 g6) |(go_at_call 173;refine k3.out.mono ?_;rintro e w3 ⟨ao,cap,rfl,h2,h3⟩;have H2:=hid h2;have H3:=hid h3;clear h2 h3))
  go_ret2
  have hle:w.heap.size≤w2.heap.size:=by have:=G6.out.size;rw [HSZ.out]at this;exact this
  refine ⟨⟨hlen.out,ao,cap,rfl,own_base H2.out hle⟩,C2,G1.out.later H3.out,(HF.out.trans G6.out (fun _ _ h=>h)).trans (T:=fun _=>False) (Fr.of_below H3.out) (fun _ _ h=>h.elim),fun j hj=>Or.inl ?_⟩
  rcases hj with rfl |rfl |hj
  ·exact Or.inl rfl
  ·exact Or.inr (Or.inl G2.out)
  ·refine Or.inr (Or.inr ?_)
   rw [G3.out,G4.out]at hj
   rw [HKS.out]
   simp only [List.mem_cons,List.mem_append,List.not_mem_nil,or_false]at hj ⊢
   rcases hj with h |(h |h) |h<;>simp [h]
end Cch
end Go.Proofs.YtfcikkechphmaaaGreatDoor
