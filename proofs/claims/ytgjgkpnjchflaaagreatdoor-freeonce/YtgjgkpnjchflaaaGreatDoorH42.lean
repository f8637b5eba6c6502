/- What is held while pages are taken and given: a heap, a map and a row of numbers; no statement of the seat is proved here. -/
import Derived.Test.YtgjgkpnjchflaaaGreatDoorH41
set_option maxHeartbeats 16000000
set_option maxRecDepth 20000
namespace Go.Proofs.YtgjgkpnjchflaaaGreatDoor
section
open Go.RowKit Go.Maps
open Dsk (gt hid undrew keep_old keep_cell lt_cell Rd)
open Cch (Fr)
open Jrn (rootN)
def Q4(w:World)(hb m:Nat):Nat→Prop:=Plus (Plus (Old w) hb) m
structure OS (K:Nat) (w:World) (hb p q m:Nat) (v:Value) (l S:List Nat) (tr:List (Nat×List Nat)) (N:Nat) (W:World):Prop where
 hs:∃ t,HeapS False 32768 16 K W hb p q (Own2 (Q4 w hb m) v) t tr z60∧t.now.length=N
 row:W.ownsRow 0 3 1 v l.length (zI l)
 sep:∀ b,v.ownBlock=some b→¬Q4 w hb m b
 map:MapB W m S
 new:w.heap.size≤hb∧w.heap.size≤m∧hb≠m
 k:Rok (Old w) w W
variable {ws:List Nat} {t:RS} {R:Nat→Prop} {hb p q room croom K:Nat} {w w':World} {arm:Prop}
theorem HeapS.more{R':Nat→Prop}{tr:List (Nat×List Nat)}(h:HeapS arm room croom K w hb p q R t tr ws)(hb':Below w.heap.size w w')(hR:∀ b,R' b→R b∨(w.heap.size≤b∧b<w'.heap.size))(hm:R' hb):HeapS arm room croom K w' hb p q R' t tr ws:=⟨h.prg.more hb' hR,h.heap.keep hb',hm,h.lay,h.busy⟩
theorem HeapS.up{K':Nat}{tr:List (Nat×List Nat)}(h:HeapS arm room croom K w hb p q R t tr ws)(hK:K≤K'):HeapS arm room croom K' w hb p q R t tr ws:=⟨h.prg.up hK,h.heap,h.mem,h.lay,h.busy⟩
theorem fr_of_grown{m:Nat}(hg:w.grownBy w' (some m)):Fr (fun b=>b=m) w w':=⟨hg.os,hg.tape,hg.output,hg.size,fun k hk hn=>hg.block k hk (fun e=>hn (Option.some.inj e))⟩
theorem lay_T1:Lay T1.now [] z60:=⟨rfl,rfl,by simp [flat],by simp [z60],by decide⟩
theorem OS.start{w1:World}(hH:HeapAt w1 hb p)(hn:w.heap.size≤hb)(hP:PrgAt False 32768 16 3 w1 p w.heap.size (Plus (Old w) hb) T1)(hk:Rok (Old w) w w1) :
  OS 3 w hb p w.heap.size w1.heap.size (.slice none 0 0) [] [] [] 1 (w1.alloc (.map #[] 0)):=by
 have B:=Below.alloc (Below.refl w1.heap.size w1) (Nat.le_refl _) (.map #[] 0)
 have hP2:=hP.new (g:=w1.heap.size) B (Nat.le_refl _) (by simp)
 refine ⟨⟨T1,⟨hP2.less (fun b hb=>?_),hH.keep B,Or.inl (Or.inl (Or.inr rfl)),lay_T1,rfl⟩,rfl⟩,⟨rfl,.inl ⟨rfl,rfl⟩⟩,fun b hb=>(by cases hb),MapB.new w1,⟨hn,hk.size,?_⟩,hk.below B⟩
 ·rcases hb with hb |hb
  ·exact hb
  ·cases hb
 ·have:=hH.lt;omega
section
variable {K N:Nat} {w W W':World} {hb p q m:Nat} {v:Value} {l S:List Nat} {tr:List (Nat×List Nat)}
variable {K':Nat}
theorem OS.up(h:OS K w hb p q m v l S tr N W)(hK:K≤K'):OS K' w hb p q m v l S tr N W:=by
 obtain ⟨t,hs,hl⟩:=h.hs
 exact ⟨⟨t,hs.up hK,hl⟩,h.row,h.sep,h.map,h.new,h.k⟩
theorem OS.below(h:OS K w hb p q m v l S tr N W)(b:Below W.heap.size W W'):OS K w hb p q m v l S tr N W':=by
 obtain ⟨t,hs,hl⟩:=h.hs
 exact ⟨⟨t,hs.more b (fun _ h=>Or.inl h) hs.mem,hl⟩,own_fr (E:=fun _=>False) h.row (Fr.of_below b) (fun _ _ h=>h),h.sep,h.map.keep b,h.new,h.k.below b⟩
theorem OS.to{N':Nat}{tr':List (Nat×List Nat)}{t:RS}(h:OS K w hb p q m v l S tr N W)(hs:HeapS False 32768 16 K' W' hb p q (Own2 (Q4 w hb m) v) t tr' z60)(hl:t.now.length=N')(hk:Rok (Own2 (Q4 w hb m) v) W W'):OS K' w hb p q m v l S tr' N' W':=
 ⟨⟨t,hs,hl⟩,own_fr h.row hk (fun _ hv e=>e.1 (Or.inr hv)),h.sep,h.map.stay (hk.at_ (Or.inl (Or.inr rfl)) h.map.lt),h.new,h.k.then hk (fun _ hb=>Or.inl (Or.inl (Or.inl hb)))⟩
theorem OS.turn{S':List Nat}(h:OS K w hb p q m v l S tr N W)(hm:MapB W' m S')(ht:W.mapTurned W' m):OS K w hb p q m v l S' tr N W':=by
 obtain ⟨t,hs,hl⟩:=h.hs
 have hf:=fr_of_grown ht.grown
 refine ⟨⟨t,⟨hs.prg.mine (fr_imp hf (fun b hb=>Or.inl (Or.inr hb))),hs.heap.fr hf h.new.2.2,hs.mem,hs.lay,hs.busy⟩,hl⟩,own_fr h.row hf (fun k hv e=>h.sep k hv (e▸Or.inr rfl)),h.sep,hm,h.new,h.k.mine hf (fun b hb=>by rw [hb];exact h.new.2.1)⟩
theorem OS.app{n j c:Nat}{ao:Option Addr}(h:OS K w hb p q m v l S tr N W)(hj:j=l.length)(ho:W'.ownsRow 0 3 1 (.slice ao (j+1) c) (j+1) (zI l++[.int .i64 (n:Int)]))(hg:W.grownBy W' v.ownBlock)(ha:∀ a,ao=some a→(v.ownBlock=some a.block∨a.block=W.heap.size)) :
  OS K w hb p q m (.slice ao (j+1) c) (l++[n]) S tr N W':=by
 obtain ⟨t,hs,hl⟩:=h.hs
 have hz:zI (l++[n])=zI l++[.int .i64 (n:Int)]:=by rw [zI_append];rfl
 have hl2:(l++[n]).length=j+1:=by rw [hj];simp
 have hf:Fr (fun b=>v.ownBlock=some b) W W':=⟨hg.os,hg.tape,hg.output,hg.size,fun k hk hn=>hg.block k hk (fun e=>hn e.symm)⟩
 have hv:∀ b,(Value.slice ao (j+1) c).ownBlock=some b→v.ownBlock=some b∨(W.heap.size≤b∧b<W'.heap.size):=fun b hb=>by
  cases ao with
  | none=>cases hb
  | some a=>
   have hb2:=rr_blk ho hb
   cases hb
   rcases ha a rfl with h1 |h1
   ·exact Or.inl h1
   ·exact Or.inr ⟨by rw [h1];exact Nat.le_refl _,hb2.2⟩
 have hlt:∀ b,Q4 w hb m b→b<W.heap.size:=fun b hb=>hs.prg.lt (Or.inl hb)
 refine ⟨⟨t,⟨hs.prg.grow hf hv,hs.heap.fr hf (fun e=>h.sep _ e (Or.inl (Or.inr rfl))),Or.inl (Or.inl (Or.inr rfl)),hs.lay,hs.busy⟩,hl⟩,by rw [hl2,hz];exact ho,fun b hb hQ=>?_,h.map.stay (hf.blk m h.map.lt (fun e=>h.sep _ e (Or.inr rfl))),h.new,h.k.trans hf (fun j _ hj=>⟨fun e=>h.sep j hj (Or.inl (Or.inl e)),fun e=>?_⟩)⟩
 ·rcases hv b hb with h1 |h1
  ·exact h.sep b h1 hQ
  ·have:=hlt b hQ;omega
 ·subst e
  obtain ⟨x,P,C,d,s,n,enc,ms,hh⟩:=hs.prg
  exact hh.off 0 (Or.inr (Or.inr (Or.inl rfl))) (Or.inr hj)
theorem OS.other{v':Value}{l':List Nat}(h:OS K w hb p q m v l S tr N W)(b:Below W.heap.size W W')(ho:W'.ownsRow 0 3 1 v' l'.length (zI l'))(hv:∀ k,v'.ownBlock=some k→W.heap.size≤k):OS K w hb p q m v' l' S tr N W':=by
 obtain ⟨t,hs,hl⟩:=h.hs
 refine ⟨⟨t,hs.more b (fun k hk=>?_) (Or.inl (Or.inl (Or.inr rfl))),hl⟩,ho,fun k hk hQ=>?_,h.map.keep b,h.new,h.k.below b⟩
 ·rcases hk with hk |hk
  ·exact Or.inl (Or.inl hk)
  ·exact Or.inr ⟨hv k hk,(rr_blk ho hk).2⟩
 ·have h1:=hv k hk
  have h2:=hs.prg.lt (b:=k) (Or.inl hQ)
  omega
end
end
section
open Go.RowKit Go.Maps
open Dsk (gt hid undrew keep_old keep_cell lt_cell Rd)
open Cch (Fr)
open Jrn (rootN)
section
variable {K N:Nat} {w W W':World} {hb p q m:Nat} {v:Value} {l S:List Nat} {tr:List (Nat×List Nat)}
theorem OS.take(h:OS K w hb p q m v l S [] N W)(hN:N<4000)(hK:K+5000≤500000) :
  Calls Tryz.prog 15 #[.pointer (some ⟨hb,0,none⟩)] W fun e W'=>e=.returned (.tuple #[.int .i64 ((N+1:Nat):Int),.int .i64 0])∧OS (K+2) w hb p q m v l S [] (N+1) W':=by
 obtain ⟨t,hs,hl⟩:=h.hs
 subst hl
 refine (take_none hs hN hK).mono ?_
 rintro e w' ⟨he,t',hs',hl',hk⟩
 exact ⟨he,h.to hs' hl' hk⟩
variable {n:Nat}
theorem OS.give(h:OS K w hb p q m v l S tr N W)(hn1:2≤n)(hn:n≤N)(hnf:n∉flat tr)(hN:N≤400)(hK:K+5000≤500000) :
  Calls Tryz.prog 16 #[.pointer (some ⟨hb,0,none⟩),.int .i64 (n:Int)] W fun e W'=>e=.returned (.int .i64 0)∧∃ tr',(flat tr').Perm (n::flat tr)∧OS (K+500) w hb p q m v l S tr' N W':=by
 obtain ⟨t,hs,hl⟩:=h.hs
 subst hl
 have h1:=hs.lay.count
 have h2:=flat_len tr
 refine (give_any hs hn1 hn hnf (by omega) hK).mono ?_
 rintro e w' ⟨tr',hp,he,t',hs',hl',hk⟩
 exact ⟨he,tr',hp,(h.to hs' hl' hk).up (by omega)⟩
theorem OS.all(h:OS K w hb p q m v l S tr N W)(hN:N≤400)(hK:K+5000≤500000) :
  Calls Tryz.prog 11 #[.pointer (some ⟨hb,0,none⟩)] W fun e W'=>∃ ao cp,e=.returned (.tuple #[.slice ao (flat tr).length cp,.int .i64 0])∧OS (K+500) w hb p q m (.slice ao (flat tr).length cp) (flat tr) S tr N W':=by
 obtain ⟨t,hs,hl⟩:=h.hs
 subst hl
 have h1:=hs.lay.count
 have h2:=flat_len tr
 refine (all_yes hs (by omega) hK).mono ?_
 rintro e w' ⟨ao,cp,he,ho,hP,hk⟩
 have hx:=h.to (t:=t) (K':=K+1+tr.length) ⟨hP.less (fun b hb=>Or.inl hb),hs.heap.rok hk hs.mem,hs.mem,hs.lay,hs.busy⟩ rfl hk
 refine ⟨ao,cp,he,⟨⟨t,⟨(hP.up (by omega)).less (fun b hb=>?_),hs.heap.rok hk hs.mem,Or.inl (Or.inl (Or.inr rfl)),hs.lay,hs.busy⟩,rfl⟩,rr_base ho (Nat.zero_le _),fun b hb hQ=>?_,hx.map,h.new,hx.k⟩⟩
 ·rcases hb with hb |hb
  ·exact Or.inl (Or.inl hb)
  ·exact Or.inr hb
 ·have h3:=(rr_blk ho hb).1
  have h4:=hs.prg.lt (b:=b) (Or.inl hQ)
  omega
theorem OS.pages(h:OS K w hb p q m v l S tr N W):Calls Tryz.prog 10 #[.pointer (some ⟨p,0,none⟩)] W fun e w'=>e=.returned (.int .i64 (N:Int))∧Below W.heap.size W w':=by
 obtain ⟨t,hs,hl⟩:=h.hs
 have:=prg_pages hs.prg
 rw [RS.pages_busy hs.busy,hl]at this
 exact this
variable {c:Nat} {ao:Option Addr}
theorem OS.cell{i:Nat}(h:OS K w hb p q m (.slice ao n c) l S tr N W)(hn:n=l.length)(hi:i<n):∃ g,ao=some ⟨g,0,none⟩∧n≤c∧g<W.heap.size∧∀ i,i<n→W.cell? ⟨g,i,none⟩=some (.int .i64 ((l.getD i 0:Nat):Int)):=by
 have hr:=h.row
 rw [←hn]at hr
 obtain ⟨ao',cap,e,hno,hso⟩:=Cch.row_form hr
 simp only [Value.slice.injEq]at e
 obtain ⟨rfl,-,rfl⟩:=e
 cases ao with
 | none=>have:=(hno rfl).1;omega
 | some a=>
  obtain ⟨e1,h2,h3⟩:=hso a rfl
  rw [e1]at hr ⊢
  refine ⟨a.block,rfl,h2,h3,fun j hj=>?_⟩
  have:=hr.cells (g:=a.block) rfl j (.int .i64 ((l.getD j 0:Nat):Int)) (by unfold zI;rw [List.getElem?_map,List.getD,List.getElem?_eq_getElem (by omega)];rfl)
  rw [Addr.add_lit]at this;simpa using this
theorem OS.src(h:OS K w hb p q m (.slice ao n c) l S tr N W)(hn:n=l.length):Cch.Src W ao n c (zI l):=by
 have hr:=h.row
 rw [←hn]at hr
 exact Cch.src_row hr (fun u hu=>by unfold zI at hu;obtain ⟨x,_,rfl⟩:=List.mem_map.1 hu;rfl)
end
def U16s(w:World)(b off L:Nat)(G:Nat→Nat):Prop:=∀ i,i<L→w.cell? ⟨b,off+i,none⟩=some (.int .u16 (G i:Int))∧G i<65536
def U16V(w:World)(lo:Option Addr)(L:Nat)(G:Nat→Nat):Prop:=0<L→∃ b off,lo=some ⟨b,off,none⟩∧U16s w b off L G
variable {b:Nat} {w:World}
theorem U16s.keep{w':World}{off L:Nat}{G:Nat→Nat}(h:U16s w b off L G)(hb:Below w.heap.size w w'):U16s w' b off L G:=fun i hi=>⟨keep_old hb (h i hi).1,(h i hi).2⟩
theorem cut_hi(g n c i:Nat)(h1:i≤c)(W:World):(Instr.slice 33 (.slice (some ⟨g,0,none⟩) n c) none (some (.int .i64 (i:Int))) none).run Tryz.prog W=.ok (.slice (some ⟨g,0,none⟩) i c) W:=by
 rw [run_slice_h (P:=Tryz.prog) (t:=33) (a:=_) (len:=n) (cap:=c) (ht:=by kernel_rfl) (kh:=.i64) (h:=(i:Int)) (h0:=by omega) (h2:=by omega)]
 have e:(sizeOf (Tryz.prog.elem 33)).run Tryz.prog W=.ok 1 W:=by kernel_rfl
 rw [e]
 simp [sliced,Result.andThen,Addr.add]
theorem cut_lo(g n c i:Nat)(h1:i≤n)(W:World):(Instr.slice 33 (.slice (some ⟨g,0,none⟩) n c) (some (.int .i64 (i:Int))) none none).run Tryz.prog W=.ok (.slice (some ⟨g,if c=i then 0 else i,none⟩) (n - i) (c - i)) W:=by
 rw [run_slice_l (P:=Tryz.prog) (t:=33) (a:=_) (len:=n) (cap:=c) (ht:=by kernel_rfl) (kl:=.i64) (l:=(i:Int)) (h0:=by omega) (h1:=by omega)]
 have e:(sizeOf (Tryz.prog.elem 33)).run Tryz.prog W=.ok 1 W:=by kernel_rfl
 rw [e]
 by_cases h:c=i
 ·simp [sliced,Result.andThen,h]
 ·simp [sliced,Result.andThen,h,Addr.add]
  omega
variable {xs:List Value} {g n c i:Nat} {W:World}
theorem src_hi(h:Cch.Src W (some ⟨g,0,none⟩) n c xs)(hi:i≤n):Cch.Src W (some ⟨g,0,none⟩) i c (xs.take i):=by
 refine ⟨by rw [List.length_take,h.len];omega,fun e=>(by cases e),fun ad e j u hu=>?_,fun u hu=>h.one u (List.mem_of_mem_take hu)⟩
 rw [List.getElem?_take]at hu
 split at hu
 ·exact h.at_ ad e j u hu
 ·cases hu
theorem src_lo(h:Cch.Src W (some ⟨g,0,none⟩) n c xs)(hi:i≤n)(hc:n≤c):Cch.Src W (some ⟨g,if c=i then 0 else i,none⟩) (n - i) (c - i) (xs.drop i):=by
 refine ⟨by rw [List.length_drop,h.len],fun e=>(by cases e),fun ad e j u hu=>?_,fun u hu=>h.one u (List.mem_of_mem_drop hu)⟩
 rw [List.getElem?_drop]at hu
 have h1:=h.at_ _ rfl (i+j) u hu
 have h2:i+j<n:=by rw [←h.len];exact (List.getElem?_eq_some_iff.1 hu).1
 obtain rfl:=Option.some.inj e
 rw [if_neg (by omega),Addr.add_lit]
 rw [Addr.add_lit]at h1
 simpa using h1
variable {ao:Option Addr}
theorem src_keep{W':World}(h:Cch.Src W ao n c xs)(hb:Below W.heap.size W W'):Cch.Src W' ao n c xs:=⟨h.len,h.no,fun ad e j u hu=>keep_old hb (h.at_ ad e j u hu),h.one⟩
variable {v:Value} {Y Z:World}
theorem gt_own(hb:Below W.heap.size W Y)(hg:Y.grownBy Z v.ownBlock)(hv:∀ k,v.ownBlock=some k→W.heap.size≤k):Below W.heap.size W Z:=hb.grown hg hb.size (fun j hj=>hv j hj)
theorem gt_new{k:Nat}(hb:Below W.heap.size W Y)(hg:Y.grownBy Z (Value.slice (some ⟨k,0,none⟩) n c).ownBlock)(hk:W.heap.size≤k):Below W.heap.size W Z:=gt_own hb hg (fun j hj=>by cases hj;exact hk)
theorem own_new2(hb:Below W.heap.size W Y)(hv:∀ k,v.ownBlock=some k→W.heap.size≤k)(ha:∀ a,ao=some a→(v.ownBlock=some a.block∨a.block=Y.heap.size)):∀ k,(Value.slice ao n c).ownBlock=some k→W.heap.size≤k:=by
 intro k hk
 cases ao with
 | none=>cases hk
 | some a=>
  cases hk
  rcases ha a rfl with h |h
  ·exact hv _ h
  ·rw [h];exact hb.size
variable {m:Nat}
theorem own_new{d:Nat}(hb:Below W.heap.size W Y)(hk:W.heap.size≤b)(ha:∀ a,ao=some a→((Value.slice (some ⟨b,0,none⟩) m d).ownBlock=some a.block∨a.block=Y.heap.size)):∀ k,(Value.slice ao n c).ownBlock=some k→W.heap.size≤k:=own_new2 hb (fun k e=>by cases e;exact hk) ha
variable {l:List Nat} {N:Nat}
theorem OS.range{K:Nat}{hb p q:Nat}{S:List Nat}{tr:List (Nat×List Nat)}(h:OS K w hb p q m v l S tr N W)(y:Nat)(hy:y∈flat tr):y≤N:=by
 obtain ⟨t,hs,hl⟩:=h.hs
 rw [←hl];exact (hs.lay.chain.range y hy).2
theorem Parted.fresh{tr:List (Nat×List Nat)}{j:Nat}(h:Parted l tr N)(hj:j<(flat tr).length):(flat tr).getD j 0∉l++(flat tr).take j:=by
 have e:(flat tr).getD j 0=(flat tr)[j]:=by rw [List.getD,List.getElem?_eq_getElem hj];rfl
 rw [e]
 intro hm
 have h1:=List.nodup_append.1 h.nd
 rcases List.mem_append.1 hm with hm |hm
 ·exact h1.2.2 _ hm _ (List.getElem_mem hj) rfl
 ·obtain ⟨k,hk,he⟩:=List.getElem_of_mem hm
  rw [List.length_take]at hk
  rw [List.getElem_take]at he
  have:=(List.getElem_inj h1.2.1).1 he
  omega
end
end Go.Proofs.YtgjgkpnjchflaaaGreatDoor
