/- A map that tells which numbers are one's own; no statement of the seat is proved here. -/
import Derived.Test.YtneemfbnjkcflaaGreatDoorB36
import Derived.Test.YtneemfbnjkcflaaGreatDoorB39
import Derived.Test.YtneemfbnjkcflaaGreatDoorB23
import Derived.WalkMore
import Derived.Deep.LoopGhost
set_option maxHeartbeats 16000000
set_option maxRecDepth 20000
namespace Go.Proofs.YtneemfbnjkcflaaGreatDoor
section
open Go.RowKit Go.Maps
open Cch (Fr key_int KD lit_ne)
def bD(b:Bool):DataW Unit:=.lit (.bool b)
variable {b:Bool}
theorem bD_inj{a:Bool}(h:bD a=bD b):a=b:=by simpa [bD] using h
def bR:Value→Option (DataW Unit×List MemPlace)
 | .bool b=>some (bD b,[])
 | _=>none
theorem bR_mk(b:Bool):bR (.bool b)=some (bD b,[]):=rfl
theorem bR_inv{v:Value}{ps:List MemPlace}(h:bR v=some (bD b,ps)):v=.bool b:=by
 unfold bR at h
 split at h
 ·simp only [Option.some.injEq,Prod.mk.injEq]at h;rw [←bD_inj h.1]
 ·cases h
theorem um49:Tryz.prog.underlying 29=some (.map 3 4):=by kernel_rfl
theorem zm4(w:World):(zeroValue 4).run Tryz.prog w=.ok (.bool false) w:=by kernel_rfl
def inZ(S:List Nat)(k:Int):Bool:=decide (∃ x∈S,(x:Int)=k)
variable {S:List Nat}
theorem inZ_congr{S':List Nat}{k:Int}(h:(∃ x∈S,(x:Int)=k)↔∃ x∈S',(x:Int)=k):inZ S k=inZ S' k:=by unfold inZ;rw [decide_eq_decide];exact h
theorem inZ_nat(S:List Nat)(k:Nat):inZ S (k:Int)=decide (k∈S):=by
 unfold inZ
 congr 1
 refine propext ⟨?_,fun h=>⟨k,h,rfl⟩⟩
 rintro ⟨x,h,e⟩
 rw [←show x=k by omega];exact h
def MapB(w:World)(m:Nat)(S:List Nat):Prop:=
 ∃ D:DataW Unit,w.ownsMap Tryz.prog 3 bR m S.length D∧Maps.size D=S.length∧∀ k:Int,(Lit.int .i64 k).wf=true→Maps.has D (.int .i64 k)=inZ S k∧D.atKey (.int .i64 k) (bD false)=bD (inZ S k)
variable {m:Nat} {w:World}
theorem MapB.lt(h:MapB w m S):m<w.heap.size:=by obtain ⟨D,h,_⟩:=h;exact h.lt
theorem MapB.stay{w':World}(h:MapB w m S)(hb:w'.heap[m]? = w.heap[m]?):MapB w' m S:=by
 obtain ⟨D,⟨es,clock,hg,hF,hs',hD⟩,hr⟩:=h
 exact ⟨D,⟨es,clock,hb.trans hg,hF,hs',hD⟩,hr⟩
theorem MapB.new(w:World):MapB (w.alloc (.map #[] 0)) w.heap.size []:=
 ⟨_,World.ownsMap_made w _ _ _,rfl,fun _ _=>⟨by simp [inZ];rfl,by simp [inZ];rfl⟩⟩
theorem wf_nat{k:Nat}(h:k≤1000000):(Lit.int .i64 (k:Int)).wf=true:=Dsk.wf_i64 k (by omega)
theorem MapB.look(h:MapB w m S){k:Nat}(hk:k≤1000000) :
  (Instr.lookup 29 (.map (some m)) (.int .i64 (k:Int)) false).run Tryz.prog w=.ok (.bool (decide (k∈S))) w:=by
 obtain ⟨D,h1,_,h3⟩:=h
 obtain ⟨v,ps,hrun,hv⟩:=h1.lookup KD um49 (zm4 w) (bR_mk false) (key_int (wf_nat hk))
 rw [(h3 _ (wf_nat hk)).2,inZ_nat]at hv
 rw [hrun,bR_inv hv]
theorem MapB.put(h:MapB w m S){k:Nat}(hk:k≤1000000)(hn:S.length<1000000)(hS:k∉S) :
  ∃ w',(Instr.mapUpdate 29 (.map (some m)) (.int .i64 (k:Int)) (.bool true)).run Tryz.prog w=.ok () w'∧MapB w' m (S++[k])∧w.mapTurned w' m:=by
 obtain ⟨D,h1,h2,h3⟩:=h
 have hf:inZ S (k:Int)=false:=by rw [inZ_nat];simp [hS]
 obtain ⟨w',hrun,ho,ht⟩:=h1.store KD um49 (by unfold maxLen;omega) (key_int (wf_nat hk)) (bR_mk true)
 have e1:=size_put (k:=.int .i64 (k:Int)) (h1.tidy KD) (bD true)
 rw [(h3 _ (wf_nat hk)).1,h2,hf]at e1
 have e2:Maps.size (D.put (.int .i64 (k:Int)) (bD true))=(S++[k]).length:=by rw [e1];simp
 refine ⟨w',hrun,⟨D.put (.int .i64 (k:Int)) (bD true),?_,e2,fun j hj=>?_⟩,ht⟩
 ·obtain ⟨es,clock,hb,F,hs,hD⟩:=ho
  refine ⟨es,clock,hb,F,?_,hD⟩
  rw [←e2,hD,Maps.size_eq,length_read];exact Nat.le_refl _
 ·by_cases hjk:j=(k:Int)
  ·subst hjk
   have e3:inZ (S++[k]) (k:Int)=true:=by rw [inZ_nat];simp
   rw [e3]
   exact ⟨has_put_same (k:=.int .i64 (k:Int)) h1.isMap trivial _,atKey_put_same (k:=.int .i64 (k:Int)) h1.isMap trivial _ _⟩
  ·have e3:inZ (S++[k]) j=inZ S j:=by
    refine inZ_congr ⟨?_,fun ⟨x,a,b⟩=>⟨x,by simp [a],b⟩⟩
    rintro ⟨x,a,b⟩
    rcases List.mem_append.1 a with a |a
    ·exact ⟨x,a,b⟩
    ·rw [List.mem_singleton]at a;subst a;exact absurd b.symm hjk
   rw [e3,has_put_other (lit_ne hjk),atKey_put_other (lit_ne hjk)]
   exact h3 j hj
end
namespace Spl
open Go.RowKit Go.Maps
open Dsk (gt hid undrew keep_old keep_cell lt_cell newD)
open Jrn (Rd bs bs_length bs_one bs_get bs_get' bs_append rd_own Row5 putN putN_length numAt rootN trunkN Pv2)
open Cch (Fr)
def kkG(G:Nat→Nat)(j:Nat):Nat:=1+G j % 20000
def ccG(G:Nat→Nat)(j:Nat):Nat:=(kkG G j - 1)/508+1
def NNG(G:Nat→Nat):Nat→Nat
 | 0=>1
 | j+1=>NNG G j+ccG G j
theorem kk_le(G:Nat→Nat)(j:Nat):1≤kkG G j∧kkG G j≤20000:=by unfold kkG;omega
theorem cc_le(G:Nat→Nat)(j:Nat):1≤ccG G j∧ccG G j≤40:=by have:=kk_le G j;unfold ccG;omega
theorem NN_le(G:Nat→Nat):∀ j,1≤NNG G j∧NNG G j≤1+40*j
 | 0=>⟨Nat.le_refl _,by show 1≤_;omega⟩
 | j+1=>by have h1:=NN_le G j;have h2:=cc_le G j;show 1≤NNG G j+ccG G j∧NNG G j+ccG G j≤_;omega
theorem NN_mono(G:Nat→Nat){i j:Nat}(h:i≤j):NNG G i≤NNG G j:=by
 induction j with
 | zero=>
  obtain rfl:i=0:=by omega
  exact Nat.le_refl _
 | succ j ih=>
  rcases Nat.eq_or_lt_of_le h with rfl |h1
  ·exact Nat.le_refl _
  ·have:=ih (by omega);show _≤NNG G j+ccG G j;omega
def xsG(G:Nat→Nat)(j:Nat):List Nat:=byteL (kkG G j) j
def atL(G:Nat→Nat)(i:Nat):List Nat:=(List.range i).map (fun j=>NNG G j+1)
theorem atL_len(G:Nat→Nat)(i:Nat):(atL G i).length=i:=by simp [atL]
theorem atL_succ(G:Nat→Nat)(i:Nat):atL G (i+1)=atL G i++[NNG G i+1]:=by simp [atL,List.range_succ]
theorem atL_get(G:Nat→Nat){i k:Nat}(h:k<i):(atL G i).getD k 0=NNG G k+1:=by simp [atL,List.getD,List.getElem?_map,List.getElem?_range h]
def rsN(n:Nat):List Nat:=(List.range n).map (· + 1)
theorem rsN_len(n:Nat):(rsN n).length=n:=by simp [rsN]
theorem rsN_succ(n:Nat):rsN (n+1)=rsN n++[n+1]:=by simp [rsN,List.range_succ]
theorem rsN_not(n:Nat){k:Nat}(h:n<k):k∉rsN n:=by simp [rsN];omega
def Q5(w:World)(hb m:Nat):Nat→Prop:=Plus (Plus (Old w) hb) m
structure BS (K:Nat) (w:World) (hb p q m:Nat) (G:Nat→Nat) (a M i:Nat) (v:Value) (t:RS) (W:World):Prop where
 hs:HeapS False 32768 16 K W hb p q (Own2 (Q5 w hb m) v) t [] z60
 row:W.ownsRow w.heap.size 3 1 v a (zI (atL G a))
 sep:∀ b,v.ownBlock=some b→¬Q5 w hb m b
 map:MapB W m (rsN M)
 len:t.now.length=NNG G i
 chn:∀ j,j<i→Chn t.now (NNG G j) (ccG G j) (xsG G j)
 all:AllB t.now
 k:Rok (Old w) w W
 new:w.heap.size≤hb∧w.heap.size≤m
section
variable {K:Nat} {w:World} {hb p q m:Nat} {G:Nat→Nat} {a M i:Nat} {v:Value} {t:RS} {W W':World}
theorem Q5.old{b:Nat}(h:Old w b):Q5 w hb m b:=Or.inl (Or.inl h)
theorem BS.stay{K':Nat}(h:BS K w hb p q m G a M i v t W)(hP:PrgAt False 32768 16 K' W' p q (Own2 (Q5 w hb m) v) t)(hk:Rok (Own2 (Q5 w hb m) v) W W'):BS K' w hb p q m G a M i v t W':=
 ⟨HeapS.moved h.hs hP (h.hs.heap.rok hk h.hs.mem) h.hs.mem,own_fr h.row hk (fun _ hk' e=>e.1 (Or.inr hk')),h.sep,h.map.stay (hk.at_ (Or.inl (Or.inr rfl)) h.map.lt),h.len,h.chn,h.all,h.k.then hk (fun _ hb=>Or.inl (Q5.old hb)),h.new⟩
theorem BS.below(h:BS K w hb p q m G a M i v t W)(hB:Below W.heap.size W W'):BS K w hb p q m G a M i v t W':=h.stay (h.hs.prg.keep hB) (Rok.of_below hB)
variable {c:Nat}
theorem Chn.stay{P P':List Pg}{N:Nat}{xs:List Nat}(h:Chn P N c xs)(hl:N+c≤P'.length)(hs:∀ j,N≤j→j<N+c→P'.getD j []=P.getD j []):Chn P' N c xs:=
 ⟨fun j hj=>(hs (N+j) (by omega) (by omega)).trans (h.at_ j hj),hl,h.n1,h.n4,h.c1,h.m1,h.m2,h.by_⟩
theorem BS.wrote(h:BS K w hb p q m G a M i v t W){w':World}(hW:Wrote False 32768 16 K p q (Own2 (Q5 w hb m) v) t hb (NNG G i) (ccG G i) (xsG G i) W w'):∃ t',BS (K+3+3*ccG G i) w hb p q m G a M (i+1) v t' w':=by
 obtain ⟨t',h1,h2,h3,h4,h5,h6⟩:=hW
 refine ⟨t',h1,own_fr h.row h6 (fun k hk' e=>e.1 (Or.inr hk')),h.sep,h.map.stay (h6.at_ (Or.inl (Or.inr rfl)) h.map.lt),h2,fun j hj=>?_,h4,h.k.then h6 (fun b hb=>Or.inl (Q5.old hb)),h.new⟩
 rcases Nat.lt_or_ge j i with h7 |h7
 ·have h8:=NN_mono G (show j+1≤i by omega)
  have h9:NNG G (j+1)=NNG G j+ccG G j:=rfl
  exact (h.chn j h7).stay (by rw [h2];omega) (fun k hk1 hk2=>h5 k (by omega))
 ·obtain rfl:j=i:=by omega
  exact h3
theorem BS.noted(h:BS K w hb p q m G a M i v t W)(hm:MapB W' m (rsN (M+1)))(ht:W.mapTurned W' m):BS K w hb p q m G a (M+1) i v t W':=by
 have hg:=ht.grown
 have hf:Fr (fun b=>b=m) W W':=⟨hg.os,hg.tape,hg.output,hg.size,fun k hk hn=>hg.block k hk (fun e=>hn (Option.some.inj e))⟩
 have hq:Q5 w hb m m:=Or.inr rfl
 refine ⟨HeapS.moved h.hs (h.hs.prg.mine (fr_imp hf (fun b hb=>by subst hb;exact Or.inl hq))) (h.hs.heap.fr hf (fun e=>?_)) h.hs.mem,own_fr h.row hf (fun k hk e=>by subst e;exact h.sep _ hk hq),h.sep,hm,h.len,h.chn,h.all,h.k.mine hf (fun b hb=>by have:=h.new;omega),h.new⟩
 have h1:=h.hs.heap
 have h2:=h.map
 obtain ⟨D,⟨es,clock,hg,_⟩,_⟩:=h2
 unfold HeapAt at h1
 rw [e,hg]at h1
 cases h1
theorem BS.app{n:Nat}{ao:Option Addr}(h:BS K w hb p q m G a M i v t W)(hn:n=a+1)(ho:W'.ownsRow 0 3 1 (.slice ao n c) n (zI (atL G a)++[.int .i64 ((NNG G a+1:Nat):Int)]))(hg:W.grownBy W' v.ownBlock)(ha:∀ x,ao=some x→(v.ownBlock=some x.block∨x.block=W.heap.size)):BS K w hb p q m G (a+1) M i (.slice ao n c) t W':=by
 subst hn
 have hf:Fr (fun b=>v.ownBlock=some b) W W':=⟨hg.os,hg.tape,hg.output,hg.size,fun k hk hn=>hg.block k hk (fun e=>hn e.symm)⟩
 have hv:∀ b,(Value.slice ao (a+1) c).ownBlock=some b→v.ownBlock=some b∨(W.heap.size≤b∧b<W'.heap.size):=fun b hb=>by
  cases ao with
  | none=>cases hb
  | some x=>
   have hb2:=rr_blk ho hb
   cases hb
   rcases ha x rfl with h1 |h1
   ·exact Or.inl h1
   ·exact Or.inr ⟨by rw [h1];exact Nat.le_refl _,hb2.2⟩
 have hQv:∀ b,Q5 w hb m b→¬v.ownBlock=some b:=fun b hb e=>h.sep b e hb
 have hz:zI (atL G (a+1))=zI (atL G a)++[.int .i64 ((NNG G a+1:Nat):Int)]:=by rw [atL_succ,zI_append];rfl
 refine ⟨⟨h.hs.prg.grow hf hv,h.hs.heap.fr hf (hQv hb (Or.inl (Or.inr rfl))),Or.inl (Or.inl (Or.inr rfl)),h.hs.lay,h.hs.busy,h.hs.sur⟩,?_,fun b hb hq=>?_,h.map.stay (hf.blk m h.map.lt (hQv m (Or.inr rfl))),h.len,h.chn,h.all,h.k.mine hf (fun b hb=>(rr_blk h.row hb).1),h.new⟩
 ·rw [hz]
  refine rr_up ho (fun k hk=>?_)
  rcases hv k hk with h1 |h1
  ·exact (rr_blk h.row h1).1
  ·have:=h.k.size;omega
 ·rcases hv b hb with h1 |h1
  ·exact h.sep b h1 hq
  ·have:=h.hs.prg.lt (b:=b) (Or.inl hq);omega
end
end Spl
namespace Spl
open Go.RowKit Go.Maps
open Dsk (gt hid undrew keep_old keep_cell lt_cell newD)
open Jrn (Rd bs bs_length bs_one bs_get bs_get' bs_append rd_own Row5 putN putN_length numAt rootN trunkN Pv2)
open Cch (Fr)
structure LS (K:Nat) (w:World) (hb p q:Nat) (R:Nat→Prop) (G:Nat→Nat) (a z:Nat) (v:Value) (t:RS) (tr:List (Nat×List Nat)) (W:World):Prop where
 hs:HeapS False 32768 16 K W hb p q R t tr z60
 row:W.ownsRow w.heap.size 3 1 v a (zI (atL G a))
 own:∀ b,v.ownBlock=some b→R b
 old:∀ b,Old w b→R b
 chn:∀ j,j<a→j≠z→Chn t.now (NNG G j) (ccG G j) (xsG G j)
 all:AllB t.now
 k:Rok (Old w) w W
 len:t.now.length≤4000
section
variable {K:Nat} {w:World} {hb p q m:Nat} {R:Nat→Prop} {G:Nat→Nat} {a z M:Nat} {v:Value} {t:RS} {tr:List (Nat×List Nat)} {W W':World}
variable {K':Nat}
theorem LS.stay(h:LS K w hb p q R G a z v t tr W)(hP:PrgAt False 32768 16 K' W' p q R t)(hk:Rok R W W'):LS K' w hb p q R G a z v t tr W':=
 ⟨⟨hP,h.hs.heap.rok hk h.hs.mem,h.hs.mem,h.hs.lay,h.hs.busy,h.hs.sur⟩,own_fr h.row hk (fun k hk' e=>e.1 (h.own k hk')),h.own,h.old,h.chn,h.all,h.k.then hk h.old,h.len⟩
theorem LS.below(h:LS K w hb p q R G a z v t tr W)(hB:Below W.heap.size W W'):LS K w hb p q R G a z v t tr W':=h.stay (h.hs.prg.keep hB) (Rok.of_below hB)
theorem LS.up(h:LS K w hb p q R G a z v t tr W)(hk:K≤K'):LS K' w hb p q R G a z v t tr W:=⟨⟨h.hs.prg.up hk,h.hs.heap,h.hs.mem,h.hs.lay,h.hs.busy,h.hs.sur⟩,h.row,h.own,h.old,h.chn,h.all,h.k,h.len⟩
theorem LS.of(h:BS K w hb p q m G a M a v t W)(ha:a≤12)(hG:Gave False 32768 16 K' p q (Own2 (Q5 w hb m) v) t hb (NNG G z) (ccG G z) W W'):∃ t',LS K' w hb p q (Own2 (Q5 w hb m) v) G a z v t' (trI (NNG G z) (ccG G z)) W':=by
 obtain ⟨t',g1,g2,g3,g4,g5⟩:=hG
 have hN:=NN_le G a
 have hl:=h.len
 refine ⟨t',g1,own_fr h.row g5 (fun k hk' e=>e.1 (Or.inr hk')),fun b hb=>Or.inr hb,fun b hb=>Or.inl (Q5.old hb),fun j hj hjz=>?_,g3,h.k.then g5 (fun b hb=>Or.inl (Q5.old hb)),by omega⟩
 have hC:=h.chn j hj
 have h1:=hC.len;have h2:=hC.n1
 refine hC.stay (by rw [g2];exact h1) (fun k hk1 hk2=>g4 k (by omega) ?_)
 rcases Nat.lt_or_gt_of_ne hjz with h3 |h3
 ·have h4:=NN_mono G (show j+1≤z by omega)
  have h5:NNG G (j+1)=NNG G j+ccG G j:=rfl
  omega
 ·have h4:=NN_mono G (show z+1≤j by omega)
  have h5:NNG G (z+1)=NNG G z+ccG G z:=rfl
  have h6:=cc_le G z
  omega
theorem LS.cell{ga cp:Nat}(h:LS K w hb p q R G a z (.slice (some ⟨ga,0,none⟩) a cp) t tr W){j:Nat}(hj:j<a):W.cell? ⟨ga,j,none⟩=some (.int .i64 ((NNG G j+1:Nat):Int)):=by
 have d0:=(h.row.cellAt j (by omega)).trans (zI_get (by rw [atL_len];exact hj))
 rw [atL_get G hj]at d0
 exact d0
theorem LS.read(h:LS K w hb p q R G a z v t tr W){j:Nat}(hj:j<a)(hjz:j≠z)(hK:K+100≤800000) :
  Calls Tryz.prog 13 #[.pointer (some ⟨hb,0,none⟩),.int .i64 ((NNG G j+1:Nat):Int),.int .i64 (kkG G j:Int)] W fun e W'=>∃ ao c,e=.returned (.tuple #[.slice ao (kkG G j) c,.int .i64 0])∧Rd W' ao (kkG G j) c (xsG G j)∧LS (K+40) w hb p q R G a z v t tr W':=by
 have hkk:=kk_le G j;have hcc:=cc_le G j
 have hpb:t.pages=t.now:=RS.pages_busy h.hs.busy
 have hC:=h.chn j hj hjz
 have hxl:(xsG G j).length=kkG G j:=byteL_length _ _
 refine (Read_any hb (kkG G j) (ccG G j) ((NNG G j+1:Nat):Int) h.hs.prg h.hs.heap h.hs.mem (fun b hb=>h.hs.prg.lt hb) hkk.1 hkk.2 rfl (by rw [hpb];exact h.hs.lay.ln) (by rw [hpb];exact h.all.page _) hK).mono ?_
 rw [hpb]
 rintro e W' ⟨hk,⟨_,ao,c,rfl,_,hrow,hP⟩ | ⟨hno,_⟩⟩
 ·have hw:=hC.whole
  rw [hxl]at hw
  rw [hw]at hrow
  obtain ⟨ao',c',he,hr⟩:=Jrn.rd_owned hrow
  cases he
  exact ⟨ao,c,rfl,hr,h.stay ((hP.less (fun b hb=>Or.inl hb)).up (by omega)) hk⟩
 ·refine absurd ((hC.rdok (n:=kkG G j) (by have:=hC.m1;rw [hxl]at this;have:ccG G j=(kkG G j - 1)/508+1:=rfl;omega)).2 ?_) hno
  rw [List.drop_eq_nil_of_le (by omega)];rfl
end
end Spl
namespace Spl
open Go.RowKit Go.Maps
open Dsk (gt hid undrew keep_old keep_cell lt_cell newD)
open Jrn (Rd bs bs_length bs_one bs_get bs_get' bs_append rd_own Row5 putN putN_length numAt rootN trunkN Pv2)
open Cch (Fr wpAnyK wpAnyK_done wp_region_K)
def U16s(w:World)(b off L:Nat)(G:Nat→Nat):Prop:=∀ i,i<L→w.cell? ⟨b,off+i,none⟩=some (.int .u16 (G i:Int))∧G i<65536
def U16V(w:World)(lo:Option Addr)(L:Nat)(G:Nat→Nat):Prop:=0<L→∃ b off,lo=some ⟨b,off,none⟩∧U16s w b off L G
variable {m:Nat} {w:World}
theorem BS.start{G:Nat→Nat}{w1 w3:World}{hb p:Nat}(S1:HeapS False 32768 16 3 w1 hb p w.heap.size (Plus (Old w) hb) T1 [] z60)(K1:Rok (Old w) w w1)(hhb:w.heap.size≤hb)(hm:m=w1.heap.size)(hm3:MapB w3 m ([]++[1]))(ht3:(w1.alloc (.map #[] 0)).mapTurned w3 m):BS 3 w hb p w.heap.size m G 0 1 0 (.slice none 0 0) T1 w3:=by
 subst hm
 have B2:Below w1.heap.size w1 (w1.alloc (.map #[] 0)):=Below.alloc (Below.refl _ _) (Nat.le_refl _) _
 have P2:PrgAt False 32768 16 3 (w1.alloc (.map #[] 0)) p w.heap.size (Own2 (Q5 w hb w1.heap.size) (.slice none 0 0)) T1:=S1.prg.more B2 (fun b hb'=>by
  rcases hb' with h1 |h1
  ·rcases h1 with h1 |h1
   ·exact Or.inl h1
   ·rw [h1];exact Or.inr ⟨Nat.le_refl _,by simp⟩
  ·cases h1)
 have hB:BS 3 w hb p w.heap.size w1.heap.size G 0 0 0 (.slice none 0 0) T1 (w1.alloc (.map #[] 0)):=⟨HeapS.moved S1 P2 (S1.heap.keep B2) (Or.inl (Or.inl (Or.inr rfl))),⟨rfl,Or.inl ⟨rfl,rfl⟩⟩,fun b hb'=>(by cases hb'),MapB.new w1,T1_len,fun j hj=>(by omega),T1_all,K1.below B2,⟨hhb,K1.size⟩⟩
 exact hB.noted hm3 ht3
variable {w':World}
theorem fr_grown2(hg:w.grownBy w' (some m)):Fr (fun b=>b=m) w w':=⟨hg.os,hg.tape,hg.output,hg.size,fun k hk hn=>hg.block k hk (fun e=>hn (Option.some.inj e))⟩
theorem U16s.keep{b off L:Nat}{G:Nat→Nat}(h:U16s w b off L G)(hb:Below w.heap.size w w'):U16s w' b off L G:=fun i hi=>⟨keep_old hb (h i hi).1,(h i hi).2⟩
theorem back_long(lo:Option Addr)(L C:Nat)(z:Int)(w:World)(hL:L=0∨12<L)(hL2:L≤9223372036854775807) :
  Calls Tryz.prog 3 #[.slice lo L C,.int .u64 z] w fun e w'=>e=.returned (.bool true)∧Below w.heap.size w w':=by
 rcases hL with rfl |hL
 ·go_enter Tryz.func3,Tryz.ntmps3
  go_wp2_with (go_at_call 5;refine (slives_any _).mono ?_;rintro e w3 ⟨rfl,hw⟩;obtain rfl:=hw.symm)
  go_ret
  exact ⟨rfl,Below.refl _ _⟩
 ·have h1:(12:Int)<(L:Int):=by omega
  have h2:¬(L:Int)=0:=by omega
  have h3:¬L=0:=by omega
  go_enter Tryz.func3,Tryz.ntmps3
  go_wp2_with (go_at_call 5;refine (slives_any _).mono ?_;rintro e w3 ⟨rfl,hw⟩;obtain rfl:=hw.symm)
  go_ret
  exact ⟨rfl,Below.refl _ _⟩
theorem back_yes(lo:Option Addr)(L C:Nat)(G:Nat→Nat)(z:Nat)(w:World)(hT:Jrn.Tab w)(h0:0<w.heap.size)(h:U16V w lo L G)(hL1:1≤L)(hL:L≤12)(hz:z<18446744073709551616) :
  Calls Tryz.prog 3 #[.slice lo L C,.int .u64 (z:Int)] w fun e w'=>e=.returned (.bool true)∧Below w.heap.size w w':=by
 obtain ⟨lb,lf,rfl,hU⟩:=h (by omega)
 have h1:¬(12:Int)<(L:Int):=by omega
 have h2:¬(L:Int)=0:=by omega
 have h3:¬L=0:=by omega
 have HU:=hid hU
 have CF:=hid (sfresh_any w hT h0)
 clear hU hT h0 h
 have mk:=fun W=>run_makeMap (P:=Tryz.prog) 29 W
 go_enter Tryz.func3,Tryz.ntmps3
 go_upto_region 7 with (go_at_call 6;refine CF.out.mono ?_;rintro e w1 ⟨p,hb,rfl,hhb,hS,hk⟩;have S1:=hid hS;have K1:=hid hk;have HB:=hid hhb;clear hS hk hhb)
 clear CF
 obtain ⟨w3,up,hm3,ht3⟩:=(MapB.new w1).put (k:=1) (by omega) (by simp) (by simp)
 rw [show ((1:Nat):Int)=1 from rfl]at up
 obtain ⟨m,hmE⟩:∃ m,m=w1.heap.size:=⟨_,rfl⟩
 obtain ⟨q,hq⟩:∃ q,q=w.heap.size:=⟨_,rfl⟩
 have hBS:BS 3 w hb p q m G 0 1 0 (.slice none 0 0) T1 w3:=by rw [hq];exact BS.start S1.out K1.out HB.out hmE (by rw [hmE];exact hm3) (by rw [hmE];exact ht3)
 have B0:=hid hBS
 go_upto_region 8 with fail
 rw [←hmE]
 clear hBS up hm3 ht3 hmE mk S1 K1 HB
 go_wp2
 go_loopw [7,48] (fun v7 cc W=>∃ (i:Nat) (ao:Option Addr) (cp:Nat),i≤L∧v7=.slice ao i cp∧cc=.int .i64 (i:Int)∧Hid (∃ t,BS (3+200*i) w hb p q m G i (NNG G i) i (.slice ao i cp) t W)) (fun _ cc _=>L - (Lib.intOf cc).toNat)
 case atStart=>exact ⟨0,none,0,by omega,rfl,rfl,hid ⟨T1,B0.out⟩⟩
 case round=>
  obtain ⟨i,ao,cp,hi,rfl,rfl,hB⟩:=hrel
  clear B0
  obtain ⟨t,hBt⟩:=hB.out
  have BI:=hid hBt
  have HUw:=HU.out.keep (old_below hBt.k)
  clear hB hBt
  by_cases hiL:i<L
  ·have hiI:(i:Int)<(L:Int):=by omega
   have c0:=(HUw i hiL).1
   have hgb:=(HUw i hiL).2
   have hkk:=kk_le G i;have hcc:=cc_le G i;have hNN:=NN_le G i
   have HKK:=hid (show (1:Int)+(G i:Int) % 20000=(kkG G i:Int) by unfold kkG;omega)
   have hccE:ccG G i=(kkG G i - 1)/508+1:=rfl
   have HCE:=hid hccE
   have HLen:=hid BI.out.len
   have CB:=hid (fun W=>bytes_any (kkG G i) i (by omega) (by omega) W)
   have CW:=hid (fun W g (hB:Below wr.heap.size wr W) (hr:RowB W g (xsG G i)) (hg:wr.heap.size≤g)=>wr_any hb (kkG G i) (ccG G i) g (NNG G i) (xsG G i) BI.out.hs BI.out.all hB hr hg (byteL_length _ _) (byteL_bytes _ _) hkk.1 hkk.2 rfl BI.out.len.symm (by omega) (by omega))
   have CCk:=hid (fun W=>count_any (kkG G i:Int) ⟨by omega,by omega⟩ W)
   rw [countN _ hkk.1,←hccE]at CCk
   clear HUw hccE
   go_upto_region 12 with fail
   rw [HKK.out]
   clear c0 hgb HKK
   have HXG:Hid (byteL (kkG G i) i=xsG G i):=hid rfl
   rw [HXG.out]at CB
   obtain ⟨kk,hkE⟩:∃ kk,kk=kkG G i:=⟨_,rfl⟩
   obtain ⟨cc,hcE⟩:∃ cc,cc=ccG G i:=⟨_,rfl⟩
   obtain ⟨N,hNE⟩:∃ N,N=NNG G i:=⟨_,rfl⟩
   rw [←hkE]at hkk CB CW CCk HCE ⊢
   rw [←hcE]at hcc CW CCk HCE
   rw [←hNE]at hNN CW
   have HkE:=hid hkE;have HcE:=hid hcE;have HNE:=hid hNE
   clear hkE hcE hNE
   obtain ⟨V,hV⟩:∃ V:Int,V=((N+1:Nat):Int):=⟨_,rfl⟩
   rw [←hV]at CW
   have HV:=hid hV
   clear hV
   go_upto_region 15 with (first
    | (go_at_call 8;refine (CB.out _).mono ?_;rintro e w5 ⟨g,rfl,hr,hg,hB⟩;have CX:=hid (CW.out w5 g hB hr hg);clear hr hg hB)
    | (go_at_call 7;refine CX.out.mono ?_;rintro e w6 ⟨rfl,hWr⟩;have WR:=hid hWr;clear hWr))
   clear CB CW
   obtain ⟨t6,B6'⟩:=BS.wrote BI.out (by rw [←HNE.out,←HcE.out];exact WR.out)
   rw [←HcE.out]at B6'
   have B6:=hid B6'
   clear B6' WR CX BI
   have hpb:t6.pages=t6.now:=RS.pages_busy B6.out.hs.busy
   have hCh:=B6.out.chn i (by omega)
   rw [←HNE.out,←HcE.out]at hCh
   have CP:=Pages_any hb kk cc ((N+1:Nat):Int) B6.out.hs.prg B6.out.hs.heap B6.out.hs.mem (fun b hb=>B6.out.hs.prg.lt hb) hkk.1 hkk.2 HCE.out (by rw [hpb];exact B6.out.hs.lay.ln) (by rw [hpb];exact B6.out.all.page _) (by omega)
   rw [hpb]at CP
   have hPO:=hCh.pgok;have hPV:=hCh.pgv
   rw [hPV]at CP
   rw [←HV.out]at CP hPO
   have CPP:=hid CP;have HPO:=hid hPO
   clear hpb hCh CP hPO hPV
   go_upto_region 16 with (go_at_call 9;refine CPP.out.mono ?_;rintro e w7 ⟨hk7,⟨_,a2,c2,rfl,ho7,hp7⟩ | ⟨hno,_⟩⟩;rotate_left;exact absurd HPO.out hno;have K7:=hid hk7;have O7:=hid ho7;have P7:=hid hp7;clear hk7 ho7 hp7)
   clear CPP HPO
   have B7:=hid (B6.out.stay (P7.out.less (fun b hb=>Or.inl hb)) K7.out)
   obtain ⟨g2,cg,hv2,hg21,hg22⟩:=O7.out.form (by omega)
   cases hv2
   have d0:=(O7.out.cellAt 0 (by omega)).trans (zI_get (by rw [pgL_len];omega))
   rw [pgL_get (show 0<cc by omega),show N+1+0=N+1 from rfl,←HV.out]at d0
   have ky:¬(cc:Int)=0:=by omega
   have ky2:¬cc=0:=by omega
   have O7':=hid (rr_base O7.out (Nat.zero_le _))
   have hg2m:g2≠m:=by have h1:=B6.out.map.lt;omega
   clear O7 P7 K7 B6
   go_wp2_with (go_at_call 10;refine (CCk.out _).mono ?_;rintro e w8 ⟨rfl,hw⟩;obtain rfl:=hw.symm)
   clear CCk d0
   go_loopw [102] (fun cj W=>∃ j:Nat,j≤cc∧cj=.int .i64 (j:Int)∧Hid (BS (3+200*i+3+3*cc+cc) w hb p q m G i (N+j) (i+1) (.slice ao i cp) t6 W∧W.ownsRow 0 3 1 (.slice (some ⟨g2,0,none⟩) cc c2) cc (zI (pgL N cc)))) (fun cj _=>cc - (Lib.intOf cj).toNat)
   case atStart=>exact ⟨0,by omega,rfl,hid ⟨by rw [HNE.out];exact B7.out,O7'.out⟩⟩
   case round=>
    clear B7 O7'
    obtain ⟨j,hj,rfl,HH⟩:=hrel
    by_cases hjc:j<cc
    ·have hjI:(j:Int)<(cc:Int):=by omega
     have e0:=(HH.out.2.cellAt j (by omega)).trans (zI_get (by rw [pgL_len];exact hjc))
     rw [pgL_get hjc]at e0
     have lk:=HH.out.1.map.look (k:=N+1+j) (by omega)
     rw [decide_eq_false (rsN_not (N+j) (by omega))]at lk
     obtain ⟨w9,up9,hm9,ht9⟩:=HH.out.1.map.put (k:=N+1+j) (by omega) (by rw [rsN_len];omega) (rsN_not (N+j) (by omega))
     rw [show N+1+j=N+j+1 by omega]at hm9
     rw [←rsN_succ]at hm9
     have B9:=hid (HH.out.1.noted hm9 ht9)
     have O9:=hid (own_fr HH.out.2 (fr_grown2 ht9.grown) (fun k hk e=>by cases hk;exact hg2m e))
     obtain ⟨X,hX⟩:∃ X:Int,X=((N+1+j:Nat):Int):=⟨_,rfl⟩
     rw [←hX]at e0 lk up9
     clear hX hm9 ht9
     go_wp2
     exact ⟨⟨j+1,by omega,by go_num,hid ⟨B9.out,O9.out⟩⟩,by simp [Lib.intOf];omega⟩
    ·obtain rfl:j=cc:=by omega
     have hNs:NNG G (i+1)=N+j:=by show NNG G i+ccG G i=_;rw [←HNE.out,←HcE.out]
     have BX:=HH.out.1
     have BY:=hid (BX.below (show Below wr.heap.size wr (wr.alloc (.cells #[.int .i64 V] 3)) from Below.alloc (Below.refl _ _) (Nat.le_refl _) _))
     have SR:=hid (lit_src wr [.int .i64 V] 3 (by intro x hx;simp at hx;subst hx;rfl))
     have HNs:=hid hNs
     clear HH BX hNs
     go_wp2_with ((with_reducible refine Dsk.here_op 115 ?_);refine Cch.wpList_app rfl (.tmp 112) (.tmp 114) el41 rfl (.slice ao i cp) i _ rfl (rr_base BY.out.row (Nat.zero_le _)) (some ⟨wr.heap.size,0,none⟩) 1 1 [.int .i64 V] rfl SR.out (by omega) ?_;intro a4 c4 w4 ho4 hg4 ha4;have B4:=hid (BY.out.app rfl (by rw [HV.out,HNE.out]at ho4;exact ho4) hg4 ha4);clear ho4 hg4 ha4)
     refine ⟨⟨i+1,a4,c4,by omega,rfl,by go_num,hid ⟨t6,?_⟩⟩,by simp [Lib.intOf];omega⟩
     rw [HNs.out]
     have h9:=B4.out
     exact ⟨HeapS.moved h9.hs (h9.hs.prg.up (by omega)) h9.hs.heap h9.hs.mem,h9.row,h9.sep,h9.map,h9.len,h9.chn,h9.all,h9.k,h9.new⟩
  ·obtain rfl:i=L:=by omega
   clear h1 h2 h3
   obtain ⟨wz,hwz⟩:∃ wz,wz=z % i:=⟨_,rfl⟩
   have hwl:wz<i:=by rw [hwz];exact Nat.mod_lt _ (by omega)
   have hzm:(z:Int) % (i:Int)=(wz:Int):=by rw [hwz];omega
   have c0:=(HUw wz hwl).1
   have hgb:=(HUw wz hwl).2
   have hkk:=kk_le G wz;have hcc:=cc_le G wz;have hNN:=NN_le G wz
   have HKK:=hid (show (1:Int)+(G wz:Int) % 20000=(kkG G wz:Int) by unfold kkG;omega)
   have HXL:=hid (show kkG G wz=(xsG G wz).length from (byteL_length _ _).symm)
   have HCE:=hid (show ccG G wz=(kkG G wz - 1)/508+1 from rfl)
   have hlen:t.now.length≤4000:=by rw [BI.out.len];have:=NN_le G i;omega
   have HLen:=hid hlen
   clear hwz HUw hlen
   go_upto_region 29 with fail
   rw [HKK.out]
   clear c0 hgb HKK hzm
   obtain ⟨kk,hkE⟩:∃ kk,kk=kkG G wz:=⟨_,rfl⟩
   obtain ⟨cc,hcE⟩:∃ cc,cc=ccG G wz:=⟨_,rfl⟩
   obtain ⟨N,hNE⟩:∃ N,N=NNG G wz:=⟨_,rfl⟩
   rw [←hkE]at hkk HCE HXL ⊢
   rw [←hcE]at hcc HCE
   rw [←hNE]at hNN
   have HcE:=hid hcE;have HNE:=hid hNE
   obtain ⟨ga,cg,hva,_,_⟩:=BI.out.row.form (by omega)
   cases hva
   have hCh:=BI.out.chn wz hwl
   rw [←hNE,←hcE]at hCh
   have HCh:=hid hCh
   obtain ⟨V,hV⟩:∃ V:Int,V=((N+1:Nat):Int):=⟨_,rfl⟩
   have HV:=hid hV
   have hpb:t.pages=t.now:=RS.pages_busy BI.out.hs.busy
   have CP:=Pages_any hb kk cc ((N+1:Nat):Int) BI.out.hs.prg BI.out.hs.heap BI.out.hs.mem (fun b hb=>BI.out.hs.prg.lt hb) hkk.1 hkk.2 HCE.out (by rw [hpb];exact BI.out.hs.lay.ln) (by rw [hpb];exact BI.out.all.page _) (by omega)
   rw [hpb]at CP
   have hPO:=hCh.pgok
   rw [←hV]at CP hPO
   have CPP:=hid CP;have HPO:=hid hPO
   have d0:=(BI.out.row.cellAt wz (by omega)).trans (zI_get (by rw [atL_len];exact hwl))
   rw [atL_get G hwl,←hNE,←hV]at d0
   clear hpb hCh CP hPO hV hkE hcE hNE
   go_upto_region 30 with (go_at_call 9;refine CPP.out.mono ?_;rintro e w7 ⟨hk7,⟨_,a2,c2,rfl,ho7,hp7⟩ | ⟨hno,_⟩⟩;rotate_left;exact absurd HPO.out hno;have K7:=hid hk7;have P7:=hid hp7;clear hk7 ho7 hp7)
   clear CPP HPO d0
   have B7:=hid (BI.out.stay (P7.out.less (fun b hb=>Or.inl hb)) K7.out)
   clear BI P7 K7
   have d0:=(B7.out.row.cellAt wz (by omega)).trans (zI_get (by rw [atL_len];exact hwl))
   rw [atL_get G hwl,←HNE.out,←HV.out]at d0
   have CFr:=hid (Free_yes hb N cc kk (xsG G wz) B7.out.hs B7.out.all HCh.out HXL.out hkk.2 HLen.out (by omega))
   rw [←HV.out]at CFr
   go_upto_region 32 with (go_at_call 11;refine CFr.out.mono ?_;rintro e w8 ⟨rfl,hG8⟩;have G8:=hid hG8;clear hG8)
   clear CFr d0
   obtain ⟨t8,hL8⟩:=LS.of (z:=wz) B7.out hL (by rw [←HNE.out,←HcE.out];exact G8.out)
   rw [←HNE.out,←HcE.out]at hL8
   have L8:=hid hL8
   have CAl:=hid (all_yes hL8.hs hL8.len (by omega))
   rw [trI_flat]at CAl
   clear hL8 G8 B7 HCh
   go_wp2_with (go_at_call 12;refine CAl.out.mono ?_;rintro e w9 ⟨a9,c9,rfl,_,hp9,hk9⟩;have L9:=hid (L8.out.stay (hp9.less (fun b hb=>Or.inl hb)) hk9);clear hp9 hk9)
   clear CAl L8
   have HK9:=hid (show 3+200*i+cc+3+7*cc+1+(trI N cc).length≤4000 by
    have:(trI N cc).length≤1:=by cases cc<;>simp [trI]
    omega)
   replace L9:=hid (L9.out.up HK9.out)
   clear HK9
   go_loopw [164] (fun cj W=>∃ j:Nat,j≤i∧cj=.int .i64 (j:Int)∧Hid (LS (4000+40*j) w hb p q (Own2 (Q5 w hb m) (.slice (some ⟨ga,0,none⟩) i cp)) G i wz (.slice (some ⟨ga,0,none⟩) i cp) t8 (trI N cc) W)) (fun cj _=>i - (Lib.intOf cj).toNat)
   case atStart=>exact ⟨0,by omega,rfl,L9⟩
   case round=>
    clear L9
    obtain ⟨j,hj,rfl,HH⟩:=hrel
    by_cases hji:j<i
    ·have hjI:(j:Int)<(i:Int):=by omega
     have hUj:=HU.out.keep (old_below HH.out.k) j hji
     have c0:=hUj.1;have hgb:=hUj.2
     clear hUj
     by_cases hjw:j=wz
     ·have hjwI:(j:Int)=(wz:Int):=by omega
      have L4:=hid (HH.out.up (show 4000+40*j≤4000+40*(j+1) by omega))
      clear HH
      subst hjw
      go_wp2
      exact ⟨⟨j+1,by omega,by go_num,L4⟩,by simp [Lib.intOf];omega⟩
     ·have hjwI:¬(j:Int)=(wz:Int):=by omega
      have HKj:=hid (show (1:Int)+(G j:Int) % 20000=(kkG G j:Int) by unfold kkG;omega)
      have e0:=HH.out.cell hji
      have CR:=hid (HH.out.read hji hjw (by omega))
      obtain ⟨V2,hV2⟩:∃ V2:Int,V2=((NNG G j+1:Nat):Int):=⟨_,rfl⟩
      rw [←hV2]at e0 CR
      have hkj:=kk_le G j
      clear hV2 HH
      go_upto_region 40 with fail
      rw [HKj.out]
      have CBj:=hid (fun W=>bytes_any (kkG G j) j (by omega) (by omega) W)
      have HXj:=hid (show byteL (kkG G j) j=xsG G j from rfl)
      rw [HXj.out]at CBj
      have HXl:=hid (show (xsG G j).length=kkG G j from byteL_length _ _)
      obtain ⟨kj,hkjE⟩:∃ kj,kj=kkG G j:=⟨_,rfl⟩
      obtain ⟨xj,hxjE⟩:∃ xj,xj=xsG G j:=⟨_,rfl⟩
      rw [←hkjE]at hkj CBj CR HXl ⊢
      rw [←hxjE]at CBj CR HXl
      clear hkjE hxjE c0 hgb HKj HXj
      go_upto_region 41 with (go_at_call 13;refine CR.out.mono ?_;rintro e w4 ⟨a4,c4,rfl,hr4,hL4⟩;have R4:=hid hr4;have L4:=hid hL4;clear hr4 hL4)
      clear CR e0
      have cv:∀ W a n c,Rd W a n c xj→(convert 34 9 (.slice a n c)).run Tryz.prog W=.ok (.string (Jrn.str xj)) W:=fun W a n c hr=>Jrn.conv_rd hr 34 9 5 (by kernel_rfl) (by kernel_rfl) (by kernel_rfl)
      have CV:=hid cv
      have L5:=hid (L4.out.below ((Below.refl _ _).drew))
      have R5:=hid (R4.out.keep ((Below.refl _ _).drew))
      have g1:=CV.out _ _ _ _ R5.out
      clear cv L4 R4
      generalize Jrn.str xj=sx at *
      refine wp_region_K (S:=fun W=>(convert 34 9 (.slice a4 kj c4)).run Tryz.prog W=.ok (.string sx) W) (fun _=>false) (by kernel_rfl) g1 (fun hHeld=>?_)
      refine gkp 0 ?_
      refine gkp 1 ?_ (v:=.bool false) (h:=by intro W hSw;go_simp<;>first |done |decide |rfl)
      refine gkp 2 ?_
      refine gkp 3 ?_
      refine gkt 4 ?_ (h:=by intro W hSw;go_simp;first |done |with_reducible rfl)
      refine gkp 5 ?_
      refine gkp 6 ?_
      refine gk1 7 (fun K hK=>?_)
      go_simp
      go_at_call 8;refine (CBj.out _).mono ?_;rintro e w6 ⟨g,rfl,hrow,hg,hB⟩;have L6:=hid (L5.out.below hB);have hR:=CV.out _ _ _ _ (R5.out.keep hB);have C6:=hid (CV.out _ _ _ _ (hrow.rd HXl.out));clear hrow hg hB
      refine hK.out _ _ hR (fun hHeld=>?_)
      clear hK K hR
      (try simp only [Act.put,sA,sZ,sS])
      have hH2:(convert 34 9 (.slice a4 kj c4)).run Tryz.prog w6=.ok (.string sx) w6∧(convert 34 9 (.slice (some ⟨g,0,none⟩) kj kj)).run Tryz.prog w6=.ok (.string sx) w6:=⟨hHeld,C6.out⟩
      refine wpAnyK_more (S':=fun W=>(convert 34 9 (.slice a4 kj c4)).run Tryz.prog W=.ok (.string sx) W∧(convert 34 9 (.slice (some ⟨g,0,none⟩) kj kj)).run Tryz.prog W=.ok (.string sx) W) (fun _ h=>h.1) ?_
      clear hHeld
      refine gkt 8 ?_ (h:=by intro W hSw;obtain ⟨y0,y1⟩:=hSw;go_simp;first |done |with_reducible rfl)
      refine gkp 9 ?_ (v:=.bool false) (h:=by intro W hSw;go_simp<;>first |done |simp)
      refine gkp 10 ?_
      refine wpAnyK_done (by kernel_rfl) ?_ _
      clear g1 hH2 CV
      go_wp2
      exact ⟨⟨j+1,by omega,by go_num,hid (L6.out.up (by omega))⟩,by simp [Lib.intOf];omega⟩
    ·obtain rfl:j=i:=by omega
     have HE:=hid (old_below HH.out.k)
     clear HH
     go_wp2_with (go_at_call 5;refine (slives_any _).mono ?_;rintro e w10 ⟨rfl,hw⟩;obtain rfl:=hw.symm)
     go_ret
     exact ⟨rfl,HE.out⟩
end Spl
end Go.Proofs.YtneemfbnjkcflaaGreatDoor
