/- Trim of the document's heap; no statement of the seat is proved here. -/
import Derived.Test.YtgjgkpnjchflaaaGreatDoorS41
import Derived.Test.YtgjgkpnjchflaaaGreatDoorS40
import Derived.Test.YtgjgkpnjchflaaaGreatDoorS39
set_option maxHeartbeats 16000000
set_option maxRecDepth 20000
namespace Go.Proofs.YtgjgkpnjchflaaaGreatDoor
section
open Go.RowKit Go.Maps
open Dsk (gt hid undrew keep_old keep_cell lt_cell Rd op_at)
open Cch (Fr)
theorem trimL_next{n:Nat}(all:List Nat)(h:2≤n):trimL n all=trimL (n - 1) all++(if n∈all then [n] else []):=by
 obtain ⟨m,rfl⟩:∃ m,n=m+2:=⟨n - 2,by omega⟩
 unfold trimL
 rw [show m+2 - 1=m+1 by omega,show m+1 - 1=m by omega,List.range'_1_concat,List.filter_append]
 congr 1
 rw [show 2+m=m+2 by omega]
 by_cases hm:m+2∈all
 ·simp [hm]
 ·simp [hm]
section
variable {W W' X X':World} {S S' E:Nat→Prop} {hm N:Nat} {tr T:List (Nat×List Nat)} {wd:List Int} {ao:Option Addr} {F cp:Nat} {all:List Nat}
def JT(S:Nat→Prop)(W:World)(hm N:Nat)(wd:List Int)(ao:Option Addr)(F cp:Nat)(all:List Nat)(T:List (Nat×List Nat))(X:World):Prop:=∃ S',RefH X S' hm T N wd∧(∀ b,S' b→S b∨W.heap.size≤b)∧Fr S W X∧Cch.Src X ao F cp (zI all)∧∀ a,ao=some a→¬S' a.block∧a.block<X.heap.size∧a.off=0∧a.spot=none
theorem JT.to{x:Nat}(h:JT S W hm N wd ao F cp all T X)(hl:T.length≤100000)(hx1:2≤x)(hx:x≤N):Calls Tryz.prog 28 #[.pointer (some ⟨hm,0,none⟩),.int .i64 (x:Int)] X fun e X'=>e=.returned (.int .i64 0)∧JT S W hm N wd ao F cp all (giveT x T) X':=by
 obtain ⟨S',h1,h2,h3,h4,h5⟩:=h
 refine (mgive_any h1 hl hx1 hx).mono ?_
 rintro e X' ⟨he,S2,k1,k2,k3⟩
 refine ⟨he,S2,k1,fun b hb=>?_,h3.trans k2 (fun b hl hb=>?_),⟨h4.len,h4.no,fun ad e j u hu=>?_,h4.one⟩,fun a ha=>?_⟩
 ·rcases k3 b hb with h |h
  ·exact h2 b h
  ·exact Or.inr (Nat.le_trans h3.size h)
 ·rcases h2 b hb with h |h
  ·exact h
  ·omega
 ·obtain ⟨q1,q2,q3,q4⟩:=h5 ad e
  have:=h4.at_ ad e j u hu
  obtain ⟨ab,of,sp⟩:=ad
  simp only at q1 q2 q3 q4
  subst q3;subst q4
  rw [Addr.add_lit]at this ⊢
  exact fr_cell k2 this q1
 ·obtain ⟨q1,q2,q3⟩:=h5 a ha
  refine ⟨fun hb=>?_,Nat.lt_of_lt_of_le q2 k2.size,q3⟩
  rcases k3 _ hb with h |h
  ·exact q1 h
  ·omega
theorem JT.cell(h:JT S W hm N wd ao F cp all T X){i:Nat}(hi:i<F):∃ ab,ao=some ⟨ab,0,none⟩∧i<all.length∧X.cell? ⟨ab,i,none⟩=some (.int .i64 ((all.getD i 0:Nat):Int)):=by
 obtain ⟨S',h1,h2,h3,h4,h5⟩:=h
 have hl:all.length=F:=by have:=h4.len;simpa [zI] using this
 cases ao with
 | none=>have:=(h4.no rfl).1;omega
 | some a=>
  obtain ⟨ab,of,sp⟩:=a
  obtain ⟨_,_,q3,q4⟩:=h5 _ rfl
  simp only at q3 q4
  subst q3;subst q4
  refine ⟨ab,rfl,by omega,?_⟩
  have:=h4.at_ _ rfl i (.int .i64 ((all.getD i 0:Nat):Int)) (by unfold zI;rw [List.getElem?_map,List.getD,List.getElem?_eq_getElem (by omega)];rfl)
  rw [Addr.add_lit]at this
  simpa using this
def oneT(n:Nat)(all:List Nat)(i:Nat)(T:List (Nat×List Nat)):List (Nat×List Nat):=if n∈all.take i then giveT n T else T
variable {n i:Nat}
theorem oneT_next(hi:i<all.length)(hne:all.getD i 0≠n):oneT n all (i+1) T=oneT n all i T:=by
 have e:all.getD i 0=all[i]:=by rw [List.getD,List.getElem?_eq_getElem hi];rfl
 rw [e]at hne
 have h1:n∈all.take (i+1)↔n∈all.take i:=by
  rw [List.take_add_one,List.getElem?_eq_getElem hi,List.mem_append,Option.toList_some,List.mem_singleton]
  exact ⟨fun h=>by rcases h with h |h;exact h;exact absurd h.symm hne,Or.inl⟩
 unfold oneT
 by_cases h:n∈all.take i
 ·rw [if_pos h,if_pos (h1.2 h)]
 ·rw [if_neg h,if_neg (fun k=>h (h1.1 k))]
theorem oneT_hit(hi:i<all.length)(hnd:all.Nodup)(he:all.getD i 0=n):oneT n all i T=T∧oneT n all (i+1) T=giveT n T:=by
 have e:all.getD i 0=all[i]:=by rw [List.getD,List.getElem?_eq_getElem hi];rfl
 rw [e]at he
 have h1:n∉all.take i:=fun hm=>by
  obtain ⟨k,hk,hke⟩:=List.getElem_of_mem hm
  rw [List.length_take]at hk
  rw [List.getElem_take,←he]at hke
  have:=(List.getElem_inj hnd).1 hke
  omega
 refine ⟨if_neg h1,if_pos ?_⟩
 rw [List.take_add_one,List.getElem?_eq_getElem hi]
 simp [he]
theorem mtrim_no{z:Int}(h:RefH W S hm tr N wd)(hz:z<1∨(N:Int)<z):Calls Tryz.prog 29 #[.pointer (some ⟨hm,0,none⟩),.int .i64 z] W fun e W'=>e=.returned (.int .i64 11)∧Below W.heap.size W W':=by
 obtain ⟨_,_,cx,c1⟩:=h.cells
 clear cx h
 by_cases h1:z<1
 ·clear hz
  go_enter Tryz.func29,Tryz.ntmps29
  go_wp2
  go_ret
  exact ⟨rfl,Below.refl _ _⟩
 ·have h2:(N:Int)<z:=by rcases hz with h |h;exact absurd h h1;exact h
  clear hz
  go_enter Tryz.func29,Tryz.ntmps29
  go_wp2
  go_ret
  exact ⟨rfl,Below.refl _ _⟩
theorem mtrim_yes{k:Nat}(h:RefH W S hm tr N wd)(hk1:1≤k)(hk:k≤N)(hN:N≤100000)(hF:(flat tr).length≤50000)(hnd:(flat tr).Nodup):Calls Tryz.prog 29 #[.pointer (some ⟨hm,0,none⟩),.int .i64 (k:Int)] W (DTo S hm (trimT k tr) k wd (.int .i64 0) W):=by
 obtain ⟨_,_,cx,c1⟩:=h.cells
 clear cx
 have CA:=hid (mall_any h (by omega))
 have H:=hid h
 have hk2:¬(k:Int)<1:=by omega
 have hk3:¬(N:Int)<(k:Int):=by omega
 obtain ⟨all,hall⟩:∃ all,all=flat tr:=⟨_,rfl⟩
 obtain ⟨F,hFF⟩:∃ F,F=all.length:=⟨_,rfl⟩
 rw [←hall]at CA hF hnd
 rw [←hFF]at CA hF
 have HALL:=hid hall;have HFF:=hid hFF;have HND:=hid hnd
 clear h hall hFF hnd
 go_enter Tryz.func29,Tryz.ntmps29
 go_wp2_with (go_at_call 14;refine CA.out.mono ?_;rintro e w1 ⟨ao,cp,rfl,ho1,hb1⟩;have O1:=hid ho1;have B1:=hid hb1;have h1:=H.out.fr (Fr.of_below (S:=fun _=>False) hb1) (fun _ _ h=>h);have H1:=hid h1;obtain ⟨_,_,d0,_⟩:=h1.cells;have f0:=h1.froz 0;clear ho1 hb1 h1)
 obtain ⟨X1,hX1⟩:∃ X1,X1=w1.setCell ⟨hm,0,none⟩ (.slice none 0 0):=⟨_,rfl⟩
 rw [←hX1]
 have J1:=hid (show JT S W hm N wd ao F cp all (giveAll (trimL 1 all) []) X1 by
  obtain ⟨q1,q2⟩:=H1.out.list (tr':=[]) (v:=.slice none 0 0) (Or.inl ⟨rfl,rfl⟩)
  rw [←hX1]at q1 q2
  have hsr:Cch.Src w1 ao F cp (zI all):=Cch.src_row (rr_base O1.out (Nat.zero_le _)) (fun u hu=>by unfold zI at hu;obtain ⟨x,_,rfl⟩:=List.mem_map.1 hu;rfl)
  have hfo:∀ a,ao=some a→¬S a.block∧a.block<w1.heap.size∧a.off=0∧a.spot=none:=fun a ha=>by
   obtain ⟨ao',cap,e,hno,hso⟩:=Cch.row_form (rr_base O1.out (Nat.zero_le _))
   simp only [Value.slice.injEq]at e
   obtain ⟨rfl,-,rfl⟩:=e
   obtain ⟨e1,_,e3⟩:=hso a ha
   subst ha
   have e4:=(rr_blk O1.out (k:=a.block) rfl).1
   exact ⟨fun hs=>by have:=H.out.lt _ hs;omega,e3,by rw [e1],by rw [e1]⟩
  refine ⟨S,q1,fun b hb=>Or.inl hb,(Fr.of_below (S:=S) B1.out).trans q2 (fun _ _ h=>h),⟨hsr.len,hsr.no,fun ad e j u hu=>?_,hsr.one⟩,fun a ha=>⟨(hfo a ha).1,Nat.lt_of_lt_of_le (hfo a ha).2.1 q2.size,(hfo a ha).2.2⟩⟩
  obtain ⟨r1,r2,r3,r4⟩:=hfo ad e
  have:=hsr.at_ ad e j u hu
  obtain ⟨ab,of,sp⟩:=ad
  simp only at r1 r2 r3 r4
  subst r3;subst r4
  rw [Addr.add_lit]at this ⊢
  exact fr_cell q2 this r1)
 clear hX1 CA c1 d0 f0
 go_loopg [6] (k+1) (fun cc v6 X=>∃ (n:Nat),n+cc=k+3∧2≤n∧n≤k+1∧v6=.int .i64 (n:Int)∧Hid (JT S W hm N wd ao F cp all (giveAll (trimL (n - 1) all) []) X))
 case atStart=>exact ⟨2,by omega,by omega,by omega,rfl,J1⟩
 case round=>
  obtain ⟨n,hnc,hn2,hnk,rfl,JN⟩:=hrel
  obtain ⟨gk0,hgk0⟩:∃ g,g=gk:=⟨_,rfl⟩
  rw [←hgk0]at hnc
  clear J1
  by_cases hn:n≤k
  ·have hn':(n:Int)≤(k:Int):=by omega
   obtain ⟨T,hT⟩:∃ T,T=giveAll (trimL (n - 1) all) []:=⟨_,rfl⟩
   rw [←hT]at JN
   have hTl:T.length≤100000:=by
    have h1:=flat_len T
    have h2:=(giveAll_perm (trimL (n - 1) all) []).length_eq
    rw [←hT]at h2
    have h3:(trimL (n - 1) all).length≤n - 1 - 1:=by
     have:=List.length_filter_le (fun x=>decide (x∈all)) (List.range' 2 (n - 1 - 1))
     rwa [List.length_range']at this
    simp only [List.length_append,flat,List.flatMap_nil,List.length_nil]at h2
    have h5:(flat T).length=(trimL (n - 1) all).length:=by simpa [flat] using h2
    omega
   have HT:=hid hT;have HTL:=hid hTl
   clear hT hTl
   go_wp2
   go_loopg [31] F (fun cc v31 X=>∃ (i:Nat),i+cc=F∧v31=.int .i64 (i:Int)∧Hid (JT S W hm N wd ao F cp all (oneT n all i T) X))
   case atStart=>exact ⟨0,by omega,rfl,hid (by rw [show oneT n all 0 T=T by simp [oneT]];exact JN.out)⟩
   case round=>
    obtain ⟨i,hic,rfl,JI⟩:=hrel
    clear JN
    by_cases hi:i<F
    ·have hi':(i:Int)<(F:Int):=by omega
     obtain ⟨ab,rfl,hil,cc⟩:=JI.out.cell hi
     obtain ⟨y,hy⟩:∃ y,y=all.getD i 0:=⟨_,rfl⟩
     rw [←hy]at cc
     by_cases hyn:y=n
     ·subst hyn
      obtain ⟨o1,o2⟩:=oneT_hit (T:=T) hil HND.out hy.symm
      have CG:=hid (JI.out.to (x:=y) (by rw [o1];have:=HTL.out;omega) hn2 (by omega))
      rw [o1]at CG
      have HO2:=hid o2
      clear o1 o2 hy hil
      go_wp2_with (go_at_call 28;refine CG.out.mono ?_;rintro e w2 ⟨rfl,hJ2⟩;have J2:=hid hJ2;clear hJ2)
      go_roundg (gk - 1)
      case measure=>omega
      case rel=>exact ⟨i+1,by omega,by go_num,hid (by rw [HO2.out];exact J2.out)⟩
     ·have o1:=oneT_next (T:=T) (n:=n) hil (by rw [←hy];exact hyn)
      have HO1:=hid o1
      have hyn':¬(y:Int)=(n:Int):=by omega
      clear o1 hy hil hyn
      go_wp2
      go_roundg (gk - 1)
      case measure=>omega
      case rel=>exact ⟨i+1,by omega,by go_num,hid (by rw [HO1.out];exact JI.out)⟩
    ·have hi':¬(i:Int)<(F:Int):=by omega
     obtain rfl:i=F:=by omega
     have e1:oneT n all i T=giveAll (trimL n all) []:=by
      rw [trimL_next all hn2,giveAll_app,←HT.out]
      unfold oneT
      rw [HFF.out,List.take_length]
      by_cases hm:n∈all
      ·rw [if_pos hm,if_pos hm];rfl
      ·rw [if_neg hm,if_neg hm];rfl
     have HE1:=hid e1
     clear e1
     go_wp2
     go_roundg (gk0 - 1)
     case measure=>omega
     case rel=>exact ⟨n+1,by omega,by omega,by omega,by go_num,hid (by rw [Nat.add_sub_cancel,←HE1.out];exact JI.out)⟩
  ·have hn':¬(n:Int)≤(k:Int):=by omega
   obtain rfl:n=k+1:=by omega
   have hJ:=JN.out
   rw [Nat.add_sub_cancel]at hJ
   obtain ⟨S2,q1,q2,q3,_,_⟩:=hJ
   obtain ⟨_,_,cx,c1⟩:=q1.cells
   clear cx
   have f1:=q1.froz 1
   have Q1:=hid q1;have Q2:=hid q2;have Q3:=hid q3
   clear JN q1 q2 q3
   go_wp2
   go_ret
   obtain ⟨p1,p2⟩:=Q1.out.pages k
   refine ⟨rfl,S2,?_,Q3.out.trans p2 (fun b hl hb=>by rcases Q2.out b hb with h |h;exact h;omega),Q2.out⟩
   rw [HALL.out]at p1
   exact p1
end
end
section
open Go.RowKit Go.Maps
open Dsk (gt hid undrew keep_old keep_cell lt_cell Rd op_at)
open Cch (Fr)
theorem src_frm{W W':World}{ao:Option Addr}{n c:Nat}{xs:List Value}{E:Nat→Prop}(h:Cch.Src W ao n c xs)(hf:Fr E W W')(hE:∀ a,ao=some a→¬E a.block∧a.off=0∧a.spot=none):Cch.Src W' ao n c xs:=⟨h.len,h.no,fun ad e j u hu=>by
 obtain ⟨q1,q3,q4⟩:=hE ad e
 have:=h.at_ ad e j u hu
 obtain ⟨ab,of,sp⟩:=ad
 simp only at q1 q3 q4
 subst q3;subst q4
 rw [Addr.add_lit]at this ⊢
 exact fr_cell hf this q1,h.one⟩
structure FA (K:Nat) (O:Nat→Prop) (w:World) (hb p q hm:Nat) (ao:Option Addr) (n c:Nat) (l:List Nat) (tr:List (Nat×List Nat)) (N:Nat) (ws:List Nat) (tr2:List (Nat×List Nat)) (N2:Nat) (wd:List Int) (W:World):Prop where
 is:∃ R S t,HeapS False 32768 16 K W hb p q R t tr ws∧t.now.length=N∧RefH W S hm tr2 N2 wd∧(∀ b,S b→R b)∧(∀ b,O b→R b)∧(∀ b,S b→¬O b)∧¬S hb∧∀ a,ao=some a→R a.block∧¬S a.block∧a.off=0∧a.spot=none
 row:Cch.Src W ao n c (zI l)
 cap:n≤c
 k:Rok O w W
section
variable {K:Nat} {O:Nat→Prop} {w W W':World} {hb p q hm:Nat} {ao:Option Addr} {n c N N2:Nat} {l ws:List Nat} {tr tr2:List (Nat×List Nat)} {wd:List Int}
variable {v:Value} {args:Array Value} {K' f:Nat}
theorem FA.prg{N':Nat}{tr':List (Nat×List Nat)}{ws':List Nat}(h:FA K O w hb p q hm ao n c l tr N ws tr2 N2 wd W)(hc:∀ R t,HeapS False 32768 16 K W hb p q R t tr ws→t.now.length=N→Calls Tryz.prog f args W (HTo False 32768 16 K' W hb p q R N' tr' ws' v)) :
  Calls Tryz.prog f args W fun e W'=>e=.returned v∧FA K' O w hb p q hm ao n c l tr' N' ws' tr2 N2 wd W':=by
 obtain ⟨R,S,t,h1,h2,h3,h4,h5,h6,h7,h8⟩:=h.is
 refine (hc R t h1 h2).mono ?_
 rintro e W' ⟨he,t',k1,k2,k3⟩
 exact ⟨he,⟨R,S,t',k1,k2,h3.fr k3 (fun b hb e=>e.1 (h4 b hb)),h4,h5,h6,h7,h8⟩,src_frm h.row k3 (fun a ha=>⟨fun e=>e.1 (h8 a ha).1,(h8 a ha).2.2⟩),h.cap,h.k.then k3 h5⟩
theorem FA.ref{N2':Nat}{tr2':List (Nat×List Nat)}{wd':List Int}(h:FA K O w hb p q hm ao n c l tr N ws tr2 N2 wd W)(hc:∀ S,RefH W S hm tr2 N2 wd→Calls Tryz.prog f args W (DTo S hm tr2' N2' wd' v W)) :
  Calls Tryz.prog f args W fun e W'=>e=.returned v∧FA K O w hb p q hm ao n c l tr N ws tr2' N2' wd' W':=by
 obtain ⟨R,S,t,h1,h2,h3,h4,h5,h6,h7,h8⟩:=h.is
 refine (hc S h3).mono ?_
 rintro e W' ⟨he,S',k1,k2,k3⟩
 refine ⟨he,⟨NewR R W W',S',t,⟨h1.prg.work (fr_imp k2 h4),h1.heap.fr k2 h7,Or.inl h1.mem,h1.lay,h1.busy,h1.sur⟩,h2,k1,fun b hb=>?_,fun b hb=>Or.inl (h5 b hb),fun b hb=>?_,fun hb=>?_,fun a ha=>⟨Or.inl (h8 a ha).1,fun hb=>?_,(h8 a ha).2.2⟩⟩,src_frm h.row k2 (fun a ha=>(h8 a ha).2),h.cap,h.k.trans k2 (fun j hj hS=>⟨h6 j hS,h1.prg.ne0 (h4 j hS)⟩)⟩
 ·rcases k3 b hb with h |h
  ·exact Or.inl (h4 b h)
  ·exact Or.inr ⟨h,k1.lt b hb⟩
 ·rcases k3 b hb with h |h
  ·exact h6 b h
  ·intro ho;have:=h1.prg.lt (h5 b ho);omega
 ·rcases k3 _ hb with h |h
  ·exact h7 h
  ·have:=h1.heap.lt;omega
 ·rcases k3 _ hb with h |h
  ·exact (h8 a ha).2.1 h
  ·have:=h1.prg.lt (h8 a ha).1;omega
theorem FA.below(h:FA K O w hb p q hm ao n c l tr N ws tr2 N2 wd W)(b:Below W.heap.size W W'):FA K O w hb p q hm ao n c l tr N ws tr2 N2 wd W':=by
 obtain ⟨R,S,t,h1,h2,h3,h4,h5,h6,h7,h8⟩:=h.is
 exact ⟨⟨R,S,t,⟨h1.prg.keep b,h1.heap.keep b,h1.mem,h1.lay,h1.busy,h1.sur⟩,h2,h3.fr (Fr.of_below (S:=fun _=>False) b) (fun _ _ h=>h),h4,h5,h6,h7,h8⟩,src_below h.row b,h.cap,h.k.below b⟩
theorem FA.up(h:FA K O w hb p q hm ao n c l tr N ws tr2 N2 wd W)(hK:K≤K'):FA K' O w hb p q hm ao n c l tr N ws tr2 N2 wd W:=by
 obtain ⟨R,S,t,h1,h2,h3⟩:=h.is
 exact ⟨⟨R,S,t,⟨h1.prg.up hK,h1.heap,h1.mem,h1.lay,h1.busy,h1.sur⟩,h2,h3⟩,h.row,h.cap,h.k⟩
theorem FA.other{ao':Option Addr}{n' c':Nat}{l':List Nat}(h:FA K O w hb p q hm ao n c l tr N ws tr2 N2 wd W)(b:Below W.heap.size W W')(ho:W'.ownsRow 0 3 1 (.slice ao' n' c') n' (zI l'))(hv:∀ k,(Value.slice ao' n' c').ownBlock=some k→W.heap.size≤k):FA K O w hb p q hm ao' n' c' l' tr N ws tr2 N2 wd W':=by
 obtain ⟨R,S,t,h1,h2,h3,h4,h5,h6,h7,h8⟩:=h.is
 obtain ⟨ao2,cap,e,hno,hso⟩:=Cch.row_form ho
 simp only [Value.slice.injEq]at e
 obtain ⟨rfl,-,rfl⟩:=e
 have hl:=fun b hb=>h3.lt b hb
 refine ⟨⟨fun b=>R b∨(W.heap.size≤b∧b<W'.heap.size),S,t,⟨h1.prg.more b (fun _ h=>h),h1.heap.keep b,Or.inl h1.mem,h1.lay,h1.busy,h1.sur⟩,h2,h3.fr (Fr.of_below (S:=fun _=>False) b) (fun _ _ h=>h),fun b hb=>Or.inl (h4 b hb),fun b hb=>Or.inl (h5 b hb),h6,h7,fun a ha=>?_⟩,Cch.src_row ho (fun u hu=>by unfold zI at hu;obtain ⟨x,_,rfl⟩:=List.mem_map.1 hu;rfl),?_,h.k.below b⟩
 ·obtain ⟨e1,e2,e3⟩:=hso a ha
  subst ha
  have hw:=hv a.block rfl
  exact ⟨Or.inr ⟨hw,e3⟩,fun hs=>by have:=hl _ hs;omega,by rw [e1],by rw [e1]⟩
 ·cases hao:ao' with
  | none=>have:=hno hao;omega
  | some a=>exact (hso a hao).2.1
theorem FA.cell(h:FA K O w hb p q hm ao n c l tr N ws tr2 N2 wd W){i:Nat}(hi:i<n):∃ g,ao=some ⟨g,0,none⟩∧∀ i,i<n→W.cell? ⟨g,i,none⟩=some (.int .i64 ((l.getD i 0:Nat):Int)):=by
 obtain ⟨R,S,t,h1,h2,h3,h4,h5,h6,h7,h8⟩:=h.is
 have hl:l.length=n:=by have:=h.row.len;simpa [zI] using this
 cases hao:ao with
 | none=>have:=(h.row.no hao).1;omega
 | some a=>
  obtain ⟨ab,of,sp⟩:=a
  obtain ⟨_,_,q3,q4⟩:=h8 _ hao
  simp only at q3 q4
  subst q3;subst q4
  refine ⟨ab,rfl,fun j hj=>?_⟩
  have:=h.row.at_ _ hao j (.int .i64 ((l.getD j 0:Nat):Int)) (by unfold zI;rw [List.getElem?_map,List.getD,List.getElem?_eq_getElem (by omega)];rfl)
  rw [Addr.add_lit]at this
  simpa using this
theorem FA.len(h:FA K O w hb p q hm ao n c l tr N ws tr2 N2 wd W):l.length=n:=by have:=h.row.len;simpa [zI] using this
theorem FA.range(h:FA K O w hb p q hm ao n c l tr N ws tr2 N2 wd W):∀ y∈flat tr,2≤y∧y≤N:=by
 obtain ⟨R,S,t,h1,h2,_⟩:=h.is
 rw [←h2];exact fun y hy=>h1.lay.chain.range y hy
theorem FA.nodup(h:FA K O w hb p q hm ao n c l tr N ws tr2 N2 wd W):(flat tr).Nodup:=by
 obtain ⟨R,S,t,h1,h2,_⟩:=h.is
 exact h1.lay.nd
theorem FA.leaves(h:FA K O w hb p q hm ao n c l tr N ws tr2 N2 wd W):∀ y∈tr,y.2.length≤126:=by
 obtain ⟨R,S,t,h1,h2,_⟩:=h.is
 have key:∀ {now:List Pg} {f:Nat} {tr:List (Nat×List Nat)},Chain8 now f tr→∀ y∈tr,y.2.length≤126:=by
  intro now f tr
  induction tr generalizing f with
  | nil=>intro _ y hy;cases hy
  | cons x r ih=>
   rintro ⟨_,_,_,k3,_,nx,_,_,k7⟩ y hy
   rcases List.mem_cons.1 hy with rfl |hy
   ·exact k3
   ·exact ih k7 y hy
 exact key h1.lay.chain
theorem FA.refc(h:FA K O w hb p q hm ao n c l tr N ws tr2 N2 wd W):∃ S,RefH W S hm tr2 N2 wd:=by
 obtain ⟨R,S,t,h1,h2,h3,_⟩:=h.is
 exact ⟨S,h3⟩
variable {g:Nat}
theorem FA.enter(h:FA K O w hb p q hm ao n c l tr N ws tr2 N2 wd W)(b:Below W.heap.size W W')(hg:W.heap.size≤g)(hl:g<W'.heap.size):FA K (Plus O g) W' hb p q hm ao n c l tr N ws tr2 N2 wd W':=by
 obtain ⟨R0,S0,t0,g1,g2,g3,g4,g5,g6,g7,g8⟩:=h.is
 refine ⟨⟨Plus R0 g,S0,t0,⟨g1.prg.new b hg hl,g1.heap.keep b,Or.inl g1.mem,g1.lay,g1.busy,g1.sur⟩,g2,g3.fr (Fr.of_below (S:=fun _=>False) b) (fun _ _ h=>h),fun b hb=>Or.inl (g4 b hb),fun b hb=>?_,fun b hb ho=>?_,g7,fun a ha=>⟨Or.inl (g8 a ha).1,(g8 a ha).2⟩⟩,(h.below b).row,h.cap,Rok.of_below (Below.refl _ _)⟩
 ·rcases hb with hb |rfl
  ·exact Or.inl (g5 b hb)
  ·exact Or.inr rfl
 ·rcases ho with ho |rfl
  ·exact g6 b hb ho
  ·have:=g3.lt _ hb;omega
theorem FA.leave{W0:World}(h:FA K (Plus O g) W0 hb p q hm ao n c l tr N ws tr2 N2 wd W)(k:Rok O w W0):FA K O w hb p q hm ao n c l tr N ws tr2 N2 wd W:=by
 obtain ⟨R,S,t,h1,h2,h3,h4,h5,h6,h7,h8⟩:=h.is
 exact ⟨⟨R,S,t,h1,h2,h3,h4,fun b hb=>h5 b (Or.inl hb),fun b hb ho=>h6 b hb (Or.inl ho),h7,h8⟩,h.row,h.cap,k.then h.k (fun b hb=>Or.inl hb)⟩
end
def wsOf(wd:List Int):List Nat:=wd.map fun z=>(IntKind.u64.wrap z).toNat
end
section
open Go.RowKit Go.Maps
open Dsk (gt hid undrew keep_old keep_cell lt_cell Rd op_at)
open Cch (Fr)
def AR(K:Nat)(O:Nat→Prop)(w:World)(hb p q hm M:Nat)(e:Ending)(W':World):Prop:=∃ (ao:Option Addr) (n c:Nat) (l:List Nat) (tr:List (Nat×List Nat)) (N:Nat) (wd:List Int),e=.returned (.tuple #[.slice ao n c,.bool true])∧FA K O w hb p q hm ao n c l tr N (wsOf wd) tr N wd W'∧Parted l tr N∧N+(flat tr).length≤M∧∀ z∈wd,-9223372036854775808≤z∧z≤9223372036854775807
def boxA(k I x:Int):Obj:=.cells #[.int .i64 k,.int .i64 I,.int .i64 x] 35
theorem boxA_cells{W:World}{k I x:Int}:(W.alloc (boxA k I x)).cell? ⟨W.heap.size,0,none⟩=some (.int .i64 k)∧(W.alloc (boxA k I x)).cell? ⟨W.heap.size,1,none⟩=some (.int .i64 I)∧(W.alloc (boxA k I x)).cell? ⟨W.heap.size,2,none⟩=some (.int .i64 x):=by
 have e:(W.alloc (boxA k I x)).heap[W.heap.size]? = some (.cells #[.int .i64 k,.int .i64 I,.int .i64 x] 35 (0,0)):=heap_alloc_new _ _
 exact ⟨(cell_of e).trans rfl,(cell_of e).trans rfl,(cell_of e).trans rfl⟩
theorem took_le(N:Nat)(tr:List (Nat×List Nat)):takeN N tr+(flat (takeT tr)).length≤N+(flat tr).length+1:=by
 match tr with
 | []=>simp [takeN,takeT,flat]
 | x::r=>
  have:=(takeT_perm N x r).length_eq
  simp only [List.length_cons]at this
  show N+_≤_
  omega
section
variable {K:Nat} {O:Nat→Prop} {w W W':World} {hb p q hm:Nat} {ao:Option Addr} {n c N:Nat} {l ws:List Nat} {tr:List (Nat×List Nat)} {wd:List Int}
theorem act_take(I x:Int)(h:FA K O w hb p q hm ao n c l tr N (wsOf wd) tr N wd W)(hP:Parted l tr N)(hN:N≤1000)(hK:K+20000≤490000)(hwd:∀ z∈wd,-9223372036854775808≤z∧z≤9223372036854775807) :
  Calls Tryz.prog 9 #[.pointer (some ⟨hb,0,none⟩),.pointer (some ⟨hm,0,none⟩),.slice ao n c,.agg #[.int .i64 0,.int .i64 I,.int .i64 x]] W (AR (K+3+4*(flat tr).length+3) O w hb p q hm (N+(flat tr).length+1)):=by
 obtain ⟨W0,hW0⟩:∃ W0,W0=W.alloc (boxA 0 I x):=⟨_,rfl⟩
 have B0:=hid (show Below W.heap.size W W0 by rw [hW0];exact Below.alloc (Below.refl _ _) (Nat.le_refl _) _)
 have hcl:=boxA_cells (W:=W) (k:=0) (I:=I) (x:=x)
 rw [←hW0]at hcl
 have CL:=hid hcl
 have A0:=hid (h.enter (g:=W.heap.size) B0.out (Nat.le_refl _) (lt_cell hcl.1))
 have hcnt:=hP.cnt
 have hln:=h.len
 have hfl:=flat_len tr
 have CT:=hid (A0.out.prg (f:=15) (args:=#[.pointer (some ⟨hb,0,none⟩)]) (K':=K+6+(flat tr).length) (N':=takeN N tr) (tr':=takeT tr) (ws':=wsOf wd) (v:=.tuple #[.int .i64 ((takeV N tr:Nat):Int),.int .i64 0]) (fun R t hs hl=>by have:=take_any hs (by omega) (by omega);rw [hl]at this;exact this))
 have LV:=hid h.leaves
 have hn1:n≤1000:=by omega
 obtain ⟨V,hV⟩:∃ V,V=takeV N tr:=⟨_,rfl⟩
 rw [←hV]at CT
 have HV:=hid hV;have HP:=hid hP;have HW0:=hid hW0;have HK:=hid h.k;have HR:=hid h.range;have HWD:=hid hwd;have HLN:=hid hln
 clear hP hV hW0 hcl h hwd hln
 unfold boxA at HW0
 go_enter Tryz.func9,Tryz.ntmps9
 go_wp2_with (first
  | (go_at_call 15;rw [←HW0.out];refine CT.out.mono ?_;rintro e w1 ⟨rfl,hA1⟩;have A1:=hid hA1;have R1:=hid (show (w1.alloc (.cells #[] 3)).ownsRow 0 3 1 (.slice (some ⟨w1.heap.size,0,none⟩) 0 0) 0 [] from rr_base (World.ownsRow_made w1 #[] 0 (Nat.le_refl _) (by decide) rfl) (Nat.zero_le _));have B1:=hid (show Below w1.heap.size w1 (w1.alloc (.cells #[] 3)) from Below.alloc (Below.refl _ _) (Nat.le_refl _) _);clear hA1)
  | ((with_reducible refine Dsk.here_op 29 ?_);refine Cch.wpList_app rfl (.tmp 27) (.tmp 28) el41 rfl (.slice (some ⟨w1.heap.size,0,none⟩) 0 0) 0 [] rfl R1.out ao n c (zI l) rfl (src_below A1.out.row B1.out) (by omega) ?_;simp only [Nat.zero_add,List.nil_append];intro a2 c2 w2 ho2 hg2 ha2;have B2:=hid (blw_grown B1.out hg2 (Nat.le_refl _));have N2:=hid (new_blk (n:=n) (c:=c2) (v:=.slice (some ⟨w1.heap.size,0,none⟩) 0 0) B1.out (fun k e=>by cases e;exact Nat.le_refl _) ha2);have BA:=hid (show Below w2.heap.size w2 (w2.alloc (.cells #[.int .i64 (V:Int)] 3)) from Below.alloc (Below.refl _ _) (Nat.le_refl _) _);have R2:=hid (rr_fr ho2 (Fr.of_below (S:=fun _=>False) BA.out) (fun _ _ h=>h));have SR:=hid (lit_src w2 [.int .i64 (V:Int)] 3 (by intro y hy;simp at hy;subst hy;rfl));clear ho2 hg2 ha2)
  | ((with_reducible refine Dsk.here_op 32 ?_);refine Cch.wpList_app rfl (.tmp 29) (.tmp 31) el41 rfl (.slice a2 n c2) n _ rfl R2.out (some ⟨w2.heap.size,0,none⟩) 1 1 [.int .i64 (V:Int)] rfl SR.out (by omega) ?_;intro a3 c3 w3 ho3 hg3 ha3;have B3:=hid (blw_grown2 (gt B2.out BA.out) hg3 N2.out);have A3:=hid (A1.out.other (l':=l++[V]) B3.out (by rw [zI_append];exact ho3) (new_blk (gt B2.out BA.out) N2.out ha3));have CR:=hid (A3.out.ref (f:=27) (fun S hs=>mtake_any hs (by omega) (by omega) (fun y hy=>Nat.le_trans (LV.out y hy) (by omega))));rw [←HV.out]at CR;clear ho3 hg3 ha3)
  | (go_at_call 27;refine CR.out.mono ?_;rintro e w4 ⟨rfl,hA4⟩;have A4:=hid hA4;clear hA4))
 go_ret2
 refine ⟨a3,n+1,c3,l++[V],takeT tr,takeN N tr,wd,rfl,(A4.out.leave (HK.out.below B0.out)).up (by omega),?_,took_le N tr,HWD.out⟩
 rw [HV.out]
 exact HP.out.took HR.out
end
end
end Go.Proofs.YtgjgkpnjchflaaaGreatDoor
