/- Trim of the document's heap; no statement of the seat is proved here. -/
import Derived.Test.YtgjgkpnjchflaaaGreatDoorQ37
import Derived.Test.YtgjgkpnjchflaaaGreatDoorQ27
import Derived.Test.YtgjgkpnjchflaaaGreatDoorQ21
import Derived.Test.YtgjgkpnjchflaaaGreatDoorQ35
import Derived.OwnWalk
set_option maxHeartbeats 16000000
set_option maxRecDepth 20000
namespace Go.Proofs.YtgjgkpnjchflaaaGreatDoor
section
open Go.RowKit Go.Maps
open Dsk (gt hid undrew keep_old keep_cell lt_cell Rd op_at)
open Cch (Fr)
theorem trimL_next{n:Nat}(all:List Nat)(h:2≤n):trimL n all=trimL (n - 1) all++(if n∈all then [n] else []):=by
 obtain ⟨m,rfl⟩:∃ m,n=m+2:=⟨n - 2,by omega⟩
 unfold trimL
 rw [show m+2 - 1=m+1 by omega,show m+1 - 1=m by omega,List.range'_1_concat,List.filter_append]
 congr 1
 rw [show 2+m=m+2 by omega]
 by_cases hm:m+2∈all
 ·simp [hm]
 ·simp [hm]
section
variable {W W' X X':World} {S S' E:Nat→Prop} {hm N:Nat} {tr T:List (Nat×List Nat)} {wd:List Int} {ao:Option Addr} {F cp:Nat} {all:List Nat}
def JT(S:Nat→Prop)(W:World)(hm N:Nat)(wd:List Int)(ao:Option Addr)(F cp:Nat)(all:List Nat)(T:List (Nat×List Nat))(X:World):Prop:=∃ S',RefH X S' hm T N wd∧(∀ b,S' b→S b∨W.heap.size≤b)∧Fr S W X∧Cch.Src X ao F cp (zI all)∧∀ a,ao=some a→¬S' a.block∧a.block<X.heap.size∧a.off=0∧a.spot=none
theorem JT.to{x:Nat}(h:JT S W hm N wd ao F cp all T X)(hl:T.length≤100000)(hx1:2≤x)(hx:x≤N):Calls Tryz.prog 28 #[.pointer (some ⟨hm,0,none⟩),.int .i64 (x:Int)] X fun e X'=>e=.returned (.int .i64 0)∧JT S W hm N wd ao F cp all (giveT x T) X':=by
 obtain ⟨S',h1,h2,h3,h4,h5⟩:=h
 refine (mgive_any h1 hl hx1 hx).mono ?_
 rintro e X' ⟨he,S2,k1,k2,k3⟩
 refine ⟨he,S2,k1,fun b hb=>?_,h3.trans k2 (fun b hl hb=>?_),⟨h4.len,h4.no,fun ad e j u hu=>?_,h4.one⟩,fun a ha=>?_⟩
 ·rcases k3 b hb with h |h
  ·exact h2 b h
  ·exact Or.inr (Nat.le_trans h3.size h)
 ·rcases h2 b hb with h |h
  ·exact h
  ·omega
 ·obtain ⟨q1,q2,q3,q4⟩:=h5 ad e
  have:=h4.at_ ad e j u hu
  obtain ⟨ab,of,sp⟩:=ad
  simp only at q1 q2 q3 q4
  subst q3;subst q4
  rw [Addr.add_lit]at this ⊢
  exact fr_cell k2 this q1
 ·obtain ⟨q1,q2,q3⟩:=h5 a ha
  refine ⟨fun hb=>?_,Nat.lt_of_lt_of_le q2 k2.size,q3⟩
  rcases k3 _ hb with h |h
  ·exact q1 h
  ·omega
theorem JT.cell(h:JT S W hm N wd ao F cp all T X){i:Nat}(hi:i<F):∃ ab,ao=some ⟨ab,0,none⟩∧i<all.length∧X.cell? ⟨ab,i,none⟩=some (.int .i64 ((all.getD i 0:Nat):Int)):=by
 obtain ⟨S',h1,h2,h3,h4,h5⟩:=h
 have hl:all.length=F:=by have:=h4.len;simpa [zI] using this
 cases ao with
 | none=>have:=(h4.no rfl).1;omega
 | some a=>
  obtain ⟨ab,of,sp⟩:=a
  obtain ⟨_,_,q3,q4⟩:=h5 _ rfl
  simp only at q3 q4
  subst q3;subst q4
  refine ⟨ab,rfl,by omega,?_⟩
  have:=h4.at_ _ rfl i (.int .i64 ((all.getD i 0:Nat):Int)) (by unfold zI;rw [List.getElem?_map,List.getD,List.getElem?_eq_getElem (by omega)];rfl)
  rw [Addr.add_lit]at this
  simpa using this
def oneT(n:Nat)(all:List Nat)(i:Nat)(T:List (Nat×List Nat)):List (Nat×List Nat):=if n∈all.take i then giveT n T else T
variable {n i:Nat}
theorem oneT_next(hi:i<all.length)(hne:all.getD i 0≠n):oneT n all (i+1) T=oneT n all i T:=by
 have e:all.getD i 0=all[i]:=by rw [List.getD,List.getElem?_eq_getElem hi];rfl
 rw [e]at hne
 have h1:n∈all.take (i+1)↔n∈all.take i:=by
  rw [List.take_add_one,List.getElem?_eq_getElem hi,List.mem_append,Option.toList_some,List.mem_singleton]
  exact ⟨fun h=>by rcases h with h |h;exact h;exact absurd h.symm hne,Or.inl⟩
 unfold oneT
 by_cases h:n∈all.take i
 ·rw [if_pos h,if_pos (h1.2 h)]
 ·rw [if_neg h,if_neg (fun k=>h (h1.1 k))]
theorem oneT_hit(hi:i<all.length)(hnd:all.Nodup)(he:all.getD i 0=n):oneT n all i T=T∧oneT n all (i+1) T=giveT n T:=by
 have e:all.getD i 0=all[i]:=by rw [List.getD,List.getElem?_eq_getElem hi];rfl
 rw [e]at he
 have h1:n∉all.take i:=fun hm=>by
  obtain ⟨k,hk,hke⟩:=List.getElem_of_mem hm
  rw [List.length_take]at hk
  rw [List.getElem_take,←he]at hke
  have:=(List.getElem_inj hnd).1 hke
  omega
 refine ⟨if_neg h1,if_pos ?_⟩
 rw [List.take_add_one,List.getElem?_eq_getElem hi]
 simp [he]
theorem mtrim_no{z:Int}(h:RefH W S hm tr N wd)(hz:z<1∨(N:Int)<z):Calls Tryz.prog 29 #[.pointer (some ⟨hm,0,none⟩),.int .i64 z] W fun e W'=>e=.returned (.int .i64 11)∧Below W.heap.size W W':=by
 obtain ⟨_,_,cx,c1⟩:=h.cells
 clear cx h
 by_cases h1:z<1
 ·clear hz
  go_enter Tryz.func29,Tryz.ntmps29
  go_wp2
  go_ret
  exact ⟨rfl,Below.refl _ _⟩
 ·have h2:(N:Int)<z:=by rcases hz with h |h;exact absurd h h1;exact h
  clear hz
  go_enter Tryz.func29,Tryz.ntmps29
  go_wp2
  go_ret
  exact ⟨rfl,Below.refl _ _⟩
theorem mtrim_yes{k:Nat}(h:RefH W S hm tr N wd)(hk1:1≤k)(hk:k≤N)(hN:N≤100000)(hF:(flat tr).length≤50000)(hnd:(flat tr).Nodup):Calls Tryz.prog 29 #[.pointer (some ⟨hm,0,none⟩),.int .i64 (k:Int)] W (DTo S hm (trimT k tr) k wd (.int .i64 0) W):=by
 obtain ⟨_,_,cx,c1⟩:=h.cells
 clear cx
 have CA:=hid (mall_any h (by omega))
 have H:=hid h
 have hk2:¬(k:Int)<1:=by omega
 have hk3:¬(N:Int)<(k:Int):=by omega
 obtain ⟨all,hall⟩:∃ all,all=flat tr:=⟨_,rfl⟩
 obtain ⟨F,hFF⟩:∃ F,F=all.length:=⟨_,rfl⟩
 rw [←hall]at CA hF hnd
 rw [←hFF]at CA hF
 have HALL:=hid hall;have HFF:=hid hFF;have HND:=hid hnd
 clear h hall hFF hnd
 go_enter Tryz.func29,Tryz.ntmps29
 go_wp2_with (go_at_call 14;refine CA.out.mono ?_;rintro e w1 ⟨ao,cp,rfl,ho1,hb1⟩;have O1:=hid ho1;have B1:=hid hb1;have h1:=H.out.fr (Fr.of_below (S:=fun _=>False) hb1) (fun _ _ h=>h);have H1:=hid h1;obtain ⟨_,_,d0,_⟩:=h1.cells;have f0:=h1.froz 0;clear ho1 hb1 h1)
 obtain ⟨X1,hX1⟩:∃ X1,X1=w1.setCell ⟨hm,0,none⟩ (.slice none 0 0):=⟨_,rfl⟩
 rw [←hX1]
 have J1:=hid (show JT S W hm N wd ao F cp all (giveAll (trimL 1 all) []) X1 by
  obtain ⟨q1,q2⟩:=H1.out.list (tr':=[]) (v:=.slice none 0 0) (Or.inl ⟨rfl,rfl⟩)
  rw [←hX1]at q1 q2
  have hsr:Cch.Src w1 ao F cp (zI all):=Cch.src_row (rr_base O1.out (Nat.zero_le _)) (fun u hu=>by unfold zI at hu;obtain ⟨x,_,rfl⟩:=List.mem_map.1 hu;rfl)
  have hfo:∀ a,ao=some a→¬S a.block∧a.block<w1.heap.size∧a.off=0∧a.spot=none:=fun a ha=>by
   obtain ⟨ao',cap,e,hno,hso⟩:=Cch.row_form (rr_base O1.out (Nat.zero_le _))
   simp only [Value.slice.injEq]at e
   obtain ⟨rfl,-,rfl⟩:=e
   obtain ⟨e1,_,e3⟩:=hso a ha
   subst ha
   have e4:=(rr_blk O1.out (k:=a.block) rfl).1
   exact ⟨fun hs=>by have:=H.out.lt _ hs;omega,e3,by rw [e1],by rw [e1]⟩
  refine ⟨S,q1,fun b hb=>Or.inl hb,(Fr.of_below (S:=S) B1.out).trans q2 (fun _ _ h=>h),⟨hsr.len,hsr.no,fun ad e j u hu=>?_,hsr.one⟩,fun a ha=>⟨(hfo a ha).1,Nat.lt_of_lt_of_le (hfo a ha).2.1 q2.size,(hfo a ha).2.2⟩⟩
  obtain ⟨r1,r2,r3,r4⟩:=hfo ad e
  have:=hsr.at_ ad e j u hu
  obtain ⟨ab,of,sp⟩:=ad
  simp only at r1 r2 r3 r4
  subst r3;subst r4
  rw [Addr.add_lit]at this ⊢
  exact fr_cell q2 this r1)
 clear hX1 CA c1 d0 f0
 go_loopg [6] (k+1) (fun cc v6 X=>∃ (n:Nat),n+cc=k+3∧2≤n∧n≤k+1∧v6=.int .i64 (n:Int)∧Hid (JT S W hm N wd ao F cp all (giveAll (trimL (n - 1) all) []) X))
 case atStart=>exact ⟨2,by omega,by omega,by omega,rfl,J1⟩
 case round=>
  obtain ⟨n,hnc,hn2,hnk,rfl,JN⟩:=hrel
  obtain ⟨gk0,hgk0⟩:∃ g,g=gk:=⟨_,rfl⟩
  rw [←hgk0]at hnc
  clear J1
  by_cases hn:n≤k
  ·have hn':(n:Int)≤(k:Int):=by omega
   obtain ⟨T,hT⟩:∃ T,T=giveAll (trimL (n - 1) all) []:=⟨_,rfl⟩
   rw [←hT]at JN
   have hTl:T.length≤100000:=by
    have h1:=flat_len T
    have h2:=(giveAll_perm (trimL (n - 1) all) []).length_eq
    rw [←hT]at h2
    have h3:(trimL (n - 1) all).length≤n - 1 - 1:=by
     have:=List.length_filter_le (fun x=>decide (x∈all)) (List.range' 2 (n - 1 - 1))
     rwa [List.length_range']at this
    simp only [List.length_append,flat,List.flatMap_nil,List.length_nil]at h2
    have h5:(flat T).length=(trimL (n - 1) all).length:=by simpa [flat] using h2
    omega
   have HT:=hid hT;have HTL:=hid hTl
   clear hT hTl
   go_wp2
   go_loopg [31] F (fun cc v31 X=>∃ (i:Nat),i+cc=F∧v31=.int .i64 (i:Int)∧Hid (JT S W hm N wd ao F cp all (oneT n all i T) X))
   case atStart=>exact ⟨0,by omega,rfl,hid (by rw [show oneT n all 0 T=T by simp [oneT]];exact JN.out)⟩
   case round=>
    obtain ⟨i,hic,rfl,JI⟩:=hrel
    clear JN
    by_cases hi:i<F
    ·have hi':(i:Int)<(F:Int):=by omega
     obtain ⟨ab,rfl,hil,cc⟩:=JI.out.cell hi
     obtain ⟨y,hy⟩:∃ y,y=all.getD i 0:=⟨_,rfl⟩
     rw [←hy]at cc
     by_cases hyn:y=n
     ·subst hyn
      obtain ⟨o1,o2⟩:=oneT_hit (T:=T) hil HND.out hy.symm
      have CG:=hid (JI.out.to (x:=y) (by rw [o1];have:=HTL.out;omega) hn2 (by omega))
      rw [o1]at CG
      have HO2:=hid o2
      clear o1 o2 hy hil
      go_wp2_with (go_at_call 28;refine CG.out.mono ?_;rintro e w2 ⟨rfl,hJ2⟩;have J2:=hid hJ2;clear hJ2)
      go_roundg (gk - 1)
      case measure=>omega
      case rel=>exact ⟨i+1,by omega,by go_num,hid (by rw [HO2.out];exact J2.out)⟩
     ·have o1:=oneT_next (T:=T) (n:=n) hil (by rw [←hy];exact hyn)
      have HO1:=hid o1
      have hyn':¬(y:Int)=(n:Int):=by omega
      clear o1 hy hil hyn
      go_wp2
      go_roundg (gk - 1)
      case measure=>omega
      case rel=>exact ⟨i+1,by omega,by go_num,hid (by rw [HO1.out];exact JI.out)⟩
    ·have hi':¬(i:Int)<(F:Int):=by omega
     obtain rfl:i=F:=by omega
     have e1:oneT n all i T=giveAll (trimL n all) []:=by
      rw [trimL_next all hn2,giveAll_app,←HT.out]
      unfold oneT
      rw [HFF.out,List.take_length]
      by_cases hm:n∈all
      ·rw [if_pos hm,if_pos hm];rfl
      ·rw [if_neg hm,if_neg hm];rfl
     have HE1:=hid e1
     clear e1
     go_wp2
     go_roundg (gk0 - 1)
     case measure=>omega
     case rel=>exact ⟨n+1,by omega,by omega,by omega,by go_num,hid (by rw [Nat.add_sub_cancel,←HE1.out];exact JI.out)⟩
  ·have hn':¬(n:Int)≤(k:Int):=by omega
   obtain rfl:n=k+1:=by omega
   have hJ:=JN.out
   rw [Nat.add_sub_cancel]at hJ
   obtain ⟨S2,q1,q2,q3,_,_⟩:=hJ
   obtain ⟨_,_,cx,c1⟩:=q1.cells
   clear cx
   have f1:=q1.froz 1
   have Q1:=hid q1;have Q2:=hid q2;have Q3:=hid q3
   clear JN q1 q2 q3
   go_wp2
   go_ret
   obtain ⟨p1,p2⟩:=Q1.out.pages k
   refine ⟨rfl,S2,?_,Q3.out.trans p2 (fun b hl hb=>by rcases Q2.out b hb with h |h;exact h;omega),Q2.out⟩
   rw [HALL.out]at p1
   exact p1
end
end
section
open Go.RowKit Go.Maps
open Dsk (gt hid undrew keep_old keep_cell lt_cell Rd DS FS Sec DiskP DFrame Grew From lenD readD newD known)
open Cch (CS CP Fr)
structure Clean (d:DS) (l:List Pg):Prop where
 f0:d.f0.now=secsOf l
 f1:d.f1.now = []
 on:d.off=false
theorem hot_nil:Jrn.hotN []=false:=by decide
variable {l:List Pg} {d:DS}
theorem Clean.len(h:Clean d l):lenD d 0=l.length*4∧lenD d 1=0:=by
 constructor
 ·show d.f0.now.length=_
  rw [h.f0,secsOf_length]
 ·show d.f1.now.length=_
  rw [h.f1];rfl
theorem Clean.read(h:Clean d l):readD d 1 0 0=([],0):=by
 have hk:known 1=true:=rfl
 have hf:(d.file 1)=d.f1:=rfl
 unfold readD
 rw [h.on,hk,hf,h.f1]
 simp
theorem Clean.cut(h:Clean d l):firstD [.ct 1 0] d=(0,d):=by
 simp [firstD,Stp.go,h.len.2]
theorem recovered_clean(q:Nat)(P:Dsk.Parts)(d:DS)(l:List Pg)(w:World)(h:DiskP w q P d)(hc:Clean d l)(hl:l.length≤4000)(hT:Jrn.Tab w)(hop:d.ops≤900000000) :
  Calls Tryz.prog 42 #[.pointer (some ⟨q,0,none⟩)] w fun e w'=>e=.returned (.tuple #[.int .i64 0,.int .i64 0])∧DiskTo w w' q P d:=by
 obtain ⟨hl0,hl1⟩:=hc.len
 have cs1:=Dsk.sectors_call q P d 1 w h
 rw [hl1]at cs1
 have cr:=Dsk.read_call q P d 0 0 0 w h (by omega) (by omega)
 have cr1:=Dsk.read_call q P d 1 0 0 w h (by omega) (by omega)
 rw [hc.read]at cr1
 have C1:=hid cs1;have C2:=hid cr1;have H:=hid h;have HT:=hid hT;have HC:=hid hc
 have HC0:Hid (∀ W,DiskP W q P d→Calls Tryz.prog 43 #[.pointer (some ⟨q,0,none⟩),.int .i64 0] W fun e w'=>e=.returned (.int .i64 ((l.length*4:Nat):Int))∧w'=W):=hid (fun W hW=>by have:=Dsk.sectors_call q P d 0 W hW;rw [hl0]at this;exact this)
 obtain ⟨N,hN⟩:∃ N,l.length*4=N:=⟨_,rfl⟩
 rw [hN]at HC0
 have hm:(N:Int) % 4=0:=by omega
 have hq:(N:Int)/4≤4000:=by omega
 have hN0:(0:Int)≤(N:Int):=by omega
 have htm:(N:Int).tmod 4=0:=by rw [Int.tmod_eq_emod_of_nonneg hN0];exact hm
 have htd:(N:Int).tdiv 4≤4000:=by rw [Int.tdiv_eq_ediv_of_nonneg hN0];exact hq
 clear cs1 cr cr1 h hT hc hl0 hl1 hN
 go_enter Tryz.func42,Tryz.ntmps42
 have t1:Hid True:=hid trivial
 go_wp2_with (first
  | (go_at_call 43;clear t1;refine C1.out.mono ?_;rintro e w1 ⟨rfl,hw⟩;obtain rfl:=hw.symm)
  | (go_at_call 77;refine C2.out.mono ?_;rintro e w2 ⟨ro,rc,rfl,hr,_,hb⟩;have R2:Hid (Rd w2 ro 0 rc []):=hid hr;have B2:=hid hb;clear hr hb)
  | (go_at_call 43;refine (HC0.out w2 (H.out.later B2.out)).mono ?_;rintro e w3 ⟨rfl,hw⟩;obtain rfl:=hw.symm)
  | (go_at_call 78;refine (cut_make q 1 0 (DN q P) w2 (fun k hk=>Nat.lt_of_lt_of_le (DN.lt H.out hk) B2.out.size)).mono ?_;rintro e w4 ⟨x4,rfl,s4,hb4⟩;obtain ⟨n4,cs4,rfl⟩:=step_func s4;have hb5:Below w4.heap.size w4 (w4.alloc (.cells #[.func (.func n4) #[] cs4] 133)):=Below.alloc (Below.refl _ _) (Nat.le_refl _) _;have S5:=hid (s4.later hb5);have B4:Hid (w2.heap.size≤w4.heap.size):=hid hb4.size;have B5:=hid (gt (gt B2.out hb4) hb5);have R5:=hid ((R2.out.keep hb4).keep hb5);clear s4 hb4 hb5)
  | (go_at_call 79;refine (Jrn.hot_any ro 0 rc [] _ R5.out (by intro x hx;cases hx) (by omega) (HT.out.keep B5.out)).mono ?_;rw [hot_nil];rintro e w6 ⟨rfl,hb6⟩;have B6:=hid (gt B5.out hb6);have ST6:Hid (StepsAt w6 q (DN q P) (some ⟨w4.heap.size,0,none⟩) [.ct 1 0]):=hid (StepsAt.later (steps_lit (us:=[.func (.func n4) #[] cs4]) 133 (fun k hk=>Nat.lt_of_lt_of_le (DN.lt H.out hk) B2.out.size) B4.out (fun j s hs=>by match j with | 0=>simp at hs;subst hs;exact ⟨_,rfl,S5.out⟩ | j+1=>simp at hs)) hb6);clear hb6)
  | (go_at_call 83;refine (show Calls Tryz.prog 83 #[.slice (some ⟨w4.heap.size,0,none⟩) 1 1] w6 _ from first_call q P d (some ⟨w4.heap.size,0,none⟩) 1 [.ct 1 0] w6 (H.out.later B6.out) (by simp;omega) ST6.out).mono ?_;rw [HC.out.cut];rintro e w7 ⟨rfl,hto⟩;have T7:=hid hto;clear hto))
 go_ret2
 exact ⟨rfl,DiskTo.first B6.out T7.out⟩
theorem end_gen(p:Nat)(T:Int)(w:World)(a4:w.cell? ⟨p,4,none⟩=some (.int .i64 T))(a5:w.cell? ⟨p,5,none⟩=some (.bool false))(a6:w.cell? ⟨p,6,none⟩=some (.int .i64 0))(a7:w.cell? ⟨p,7,none⟩=some (.map none))(a8:w.cell? ⟨p,8,none⟩=some (.slice none 0 0))(a9:w.cell? ⟨p,9,none⟩=some (.int .i64 0))(hf:∀ i,w.frozen? ⟨p,i,none⟩=false) :
  Calls Tryz.prog 44 #[.pointer (some ⟨p,0,none⟩)] w fun e w'=>e=.returned (.tuple #[])∧w'=(((((w.setCell ⟨p,5,none⟩ (.bool false)).setCell ⟨p,6,none⟩ (.int .i64 T)).setCell ⟨p,7,none⟩ (.map (some w.heap.size))).setCell ⟨p,8,none⟩ (.slice none 0 0)).setCell ⟨p,9,none⟩ (.int .i64 0)).alloc (.map #[] 0):=by
 have f5:=hf 5;have f6:=hf 6;have f7:=hf 7;have f8:=hf 8;have f9:=hf 9
 have hp:p<w.heap.size:=lt_cell a4
 have hne:¬p=w.heap.size:=by omega
 have mk:=fun W=>run_makeMap (P:=Tryz.prog) 70 W
 clear hf
 go_enter Tryz.func44,Tryz.ntmps44
 go_wp2
 go_end0
 exact ⟨rfl,rfl⟩
def rawP(q k:Nat)(T:Int)(rep:Int):List Value:=[.bool true,.int .i64 0,.pointer (some ⟨q,0,none⟩),.pointer (some ⟨k,0,none⟩),.int .i64 T,.bool false,.int .i64 0,.map none,.slice none 0 0,.int .i64 0,.int .i64 0,.int .i64 rep]
structure OpenTo (w w':World) (q:Nat) (P:Dsk.Parts) (d:DS) (room:Nat) (l:List Pg) (p:Nat) (x:PC):Prop where
 is:∃ P' C s,Rest w' p x P' C d s l∧s.hit=0∧s.miss=0∧s.room=room∧(∀ b,NC p x P' C b→DN q P b∨w.heap.size≤b)
 xq:x.q=q
 com:x.com=0
 rep:x.rep=0
 busy:x.busy=false
 new:w.heap.size≤p
 mnew:w.heap.size≤x.m
 mks:x.mo=none∧x.ml=0∧x.mc=0∧x.last=0
 fr:Fr (DN q P) w w'
theorem tx_open{w w':World}{p q k T:Nat}{P:Dsk.Parts}{C:Cch.Parts}{s:CS}(hd:w.heap[p]? = some (.cells (rawP q k (T:Int) 0).toArray 78 (0,0)))(dk:DiskP w q P d)(ck:CP w k C s)(dc:∀ b,DN q P b→¬C.S k b)(dp:¬DN q P p)(cp:¬C.S k p)(hf:Fits s l)(hT:T=l.length)(ws:Whole l)(bs:l.length≤4000)(tab:Jrn.Tab w)(t0:0<w.heap.size∧¬DN q P 0∧¬C.S k 0∧0≠p)
  (hw:w'=(((((w.setCell ⟨p,5,none⟩ (.bool false)).setCell ⟨p,6,none⟩ (.int .i64 (T:Int))).setCell ⟨p,7,none⟩ (.map (some w.heap.size))).setCell ⟨p,8,none⟩ (.slice none 0 0)).setCell ⟨p,9,none⟩ (.int .i64 0)).alloc (.map #[] 0)) :
  Rest w' p ⟨q,k,T,false,T,w.heap.size,none,0,0,0,0,0⟩ P C d s l∧Fr (fun b=>b=p) w w':=by
 have hpl:p<w.heap.size:=(Array.getElem?_eq_some_iff.1 hd).1
 obtain ⟨W,hW⟩:∃ W,W=((((w.setCell ⟨p,5,none⟩ (.bool false)).setCell ⟨p,6,none⟩ (.int .i64 (T:Int))).setCell ⟨p,7,none⟩ (.map (some w.heap.size))).setCell ⟨p,8,none⟩ (.slice none 0 0)).setCell ⟨p,9,none⟩ (.int .i64 0):=⟨_,rfl⟩
 have hWs:W.heap.size=w.heap.size:=by rw [hW];simp
 have hWo:∀ b,b≠p→W.heap[b]? = w.heap[b]?:=fun b hb=>by
  rw [hW,heap_setCell_other _ _ _ _ hb,heap_setCell_other _ _ _ _ hb,heap_setCell_other _ _ _ _ hb,heap_setCell_other _ _ _ _ hb,heap_setCell_other _ _ _ _ hb]
 rw [←hW]at hw
 have hs':w'.heap.size=w.heap.size+1:=by rw [hw];simp [hWs]
 have ho:∀ b,b<w.heap.size→b≠p→w'.heap[b]? = w.heap[b]?:=fun b hb hbp=>by
  rw [hw,hao _ _ _ (by rw [hWs];exact hb)];exact hWo b hbp
 have hPg:PgAt w' p ⟨q,k,T,false,T,w.heap.size,none,0,0,0,0,0⟩:=by
  have h1:=Cch.blk_set (Cch.blk_set (Cch.blk_set (Cch.blk_set (Cch.blk_set hd (i:=5) (v:=.bool false)) (i:=6) (v:=.int .i64 (T:Int))) (i:=7) (v:=.map (some w.heap.size))) (i:=8) (v:=.slice none 0 0)) (i:=9) (v:=.int .i64 0)
  rw [←hW]at h1
  unfold PgAt
  rw [hw,hao _ _ _ (by rw [hWs];exact hpl),h1]
  rfl
 have hmap:w'.ownsMap Tryz.prog 3 slR w.heap.size 0 (Dsk.dirtD (false::List.replicate l.length false) (List.replicate (l.length+1) [])):=by
  rw [dirt_none,hw]
  have:=World.ownsMap_made W Tryz.prog 3 slR (H:=Unit)
  rw [hWs]at this;exact this
 have hcore:Core w' p ⟨q,k,T,false,T,w.heap.size,none,0,0,0,0,0⟩ P C d s:=
  ⟨hPg,dk.stay (by omega) (fun b hb hdd=>ho b hb (fun e=>dp (by rcases hdd with h1 |h1;exact Or.inr (e▸h1);exact Or.inl (e▸h1)))),ck.stay (fun b hb hS=>ho b hb (fun e=>cp (e▸hS))),dc,dp,cp⟩
 have hfr:Fr (fun b=>b=p) w w':=by rw [hw,hW];exact alloc_frame (set_frame (set_frame (set_frame (set_frame (set_frame (Fr.refl _ _))))))
 have hcf:∀ i,(List.replicate l.length false).getD i false=false:=fun i=>by
  rw [List.getD,List.getElem?_replicate];split<;>rfl
 have hlt:∀ b,NC p ⟨q,k,T,false,T,w.heap.size,none,0,0,0,0,0⟩ P C b→b<w.heap.size:=fun b hb=>by
  rcases hb with hb |hb |rfl
  ·exact DN.lt dk hb
  ·exact ck.lt hb
  ·exact hpl
 refine ⟨⟨hcore,⟨hmap,by simp,by simp,fun i hi=>?_⟩,⟨by show w.heap.size<_;omega,fun hk=>by have:=hlt _ hk;simp only at this;omega⟩,hf,hT,hT,ws,ws,bs,bs,tab_of tab (ho 0 t0.1 t0.2.2.2),⟨by have:=t0.1;omega,fun hk=>?_⟩,?_,fun i hi _=>⟨hi,rfl⟩⟩,hfr⟩
 ·rw [hcf i]at hi;cases hi
 ·rcases hk with hk |hk |hk
  ·exact t0.2.1 hk
  ·exact t0.2.2.1 hk
  ·exact t0.2.2.2 hk
 ·show w.heap.size≠0
  have:=t0.1;omega
theorem open_clean(q room:Nat)(P:Dsk.Parts)(d:DS)(l:List Pg)(w:World)(h:DiskP w q P d)(hc:Clean d l)(hw:Whole l)(hl:l.length≤4000)(hr1:8≤room)(hr2:room≤4096)(hT:Jrn.Tab w)(h0:Out w (DN q P) 0)(hop:d.ops≤900000000) :
  Calls Tryz.prog 18 #[.pointer (some ⟨q,0,none⟩),.int .i64 (room:Int)] w fun e w'=>∃ p x,e=.returned (.tuple #[.pointer (some ⟨p,0,none⟩),.int .i64 0])∧OpenTo w w' q P d room l p x:=by
 have c41:=hid (Dsk.room_any q P d w h)
 have hrm:¬(d.room:Int)=0:=by have:=h.ok.r1;omega
 have c42:=hid (Cch.new_yes room w (by omega) hr2)
 have HR:=hid (fun W (hb:Below w.heap.size w W)=>recovered_clean q P d l W (h.later hb) hc hl (hT.keep hb) hop)
 have H:=hid h;have HC:=hid hc;have HW:=hid hw;have HT:=hid hT;have H0:=hid h0
 have hl0:=hc.len.1
 have C29:Hid (∀ W P',DiskP W q P' d→Calls Tryz.prog 43 #[.pointer (some ⟨q,0,none⟩),.int .i64 0] W fun e w'=>e=.returned (.int .i64 ((l.length*4:Nat):Int))∧w'=W):=hid (fun W P' hW=>by have:=Dsk.sectors_call q P' d 0 W hW;rw [hl0]at this;exact this)
 obtain ⟨T,hTl⟩:∃ T,T=l.length:=⟨_,rfl⟩
 rw [←hTl]at C29 hl
 have HTL:=hid hTl
 obtain ⟨N,hN⟩:∃ N,T*4=N:=⟨_,rfl⟩
 rw [hN]at C29
 have hdiv:(N:Int).tdiv 4=(T:Int):=by rw [Int.tdiv_eq_ediv_of_nonneg (by omega)];omega
 have hr8:¬(room:Int)<8:=by omega
 clear h hc hw hT h0 hl0 hTl hN
 go_enter Tryz.func18,Tryz.ntmps18
 go_upto_region 10 with (first
  | (go_at_call 40;refine c41.out.mono ?_;rintro e w1 ⟨rfl,hw1⟩;obtain rfl:=hw1.symm)
  | (go_at_call 41;refine c42.out.mono ?_;rintro e w2 ⟨k,rfl,C,hcp,hks,hCS,hb2⟩;have CP2:=hid hcp;have CS2:=hid hCS;have B2:=hid hb2;clear hcp hks hCS hb2)
  | (go_at_call 42;refine (HR.out w2 B2.out).mono ?_;rintro e w3 ⟨rfl,hto⟩;have T3:=hid hto;clear hto))
 obtain ⟨P3,hd3,hg3⟩:=T3.out.is
 obtain ⟨pp,hpp⟩:∃ pp,pp=w3.heap.size:=⟨_,rfl⟩
 obtain ⟨W4,hW4⟩:∃ W4,W4=w3.alloc (.cells (rawP q k 0 0).toArray 78):=⟨_,rfl⟩
 have hb4:Below w3.heap.size w3 W4:=by rw [hW4];exact Below.alloc (Below.refl _ _) (Nat.le_refl _) _
 have hr4:W4.heap[pp]? = some (.cells (rawP q k 0 0).toArray 78 (0,0)):=by rw [hW4,hpp];exact heap_alloc_new w3 _
 obtain ⟨W5,hW5⟩:∃ W5,W5=W4.setCell ⟨pp,4,none⟩ (.int .i64 (T:Int)):=⟨_,rfl⟩
 have hr5:W5.heap[pp]? = some (.cells (rawP q k (T:Int) 0).toArray 78 (0,0)):=by rw [hW5,Cch.blk_set hr4];rfl
 have h5o:∀ b,b≠pp→W5.heap[b]? = W4.heap[b]?:=fun b hb=>by rw [hW5,heap_setCell_other _ _ _ _ hb]
 have h5s:W5.heap.size=W4.heap.size:=by rw [hW5];simp
 have h4s:W4.heap.size=pp+1:=by rw [hW4,hpp];simp
 have h45:∀ b,b<pp→W5.heap[b]? = w3.heap[b]?:=fun b hb=>(h5o b (by omega)).trans (hb4.block b (by omega))
 have hdk5:DiskP W5 q P3 d:=hd3.stay (by omega) (fun b hb _=>h45 b (by omega))
 have hf3:=fr_df T3.out.fr
 have hDN:∀ b,DN q P b→b<w.heap.size:=fun b hb=>DN.lt H.out hb
 have hck5:CP W5 k C ⟨room,[],0,0⟩:=CP2.out.stay (fun b hb hS=>(h45 b (by have:=hf3.size;omega)).trans (hf3.blk b hb (fun hk=>by have h1:=hDN b hk;have h2:=CS2.out b hS;omega)))
 have hDN3:∀ b,DN q P3 b→DN q P b∨w2.heap.size≤b:=fun b hb=>by
  rcases hb with hb |hb
  ·exact Or.inl (Or.inl hb)
  ·rcases hg3 b hb with h1 |h1
   ·exact Or.inl (Or.inr h1)
   ·exact Or.inr h1
 have hdc:∀ b,DN q P3 b→¬C.S k b:=fun b hb hS=>by
  have h1:=CP2.out.lt hS
  rcases hDN3 b hb with h2 |h2
  ·have h3:=hDN b h2;have h4:=CS2.out b hS;omega
  ·omega
 have hdp:¬DN q P3 pp:=fun hk=>by have h1:=DN.lt hd3 hk;omega
 have hcp:¬C.S k pp:=fun hk=>by have h1:=CP2.out.lt hk;have:=hf3.size;omega
 have hsz:w.heap.size≤w3.heap.size:=Nat.le_trans B2.out.size hf3.size
 have h00:=H0.out.1
 have hD0:¬DN q P3 0:=fun hk=>by
  rcases hDN3 0 hk with h1 |h1
  ·exact H0.out.2 h1
  ·have:=B2.out.size;omega
 have hC0:¬C.S k 0:=fun hS=>by have:=CS2.out 0 hS;omega
 have htab:Jrn.Tab W5:=tab_of HT.out ((h45 0 (by omega)).trans ((hf3.blk 0 (by have:=B2.out.size;omega) (fun hk=>H0.out.2 hk)).trans (B2.out.block 0 h00)))
 have hfit:Fits (⟨room,[],0,0⟩:CS) l:=⟨fun r hr=>(by cases hr),Nat.zero_le _,hr1⟩
 have FF:Hid (∀ w',w'=(((((W5.setCell ⟨pp,5,none⟩ (.bool false)).setCell ⟨pp,6,none⟩ (.int .i64 (T:Int))).setCell ⟨pp,7,none⟩ (.map (some W5.heap.size))).setCell ⟨pp,8,none⟩ (.slice none 0 0)).setCell ⟨pp,9,none⟩ (.int .i64 0)).alloc (.map #[] 0)→_):=
  hid (fun w' hw=>tx_open hr5 hdk5 hck5 hdc hdp hcp hfit HTL.out HW.out (by rw [←HTL.out];exact hl) htab ⟨by omega,hD0,hC0,by omega⟩ hw)
 have CE:=hid (end_gen pp (T:Int) W5 ((Cch.hd_cell hr5 4).trans rfl) ((Cch.hd_cell hr5 5).trans rfl) ((Cch.hd_cell hr5 6).trans rfl) ((Cch.hd_cell hr5 7).trans rfl) ((Cch.hd_cell hr5 8).trans rfl) ((Cch.hd_cell hr5 9).trans rfl) (fun i=>Cch.hd_frozen hr5 i))
 have CS4:=hid (C29.out W4 P3 (hd3.later hb4))
 have k4:W4.cell? ⟨pp,4,none⟩=some (.int .i64 0):=(Cch.hd_cell hr4 4).trans rfl
 have f4:W4.frozen? ⟨pp,4,none⟩=false:=Cch.hd_frozen hr4 4
 have HW5:=hid hW5
 have FIN:Hid (Fr (DN q P) w W5∧w.heap.size≤pp∧(∀ b,DN q P3 b∨C.S k b∨b=pp→DN q P b∨w.heap.size≤b)):=hid ⟨⟨by rw [hW5,hW4];exact hf3.os.trans B2.out.os,by rw [hW5,hW4];exact hf3.tape.trans B2.out.tape,by rw [hW5,hW4];exact hf3.output.trans B2.out.output,by omega,fun b hb hn=>(h45 b (by omega)).trans ((hf3.blk b (Nat.lt_of_lt_of_le hb B2.out.size) hn).trans (B2.out.block b hb))⟩,by omega,fun b hb=>by
  rcases hb with hb |hb |hb
  ·rcases hDN3 b hb with h1 |h1
   ·exact Or.inl h1
   ·exact Or.inr (Nat.le_trans B2.out.size h1)
  ·exact Or.inr (CS2.out b hb)
  ·right;omega⟩
 have hw4:w3.alloc (.cells #[.bool true,.int .i64 0,.pointer (some ⟨q,0,none⟩),.pointer (some ⟨k,0,none⟩),.int .i64 0,.bool false,.int .i64 0,.map none,.slice none 0 0,.int .i64 0,.int .i64 0,.int .i64 0] 78)=W4:=by rw [hW4];rfl
 rw [hw4,←hpp]
 clear hw4 hW4 hpp hb4 hr4 hr5 h5o h5s h4s h45 hdk5 hf3 hDN hck5 hDN3 hdc hdp hcp hsz h00 hD0 hC0 htab hfit hW5 hd3 hg3
 go_wp2_with (first
  | (go_at_call 43;refine CS4.out.mono ?_;rintro e w5 ⟨rfl,hw5⟩;obtain rfl:=hw5.symm)
  | (go_at_call 44;rw [←HW5.out];refine CE.out.mono ?_;rintro e w6 ⟨rfl,hw6⟩;have HW6:=hid hw6;clear hw6))
 go_ret2
 obtain ⟨t1,t2⟩:=FF.out w6 HW6.out
 obtain ⟨g1,g2,g3⟩:=FIN.out
 exact ⟨pp,_,rfl,⟨⟨P3,C,_,t1,rfl,rfl,rfl,g3⟩,rfl,rfl,rfl,rfl,g2,g1.size,⟨rfl,rfl,rfl,rfl⟩,fr_trans g1 t2 (fun b hb=>by right;rw [hb];exact g2)⟩⟩
end
section
open Go.RowKit Go.Maps
open Dsk (gt hid undrew keep_old keep_cell lt_cell Rd DS FS Sec DiskP DFrame Grew From lenD readD newD known)
open Cch (CS CP Fr)
def RowB(W:World)(g:Nat)(xs:List Nat):Prop:=W.heap[g]? = some (.cells (Dsk.bs xs).toArray 5 (0,0))
end
section
open Go.RowKit Go.Maps
open Dsk (gt hid undrew keep_old keep_cell lt_cell Rd DS FS Sec DiskP newD)
open Cch (CS CP Fr)
open Jrn (Pv2 Row5 numAt RB fr_two trunkN rootN putN nul)
def rt0:RS:=⟨[],[],[],false,[],0,0⟩
def Old(w:World):Nat→Prop:=fun b=>b<w.heap.size∧b≠0
variable {w w':World}
theorem old_below(h:Rok (Old w) w w'):Below w.heap.size w w':=⟨h.os,h.tape,h.output,h.size,fun k hk=>h.blk k hk (fun e=>e.1 ⟨hk,e.2⟩)⟩
theorem clean_new(r:Nat):Clean (newD r) []:=⟨rfl,rfl,rfl⟩
theorem whole_nil:Whole []:=fun i hi=>by cases hi
variable {x:PC} {p room croom:Nat}
theorem opened{arm:Prop}{K:Nat}{q:Nat}{P:Dsk.Parts}{d:DS}{l:List Pg}{R:Nat→Prop}(ho:OpenTo w w' q P d croom l p x)(hs:Sured d l)(he:Env arm room d)(hop:d.ops≤K)(hR:∀ b,R b→b<w.heap.size∧¬DN q P b∧b≠0):PrgAt arm room croom K w' p q R ⟨l,[],[],false,[],0,0⟩:=by
 obtain ⟨P',C,s,hr,e1,e2,e3,hN⟩:=ho.is
 obtain ⟨m1,m2,m3,m4⟩:=ho.mks
 have hL:=hr.live ⟨m1,m2,m3⟩
 refine ⟨x,P',C,d,s,0,_,[],hL,ho.xq,ho.busy,ho.com,(fun e=>by cases e),(fun _=>⟨rfl,m4⟩),fun b hb hRb=>?_,hs,he,hop,by rw [e1,e2];exact Nat.zero_le _,e3,Nat.zero_le _,(fun k hk=>by cases hk),fun b hb=>Nat.lt_of_lt_of_le (hR b hb).1 ho.fr.size⟩
 have h1:=hR b hRb
 rcases hb with hb |hb |hb |hb | ⟨o,l,cc,hb⟩ | ⟨k,hk,_⟩
 ·rcases hN b hb with h2 |h2
  ·exact h1.2.1 h2
  ·omega
 ·have:=ho.mnew;omega
 ·exact h1.2.2 hb
 ·unfold PC.mv at hb;rw [m1]at hb;cases hb
 ·exact enc_nil _ _ o l cc hb
 ·cases hk
theorem prg_new{w1 w2:World}{P:Dsk.Parts}(B1:Below w.heap.size w w1)(hP:∀ k,P.all k→w.heap.size<k)(ho:OpenTo w1 w2 w.heap.size P (newD room) croom [] p x):PrgAt False room croom 0 w2 p w.heap.size (Old w) rt0∧Rok (Old w) w w2:=by
 have hdn:∀ b,b<w.heap.size→¬DN w.heap.size P b:=fun b hb hd=>by
  rcases hd with h1 |h1
  ·omega
  ·have:=hP b h1;omega
 have hs1:=B1.size
 refine ⟨opened ho ⟨rfl,rfl⟩ ⟨rfl,fun _=>rfl,rfl,by show 0≤_;omega⟩ (Nat.zero_le _) (fun b hb=>⟨by have:=hb.1;omega,hdn b hb.1,hb.2⟩),?_⟩
 refine (Fr.of_below B1).trans ho.fr (fun b hb hd=>(hdn b hb hd).elim)
section
variable {arm:Prop} {room croom K:Nat} {p q:Nat} {R:Nat→Prop} {t:RS} {w:World}
theorem field83(n:Int)(g:Nat)(W:World):(Instr.field 83 (.agg #[.int .i64 n,.slice (some ⟨g,0,none⟩) 512 512]) 0).run Tryz.prog W=.ok (.agg #[.int .i64 n,.slice (some ⟨g,0,none⟩) 512 512]) W:=by kernel_rfl
def z60:List Nat:=List.replicate 60 0
theorem make_pgs{W:World}{ab g B:Nat}(y:W.heap[ab]? = some (.cells #[.int .i64 1,.slice (some ⟨g,0,none⟩) 512 512] 81 (0,0)))(r:Row5 W B g 512 (rootN 0 0 z60)):Pgs W ab [⟨1,g,512,rootN 0 0 z60⟩]:=fun i x hx=>by
 match i,hx with
 | 0,hx=>simp at hx;subst hx;exact ⟨by simp [World.cell?,y],by simp [World.cell?,y],r.rd⟩
 | i+1,hx=>simp at hx
theorem Make_yes(h:PrgAt arm room croom K w p q R t)(hbz:t.busy=true)(hn:t.now = [])(hK:K+2≤500000) :
  Calls Tryz.prog 20 #[.pointer (some ⟨p,0,none⟩)] w fun e w'=>∃ hb,e=.returned (.tuple #[.pointer (some ⟨hb,0,none⟩),.int .i64 0])∧HeapAt w' hb p∧w.heap.size≤hb∧PrgAt arm room croom (K+2) w' p q (Plus R hb) (t.grow.put 0 (rootN 0 0 z60))∧Rok R w w':=by
 have hpb:t.pages=t.now:=RS.pages_busy hbz
 have CW:=hid (within_yes h hbz)
 have CPg:=hid (fun W (hW:Below w.heap.size w W)=>prg_pages (h.keep hW))
 rw [hpb,hn]at CPg
 have CGr:=hid (fun W (hW:Below w.heap.size w W)=>prg_grow_yes (h.keep hW) hbz (by rw [hn];decide) (by omega))
 rw [hn]at CGr
 have CNr:=hid (fun W=>Jrn.newRoot_any W)
 have HN:=hid (show t.grow.now.length=1 by show (t.now++[zeros]).length=1;rw [hn];rfl)
 have HBZ:=hid (show t.grow.busy=true from hbz)
 have H:=hid h
 have fl:=fun g W=>field83 1 g W
 clear h hbz hn hpb
 unfold Pv2 at *
 go_enter Tryz.func20,Tryz.ntmps20
 go_wp2_with (first
  | (go_at_call 45;refine CW.out.mono ?_;rintro e w1 ⟨rfl,hb1⟩;have B1:=hid hb1;clear hb1)
  | (go_at_call 10;refine (CPg.out w1 B1.out).mono ?_;rintro e w2 ⟨rfl,hb2⟩;have B2:=hid (gt B1.out hb2);clear hb2)
  | (go_at_call 35;refine (CGr.out w2 B2.out).mono ?_;rintro e w3 ⟨rfl,hP3,hok3⟩;have P3:=hid hP3;have K3:=hid (Rok.after (R:=R) B2.out hok3 (fun _ h=>h));clear hP3 hok3)
  | (go_at_call 47;refine (CNr.out _).mono ?_;rintro e w5 ⟨g,rfl,hg5,hr5,hb5⟩;have R5:=hid hr5;have G5:=hid hg5;have B4:=hid (gt (show Below w3.heap.size w3 (w3.alloc (.cells #[.pointer (some ⟨p,0,none⟩)] 63)) from Below.alloc (Below.refl _ _) (Nat.le_refl _) _) hb5);have H5:=hid (HeapAt.keep (show HeapAt (w3.alloc (.cells #[.pointer (some ⟨p,0,none⟩)] 63)) w3.heap.size p from heap_alloc_new _ _) hb5);clear hr5 hg5 hb5)
  | (go_at_call 46;obtain ⟨W6,hW6⟩:∃ W6,W6=w5.alloc (.cells #[.int .i64 1,.slice (some ⟨g,0,none⟩) 512 512] 81):=⟨_,rfl⟩;rw [←hW6];have B6:=hid (show Below w5.heap.size w5 W6 by rw [hW6];exact Below.alloc (Below.refl _ _) (Nat.le_refl _) _);have Y6:=hid (show W6.heap[w5.heap.size]? = some (.cells #[.int .i64 1,.slice (some ⟨g,0,none⟩) 512 512] 81 (0,0)) by rw [hW6];exact heap_alloc_new _ _);have B7:=hid (gt B4.out B6.out);have P6:=hid (P3.out.work (Fr.of_below B7.out));have hpg:=make_pgs Y6.out (R5.out.keep B6.out);clear hW6;refine (hput_any w3.heap.size w5.heap.size 1 [⟨1,g,512,rootN 0 0 z60⟩] P6.out (H5.out.keep B6.out) (Or.inr ⟨Nat.le_refl _,Nat.lt_of_lt_of_le H5.out.lt B6.out.size⟩) hpg (Or.inr ⟨B4.out.size,(Array.getElem?_eq_some_iff.1 Y6.out).1⟩) (by intro x hx;simp only [List.mem_cons,List.mem_nil_iff,or_false]at hx;subst hx;exact Or.inr ⟨(by have h1:=G5.out;simp at h1;show w3.heap.size≤g;omega),Nat.lt_of_lt_of_le R5.out.lt B6.out.size⟩) HBZ.out (by intro x hx;simp only [List.mem_cons,List.mem_nil_iff,or_false]at hx;subst hx;exact ⟨Nat.le_refl _,by rw [HN.out];exact Nat.le_refl _⟩) (by intro x hx;simp only [List.mem_cons,List.mem_nil_iff,or_false]at hx;subst hx;exact Jrn.rootN_bytes _ _ _) (by show K+1+1≤500000;omega)).mono ?_;rintro e w8 ⟨rfl,hP8,hok8⟩;have P8:=hid hP8;have K8:=hid hok8;have H8:=hid ((H5.out.keep B6.out).rok hok8 (Or.inr ⟨Nat.le_refl _,Nat.lt_of_lt_of_le H5.out.lt B6.out.size⟩));clear hP8 hok8 hpg))
 go_ret2
 refine ⟨w3.heap.size,rfl,H8.out,K3.out.size,?_,?_⟩
 ·exact P8.out.less (fun b hb=>by rcases hb with hb |rfl;exact Or.inl hb;exact Or.inr ⟨Nat.le_refl _,Nat.lt_of_lt_of_le H5.out.lt B6.out.size⟩)
 ·exact (K3.out.below B7.out).then K8.out (fun b hb=>Or.inl hb)
end
end
section
open Go.RowKit Go.Maps
open Dsk (gt hid undrew keep_old keep_cell lt_cell Rd DS FS Sec DiskP newD)
open Cch (CS CP Fr)
open Jrn (Pv2 Row5 numAt RB fr_two trunkN rootN putN nul)
def T1:RS:=rt0.begin.grow.put 0 (rootN 0 0 z60)
def T2:RS:=T1.grow
def T3:RS:=(T2.put 1 (trunkN 0 [])).put 0 (rootN 2 1 z60)
theorem fresh_any(w:World)(hT:Jrn.Tab w)(h0:0<w.heap.size) :
  Calls Tryz.prog 8 #[] w fun e w'=>∃ p hb,e=.returned (.tuple #[.pointer (some ⟨p,0,none⟩),.pointer (some ⟨hb,0,none⟩),.bool true])∧HeapAt w' hb p∧w.heap.size≤hb∧PrgAt False 32768 16 3 w' p w.heap.size (Plus (Old w) hb) T1∧Rok (Old w) w w':=by
 have c17:=hid (Dsk.new_yes 32768 w (by omega) (by omega))
 have HT:=hid hT;have H0:=hid h0
 clear hT h0
 go_enter Tryz.func8,Tryz.ntmps8
 go_wp2_with (first
  | (go_at_call 17;refine c17.out.mono ?_;rintro e w1 ⟨rfl,⟨P1,hd1,ha1⟩,hb1⟩;have D1:=hid hd1;have K1:=hid ha1;have B1:=hid hb1;clear hd1 ha1 hb1)
  | (go_at_call 18;refine (open_clean w.heap.size 16 P1 (newD 32768) [] w1 D1.out (clean_new 32768) whole_nil (by simp) (by omega) (by omega) (HT.out.keep B1.out) ⟨by have:=H0.out;have:=B1.out.size;omega,fun hd=>by rcases hd with h1 | h1;(have:=H0.out;omega);(have:=K1.out 0 h1;omega)⟩ (by show 0≤_;omega)).mono ?_;rintro e w2 ⟨p,x,rfl,ho⟩;have N2:=hid (prg_new B1.out K1.out ho);clear ho)
  | (go_at_call 19;refine (prg_begin N2.out.1).mono ?_;rintro e w3 ⟨rfl,hP3,hok3⟩;have P3:=hid (show PrgAt False 32768 16 1 w3 p w.heap.size (Old w) rt0.begin from hP3);have K3:=hid (N2.out.2.then hok3 (fun _ h=>h));clear hP3 hok3)
  | (go_at_call 20;refine (Make_yes P3.out rfl rfl (by omega)).mono ?_;rintro e w4 ⟨hb,rfl,hH4,hhb,hP4,hok4⟩;have H4:=hid hH4;have P4:=hid hP4;have K4:=hid (K3.out.then hok4 (fun _ h=>h));have HB4:=hid (Nat.le_trans K3.out.size hhb);clear hH4 hP4 hok4 hhb))
 go_ret3
 exact ⟨p,hb,rfl,H4.out,HB4.out,P4.out,K4.out⟩
theorem lives_any(w:World)(hT:Jrn.Tab w)(h0:0<w.heap.size):Calls Tryz.prog 7 #[] w fun e w'=>e=.returned (.bool true)∧Below w.heap.size w w':=by
 have c8:=hid (fresh_any w hT h0)
 clear hT h0
 have t0:Hid True:=hid trivial
 go_enter Tryz.func7,Tryz.ntmps7
 go_wp2_with (first
  | (go_at_call 8;refine c8.out.mono ?_;rintro e w1 ⟨p,hb,rfl,hH1,hhb,hP1,hok1⟩;have H1:=hid hH1;have P1:=hid hP1;have K1:=hid hok1;clear hH1 hhb hP1 hok1)
  | (go_at_call 15;clear t0;refine (Take_grow hb z60 P1.out H1.out (Or.inr rfl) rfl rfl (by decide) (by decide) (by omega)).mono ?_;rintro e w2 ⟨rfl,hP2,hok2⟩;have P2:=hid hP2;have H2:=hid (H1.out.rok hok2 (Or.inr rfl));have K2:=hid (K1.out.then hok2 (fun b hb=>Or.inl hb));clear hP2 hok2)
  | (go_at_call 16;refine (Give_first hb 2 z60 P2.out H2.out (Or.inr rfl) (fun b hb=>P2.out.lt hb) rfl (by decide) rfl (by omega) (by decide) (by decide) (by omega)).mono ?_;rintro e w3 ⟨rfl,hP3,hok3⟩;have P3:=hid hP3;have H3:=hid (H2.out.rok hok3 (Or.inr rfl));have K3:=hid (K2.out.then hok3 (fun b hb=>Or.inl hb));clear hP3 hok3)
  | (go_at_call 15;refine (Take_one hb 1 z60 P3.out H3.out (Or.inr rfl) (fun b hb=>P3.out.lt hb) rfl rfl rfl (by omega) (by decide) (by decide) (by omega)).mono ?_;rintro e w4 ⟨rfl,hP4,hok4⟩;have K4:=hid (K3.out.then hok4 (fun b hb=>Or.inl hb));clear hP4 hok4))
 go_ret
 exact ⟨rfl,old_below K4.out⟩
end
end Go.Proofs.YtgjgkpnjchflaaaGreatDoor
