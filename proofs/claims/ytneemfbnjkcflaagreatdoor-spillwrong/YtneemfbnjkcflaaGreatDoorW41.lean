/- Rows are joined, and asked whether a number stands there twice; no statement of the seat is proved here. -/
import Derived.Test.YtneemfbnjkcflaaGreatDoorW40
import Derived.Test.YtneemfbnjkcflaaGreatDoorW36
import Derived.Lib.AppendZerosOnto
set_option maxHeartbeats 16000000
set_option maxRecDepth 20000
namespace Go.Proofs.YtneemfbnjkcflaaGreatDoor
namespace Spl
open Go.RowKit Go.Maps
open Dsk (gt hid undrew keep_old keep_cell lt_cell)
open Cch (Fr hd_cell hd_frozen blk_set wpAnyK wpAnyK_done wp_region_K)
variable {ys:List Value} {m c:Nat} {ao:Option Addr} {w w':World}
theorem src_keep(h:Cch.Src w ao m c ys)(hb:Below w.heap.size w w'):Cch.Src w' ao m c ys:=
 ⟨h.len,h.no,fun ad ha j u hu=>keep_old hb (h.at_ ad ha j u hu),h.one⟩
theorem src_rok{R:Nat→Prop}(h:Cch.Src w ao m c ys)(hk:Rok R w w')(hR:∀ a,ao=some a→R a.block):Cch.Src w' ao m c ys:=
 ⟨h.len,h.no,fun ad ha j u hu=>by
  have h1:=h.at_ ad ha j u hu
  rw [World.cell?_of_block (a:=ad.add j) (hk.at_ (show R (ad.add j).block by rw [show (ad.add j).block=ad.block by unfold Addr.add;split<;>rfl];exact hR ad ha) (lt_cell h1))];exact h1,h.one⟩
theorem growI_any(n:Nat)(hn:n≤100000)(w:World):Calls Tryz.prog 86 #[.slice none 0 0,.int .i64 (n:Int)] w fun e w'=>∃ ao c,e=.returned (.slice ao 0 c)∧w'.ownsRow w.heap.size 3 1 (.slice ao 0 c) 0 []∧Below w.heap.size w w':=by
 have hneg:¬(n:Int)<0:=by omega
 by_cases h0:n=0
 ·subst h0
  rw [show ((0:Nat):Int)=0 from rfl]
  go_enter Tryz.func86,Tryz.ntmps86
  go_wp2
  go_ret
  exact ⟨none,0,rfl,⟨rfl,Or.inl ⟨rfl,rfl⟩⟩,Below.refl _ _⟩
 ·have hp:0<(n:Int):=by omega
  obtain ⟨i,hi,hz0,hz1,hz2⟩:=info_parts Cch.info3
  have hr:=Lib.run_append_nil_zeros (P:=Tryz.prog) w 28 3 28 3 i (.int .i64 0) .i64 .i64 Tryz.underlying28 Tryz.underlying3 hi hz0 n (by omega) (by rw [hz1];omega) (by omega) (by rw [hz2];omega)
  have hge:=grownCap_ge w n 0 3
  have hcm:=grownCap_le_maxLen w n 0 3 (by unfold maxLen;omega)
  obtain ⟨C,hC⟩:∃ C,C=(Builtin.zeroCells (Value.int .i64 0).cells n++Builtin.zeroCells (Value.int .i64 0).cells (grownCap w n 0 3 - n)):=⟨_,rfl⟩
  have hCs:C.size=grownCap w n 0 3:=by rw [hC];simp [Builtin.zeroCells,Value.cells];omega
  rw [←hC]at hr
  have hcm':grownCap w n 0 3≤9223372036854775807:=by unfold maxLen at hcm;omega
  obtain ⟨W1,hW1⟩:∃ W1,W1=w.drew.alloc (.cells C 3):=⟨_,rfl⟩
  rw [←hW1]at hr
  have B1:Hid (Below w.heap.size w W1):=hid (by rw [hW1];exact (Below.refl _ w).drew.alloc (by simp) _)
  have R1:Hid (W1.heap[w.heap.size]? = some (.cells C 3 (0,0))):=hid (by rw [hW1];exact heap_alloc_new w.drew _)
  have HR:=hid hr
  have HCS:=hid hCs;have HCM:=hid hcm
  clear hC hW1 hr hCs
  generalize grownCap w n 0 3=gc at *
  go_enter Tryz.func86,Tryz.ntmps86
  go_wp2_with ((with_reducible refine Cch.here_op 22 ?_);refine Lib.wpList_append_run w rfl (.tmp 20) (.tmp 21) 28 3 rfl _ _ rfl rfl _ _ HR.out ?_)
  go_ret
  exact ⟨_,gc,rfl,⟨rfl,Or.inr ⟨w.heap.size,gc,C,rfl,Nat.le_refl _,R1.out,Nat.zero_le _,HCM.out,by simpa using HCS.out,by simp⟩⟩,B1.out⟩
theorem app_own{W:World}{B n:Nat}{v:Value}{us us0:List Value}(h:W.ownsRow B 3 1 v n us0)(hB:B≤W.heap.size)(ho:w'.ownsRow 0 3 1 (.slice ao m c) m (us++ys))(hg:W.grownBy w' v.ownBlock)(ha:∀ a,ao=some a→(v.ownBlock=some a.block∨a.block=W.heap.size)):w'.ownsRow B 3 1 (.slice ao m c) m (us++ys)∧Below B W w':=by
 refine ⟨rr_up ho (fun k hk=>?_),(Below.refl B W).grown hg hB (fun k hk=>(rr_blk h hk).1)⟩
 cases ao with
 | none=>cases hk
 | some a=>
  cases hk
  rcases ha a rfl with h1 |h1
  ·exact (rr_blk h h1).1
  ·omega
structure Two (W:World) (sb:Nat) (a0:Option Addr) (n0 c0:Nat) (a1:Option Addr) (n1 c1:Nat):Prop where
 x0:W.cell? ⟨sb,0,none⟩=some (.slice a0 n0 c0)
 x1:W.cell? ⟨sb,1,none⟩=some (.slice a1 n1 c1)
theorem concat_any(sb:Nat)(a0:Option Addr)(n0 c0:Nat)(a1:Option Addr)(n1 c1:Nat)(l0 l1:List Nat)(w:World)(h:Two w sb a0 n0 c0 a1 n1 c1)(h0:Cch.Src w a0 n0 c0 (zI l0))(h1:Cch.Src w a1 n1 c1 (zI l1))(hn0:n0≤10000)(hn1:n1≤10000) :
  Calls Tryz.prog 49 #[.slice (some ⟨sb,0,none⟩) 2 2] w fun e w'=>∃ ao c,e=.returned (.slice ao (n0+n1) c)∧w'.ownsRow w.heap.size 3 1 (.slice ao (n0+n1) c) (n0+n1) (zI (l0++l1))∧Below w.heap.size w w':=by
 obtain ⟨x0,x1⟩:=h
 have X0:=hid x0;have X1:=hid x1;have H0:=hid h0;have H1:=hid h1
 clear h0 h1
 go_enter Tryz.func49,Tryz.ntmps49
 go_wp2
 go_loopw [3,11] (fun z c W=>∃ i m:Nat,i≤2∧z=.int .i64 (m:Int)∧c=.int .i64 (i:Int)∧m=(if i=0 then 0 else if i=1 then n0 else n0+n1)∧w=W) (fun _ c _=>2 - (Lib.intOf c).toNat)
 case atStart=>exact ⟨0,0,by omega,rfl,rfl,rfl,rfl⟩
 case round=>
  obtain ⟨i,m,hi,rfl,rfl,hm,rfl⟩:=hrel
  rcases i with _ |_ |_ |i
  ·obtain rfl:m=0:=by simpa using hm
   have k1:¬(n0:Int)<0:=by omega
   clear hm
   rw [show ((0:Nat):Int)=0 from rfl]
   go_wp2
   exact ⟨⟨1,n0,by omega,by simp,rfl,by simp,by first |rfl |trivial⟩,by simp [Lib.intOf]⟩
  ·obtain rfl:m=n0:=by simpa using hm
   have k1:¬(m:Int)+(n1:Int)<0:=by omega
   clear hm
   rw [show ((0+1:Nat):Int)=1 from rfl]
   go_wp2
   exact ⟨⟨2,m+n1,by omega,by simp,rfl,by simp,by first |rfl |trivial⟩,by simp [Lib.intOf]⟩
  ·obtain rfl:m=n0+n1:=by simpa using hm
   clear hm
   rw [show ((0+1+1:Nat):Int)=2 from rfl]
   have CG:=hid (growI_any (n0+n1) (by omega) w)
   clear x0 x1
   go_wp2_with (go_at_call 86;refine CG.out.mono ?_;rintro e w2 ⟨ao,c,rfl,ho,hb⟩;have O2:=hid ho;have B2:=hid hb;clear ho hb)
   go_loopw [6,27] (fun v c W=>∃ (i m:Nat) (ao:Option Addr) (cp:Nat),i≤2∧v=.slice ao m cp∧c=.int .i64 (i:Int)∧m=(if i=0 then 0 else if i=1 then n0 else n0+n1)∧Hid (W.ownsRow w.heap.size 3 1 (.slice ao m cp) m (if i=0 then [] else if i=1 then zI l0 else zI (l0++l1))∧Below w.heap.size w W)) (fun _ c _=>2 - (Lib.intOf c).toNat)
   case atStart=>exact ⟨0,0,ao,c,by omega,rfl,rfl,rfl,hid ⟨by simpa using O2.out,B2.out⟩⟩
   case round=>
    obtain ⟨i,m,ao,cp,hi,rfl,rfl,hm,HH⟩:=hrel
    clear O2 B2 CG
    rcases i with _ |_ |_ |i
    ·obtain rfl:m=0:=by simpa using hm
     clear hm
     have y0:=keep_old HH.out.2 X0.out
     have hO:wr.ownsRow 0 3 1 (.slice ao 0 cp) 0 []:=rr_base (by have:=HH.out.1;simpa using this) (Nat.zero_le _)
     rw [show ((0:Nat):Int)=0 from rfl]
     go_wp2_with ((with_reducible refine Cch.here_op 33 ?_);refine Cch.wpList_app rfl (.tmp 31) (.tmp 32) el41 rfl (.slice ao 0 cp) 0 _ rfl hO a0 n0 c0 (zI l0) rfl (src_keep H0.out HH.out.2) (by omega) ?_;intro a9 c9 w9 ho9 hg9 ha9;have A9:=hid (app_own HH.out.1 (by have:=HH.out.2.size;omega) ho9 hg9 ha9);clear ho9 hg9 ha9 hO)
     refine ⟨⟨1,n0,a9,c9,by omega,by simp,rfl,by simp,hid ⟨?_,?_⟩⟩,by simp [Lib.intOf]⟩
     ·have:=A9.out.1;simpa using this
     ·exact HH.out.2.trans A9.out.2
    ·obtain rfl:m=n0:=by simpa using hm
     clear hm
     have y0:=keep_old HH.out.2 X1.out
     have hO:wr.ownsRow 0 3 1 (.slice ao m cp) m (zI l0):=rr_base (by have:=HH.out.1;simpa using this) (Nat.zero_le _)
     rw [show ((0+1:Nat):Int)=1 from rfl]
     go_wp2_with ((with_reducible refine Cch.here_op 33 ?_);refine Cch.wpList_app rfl (.tmp 31) (.tmp 32) el41 rfl (.slice ao m cp) m _ rfl hO a1 n1 c1 (zI l1) rfl (src_keep H1.out HH.out.2) (by omega) ?_;intro a9 c9 w9 ho9 hg9 ha9;have A9:=hid (app_own HH.out.1 (by have:=HH.out.2.size;omega) ho9 hg9 ha9);clear ho9 hg9 ha9 hO)
     refine ⟨⟨2,m+n1,a9,c9,by omega,rfl,rfl,by simp,hid ⟨?_,?_⟩⟩,by simp [Lib.intOf]⟩
     ·have:=A9.out.1;rw [←zI_append]at this;simpa using this
     ·exact HH.out.2.trans A9.out.2
    ·obtain rfl:m=n0+n1:=by simpa using hm
     clear hm
     rw [show ((0+1+1:Nat):Int)=2 from rfl]
     go_wp2
     go_ret
     exact ⟨ao,cp,rfl,by have:=HH.out.1;simpa using this,HH.out.2⟩
    ·omega
  ·omega
variable {l:List Nat}
theorem lt_step(h:l.Pairwise (· < ·)){k:Nat}(hk:k+1<l.length):l.getD k 0<l.getD (k+1) 0:=by
 have h1:=List.pairwise_iff_getElem.1 h k (k+1) (by omega) hk (by omega)
 simp only [List.getD,List.getElem?_eq_getElem hk,List.getElem?_eq_getElem (show k<l.length by omega),Option.getD_some]
 exact h1
theorem compact_any(B n cp:Nat)(ao:Option Addr)(l:List Nat)(w:World)(h:w.ownsRow B 3 1 (.slice ao n cp) n (zI l))(hn:n≤100000)(hp:l.Pairwise (· < ·)) :
  Calls Tryz.prog 51 #[.slice ao n cp] w fun e w'=>e=.returned (.slice ao n cp)∧Below w.heap.size w w':=by
 have hl:l.length=n:=by simpa [zI] using h.1
 by_cases h2:n<2
 ·have k1:(n:Int)<2:=by omega
  go_enter Tryz.func51,Tryz.ntmps51
  go_wp2
  go_ret
  exact ⟨rfl,Below.refl _ _⟩
 ·have k1:¬(n:Int)<2:=by omega
  obtain ⟨g,cap,hv,hg1,hg2⟩:=h.form (by omega)
  cases hv
  have hcp:=hg2
  have HO:=hid h;have HP:=hid hp;have HL:=hid hl
  clear h hp hl
  go_enter Tryz.func51,Tryz.ntmps51
  go_wp2
  go_loopw [3] (fun c W=>∃ i:Nat,1≤i∧i≤n∧c=.int .i64 (i:Int)∧Hid (Below w.heap.size w W)) (fun c _=>n - (Lib.intOf c).toNat)
  case atStart=>exact ⟨1,by omega,by omega,rfl,hid (Below.refl _ _)⟩
  case round=>
   obtain ⟨i,hi1,hi,rfl,BB⟩:=hrel
   by_cases hin:i<n
   ·obtain ⟨k,rfl⟩:∃ k,i=k+1:=⟨i - 1,by omega⟩
    have c0:=keep_old BB.out ((HO.out.cellAt k (by omega)).trans (zI_get (by rw [HL.out];omega)))
    have c1:=keep_old BB.out ((HO.out.cellAt (k+1) (by omega)).trans (zI_get (by rw [HL.out];omega)))
    have hlt:=lt_step HP.out (k:=k) (by rw [HL.out];omega)
    have hne:¬((l.getD (k+1) 0:Nat):Int)=((l.getD k 0:Nat):Int):=by omega
    have hin':((k+1:Nat):Int)<(n:Int):=by omega
    have hk1:((k+1:Nat):Int) - 1=(k:Int):=by omega
    generalize l.getD k 0=x at *
    generalize l.getD (k+1) 0=y at *
    clear hlt
    go_wp2
    go_region
    go_wp2
    exact ⟨⟨k+1+1,by omega,by omega,by go_num,hid BB.out.drew⟩,by simp [Lib.intOf];omega⟩
   ·obtain rfl:i=n:=by omega
    go_wp2
    go_ret
    exact ⟨rfl,BB.out⟩
theorem zI_len(l:List Nat):(zI l).length=l.length:=by simp [zI]
theorem rise_lt(h:l.Nodup):(riseN l).Pairwise (· < ·):=by
 have h1:=riseN_sorted l
 have h2:(riseN l).Nodup:=(riseN_perm l).nodup_iff.2 h
 exact (h1.and h2).imp (fun h=>Nat.lt_of_le_of_ne h.1 h.2)
section
variable {arm:Prop} {room croom K:Nat} {p q:Nat} {R:Nat→Prop} {t:RS} {w:World}
theorem steady_yes(hb:Nat)(tr:List (Nat×List Nat))(ws:List Nat)(a0:Option Addr)(c0:Nat)(a1:Option Addr)(n1 c1:Nat)(l1:List Nat)(h:HeapS arm room croom K w hb p q R t tr ws)(h0:Cch.Src w a0 (flat tr).length c0 (zI (flat tr)))(h1:Cch.Src w a1 n1 c1 (zI l1))(r0:∀ a,a0=some a→R a.block)(r1:∀ a,a1=some a→R a.block)(hnd:(flat tr++l1).Nodup)(hn0:(flat tr).length≤10000)(hn1:n1≤10000)(hn4:t.now.length≤4000)(hK:K+5000≤500000) :
  Calls Tryz.prog 23 #[.pointer (some ⟨hb,0,none⟩),.slice a0 (flat tr).length c0,.slice a1 n1 c1] w fun e w'=>e=.returned (.bool true)∧PrgAt arm room croom (K+1) w' p q R t∧Rok R w w':=by
 have CC:=hid (count_yes h hn4 hK)
 have hl1:l1.length=n1:=by have:=h1.len;rw [zI_len]at this;exact this
 have HL1:=hid hl1;have H0:=hid h0;have H1:=hid h1;have R0:=hid r0;have R1:=hid r1;have HND:=hid hnd
 clear h h0 h1 r0 r1 hnd hl1
 obtain ⟨l0,hl0⟩:∃ l0,l0=flat tr:=⟨_,rfl⟩
 rw [←hl0]at hn0 HND H0 CC ⊢
 clear hl0
 obtain ⟨n0,hn0e⟩:∃ n0,n0=l0.length:=⟨_,rfl⟩
 rw [←hn0e]at hn0 H0 CC ⊢
 have HN0:=hid hn0e
 clear hn0e
 go_enter Tryz.func23,Tryz.ntmps23
 go_upto_region 2 with (go_at_call 48;refine CC.out.mono ?_;rintro e w1 ⟨rfl,hp,hk⟩;have P1:=hid hp;have K1:=hid hk;have S0:=hid (src_rok H0.out hk R0.out);have S1:=hid (src_rok H1.out hk R1.out);clear hp hk)
 obtain ⟨W2,hW2⟩:∃ W2,W2=w1.alloc (.cells #[.slice a0 n0 c0,.slice a1 n1 c1] 28):=⟨_,rfl⟩
 have B2:=hid (show Below w1.heap.size w1 W2 by rw [hW2];exact Below.alloc (Below.refl _ _) (Nat.le_refl _) _)
 have T2:=hid (show Two W2 w1.heap.size a0 n0 c0 a1 n1 c1 by rw [hW2];constructor<;>(rw [World.cell?_alloc_new];rfl))
 have C2:=hid (concat_any w1.heap.size a0 n0 c0 a1 n1 c1 l0 l1 W2 T2.out (src_keep S0.out B2.out) (src_keep S1.out B2.out) hn0 hn1)
 have HW2:=hid hW2
 clear hW2
 have hlen:(l0++l1).length=n0+n1:=by rw [List.length_append,←HN0.out,HL1.out]
 have HLEN:=hid hlen
 clear hlen
 go_wp2_with (first
  | (go_at_call 49;rw [←HW2.out];refine C2.out.mono ?_;rintro e w3 ⟨ao,c,rfl,ho,hb3⟩;have O3:=hid ho;have B3:=hid (gt B2.out hb3);clear ho hb3)
  | (go_at_call 50;have CS:=sort8_any W2.heap.size c ao (l0++l1) w3 (by rw [HLEN.out];exact O3.out) (by rw [HLEN.out];omega);rw [HLEN.out]at CS;refine CS.mono ?_;rintro e w4 ⟨rfl,ho4,hf4⟩;have O4:=hid ho4;have F4:=hid hf4;clear ho4 hf4 CS)
  | (go_at_call 51;refine (compact_any W2.heap.size (n0+n1) c ao (riseN (l0++l1)) w4 O4.out (by omega) (rise_lt HND.out)).mono ?_;rintro e w5 ⟨rfl,hb5⟩;have B5:=hid hb5;clear hb5))
 go_ret
 have hb2:=B2.out.size
 refine ⟨rfl,?_,?_⟩
 ·have P3:=P1.out.more (R':=Own2 R (.slice ao (n0+n1) c)) B3.out (fun b hb=>by
   rcases hb with h1 |h1
   ·exact Or.inl h1
   ·have:=rr_blk O3.out h1;exact Or.inr ⟨by omega,this.2⟩)
  exact ((P3.mine (fr_imp F4.out (fun b hb=>Or.inr hb))).keep B5.out).less (fun b hb=>Or.inl hb)
 ·refine ((K1.out.below B3.out).mine F4.out (fun b hb=>?_)).below B5.out
  have:=rr_blk O3.out hb;have:=K1.out.size;omega
end
end Spl
end Go.Proofs.YtneemfbnjkcflaaGreatDoor
