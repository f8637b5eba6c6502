/- What is done to both heaps: Trim, and Give of a page that may not be; no statement of the seat is proved here. -/
import Derived.Test.YtgjgkpnjchflaaaGreatDoorS44
set_option maxHeartbeats 16000000
set_option maxRecDepth 20000
namespace Go.Proofs.YtgjgkpnjchflaaaGreatDoor
section
open Go.RowKit Go.Maps
open Dsk (gt hid undrew keep_old keep_cell lt_cell Rd op_at)
open Cch (Fr wpAnyK wpAnyK_done wp_region_K wpAnyK_ready AllReadyK)
section
variable {K:Nat} {O:Nat→Prop} {w W W':World} {hb p q hm:Nat} {ao:Option Addr} {n c N N2:Nat} {l ws:List Nat} {tr tr2:List (Nat×List Nat)} {wd:List Int}
def S1b(b:Nat)(I:Int)(X:World):Prop:=X.cell? ⟨b,1,none⟩=some (.int .i64 I)
def trimE(I:Int)(N:Nat):Int:=if I<1∨(N:Int)<I then 11 else 0
def trimR(I:Int)(N:Nat)(tr:List (Nat×List Nat)):List (Nat×List Nat):=if I<1∨(N:Int)<I then tr else trimT I.toNat tr
def trimM(I:Int)(N:Nat):Nat:=if I<1∨(N:Int)<I then N else I.toNat
theorem FA.trimP(h:FA K O w hb p q hm ao n c l tr N ws tr2 N2 wd W)(I:Int)(hN:N≤1000)(hK:K+20000≤490000):Calls Tryz.prog 25 #[.pointer (some ⟨hb,0,none⟩),.int .i64 I] W fun e W'=>e=.returned (.int .i64 (trimE I N))∧FA (K+3+4*(flat tr).length) O w hb p q hm ao n c l (trimR I N tr) (trimM I N) ws tr2 N2 wd W':=by
 unfold trimE trimR trimM
 by_cases hI:I<1∨(N:Int)<I
 ·rw [if_pos hI,if_pos hI,if_pos hI]
  refine h.prg (fun R t hs hl=>?_)
  rcases hI with hI |hI
  ·have:=trim_low hs hI (by omega) hK
   rw [hl]at this
   exact this.mono fun e w' hh=>hh.up (by omega)
  ·have:=trim_high hs (by rw [hl];exact hI) (by omega) hK
   rw [hl]at this
   exact this.mono fun e w' hh=>hh.up (by omega)
 ·rw [if_neg hI,if_neg hI,if_neg hI]
  obtain ⟨k,rfl⟩:=Int.eq_ofNat_of_zero_le (show 0≤I by omega)
  rw [Int.toNat_natCast]
  exact h.prg (fun R t hs hl=>trim_yes hs (by omega) (by omega) (by omega) hK)
theorem FA.trimD(h:FA K O w hb p q hm ao n c l tr N ws tr2 N2 wd W)(I:Int)(hN:N2≤1000)(hF:(flat tr2).length≤1000)(hnd:(flat tr2).Nodup):Calls Tryz.prog 29 #[.pointer (some ⟨hm,0,none⟩),.int .i64 I] W fun e W'=>e=.returned (.int .i64 (trimE I N2))∧FA K O w hb p q hm ao n c l tr N ws (trimR I N2 tr2) (trimM I N2) wd W':=by
 unfold trimE trimR trimM
 by_cases hI:I<1∨(N2:Int)<I
 ·rw [if_pos hI,if_pos hI,if_pos hI]
  obtain ⟨S,hs⟩:=h.refc
  refine (mtrim_no hs hI).mono ?_
  rintro e W' ⟨he,hb⟩
  exact ⟨he,h.below hb⟩
 ·rw [if_neg hI,if_neg hI,if_neg hI]
  obtain ⟨k,rfl⟩:=Int.eq_ofNat_of_zero_le (show 0≤I by omega)
  rw [Int.toNat_natCast]
  exact h.ref (fun S hs=>mtrim_yes hs (by omega) (by omega) (by omega) (by omega) hnd)
theorem Parted.trimmed(hP:Parted l tr N)(hr:∀ y∈flat tr,2≤y∧y≤N){I:Int}(hl:∀ y∈l,((y:Nat):Int)≤I):Parted l (trimR I N tr) (trimM I N)∧trimM I N+(flat (trimR I N tr)).length≤N+(flat tr).length:=by
 unfold trimR trimM
 by_cases hI:I<1∨(N:Int)<I
 ·rw [if_pos hI,if_pos hI];exact ⟨hP,Nat.le_refl _⟩
 ·rw [if_neg hI,if_neg hI]
  obtain ⟨k,rfl⟩:=Int.eq_ofNat_of_zero_le (show 0≤I by omega)
  rw [Int.toNat_natCast]
  have h1:=hP.trim hr (k:=k) (by omega) (by omega) (fun y hy=>by have:=hl y hy;omega)
  refine ⟨h1,?_⟩
  have h2:=h1.cnt
  have h3:=hP.cnt
  omega
theorem act_trim(I x:Int)(h:FA K O w hb p q hm ao n c l tr N (wsOf wd) tr N wd W)(hP:Parted l tr N)(hN:N≤1000)(hK:K+20000≤490000)(hwd:∀ z∈wd,-9223372036854775808≤z∧z≤9223372036854775807) :
  Calls Tryz.prog 9 #[.pointer (some ⟨hb,0,none⟩),.pointer (some ⟨hm,0,none⟩),.slice ao n c,.agg #[.int .i64 3,.int .i64 I,.int .i64 x]] W (AR (K+3+4*(flat tr).length+3) O w hb p q hm (N+(flat tr).length+1)):=by
 obtain ⟨W0,hW0⟩:∃ W0,W0=W.alloc (boxA 3 I x):=⟨_,rfl⟩
 have B0:=hid (show Below W.heap.size W W0 by rw [hW0];exact Below.alloc (Below.refl _ _) (Nat.le_refl _) _)
 have hcl:=boxA_cells (W:=W) (k:=3) (I:=I) (x:=x)
 rw [←hW0]at hcl
 have A0:=hid (h.enter (g:=W.heap.size) B0.out (Nat.le_refl _) (lt_cell hcl.1))
 have hcnt:=hP.cnt
 have hln:=h.len
 have hn1:n≤1000:=by omega
 have hF1:(flat tr).length≤1000:=by omega
 have CT:=hid ((A0.out.below (Below.refl _ _).drew).trimP I hN hK)
 have HND:=hid h.nodup
 have HP:=hid hP;have HW0:=hid hW0;have HK:=hid h.k;have HR:=hid h.range;have HWD:=hid hwd;have HLN:=hid hln;have D0:=hid hcl.2.1
 clear hP hW0 h hwd hln hcl
 unfold boxA at HW0
 go_enter Tryz.func9,Tryz.ntmps9
 go_upto_region 18 with fail
 rw [←HW0.out]
 go_loopw [117] (fun cc X=>∃ (i:Nat),i≤n∧cc=.int .i64 (i:Int)∧Hid (X=W0)∧Hid (∀ j,j<i→((l.getD j 0:Nat):Int)≤I)) (fun cc _=>n - (Lib.intOf cc).toNat)
 case atStart=>exact ⟨0,by omega,rfl,hid rfl,hid (fun j hj=>absurd hj (by omega))⟩
 case round=>
  obtain ⟨i,hi,rfl,HX,HJ⟩:=hrel
  have hx:=HX.out
  subst hx
  clear HX
  by_cases hin:i<n
  ·have hin':(i:Int)<(n:Int):=by omega
   obtain ⟨g,rfl,hcell⟩:=A0.out.cell hin
   have cy:=hcell i hin
   obtain ⟨y,hy⟩:∃ y,y=l.getD i 0:=⟨_,rfl⟩
   rw [←hy]at cy
   have d0:=D0.out
   have HY:=hid hy
   clear hcell hy
   by_cases hyI:I<(y:Int)
   ·go_wp2
    go_ret2
    exact ⟨_,n,c,l,tr,N,wd,rfl,(A0.out.leave (HK.out.below B0.out)).up (by omega),HP.out,by omega,HWD.out⟩
   ·go_wp2
    go_roundw
    case measure=>simp [Lib.intOf];omega
    case rel=>
     refine ⟨i+1,by omega,by go_num,by first |exact hid rfl |exact hid trivial,hid (fun j hj=>?_)⟩
     rcases Nat.lt_succ_iff_lt_or_eq.1 hj with h |h
     ·exact HJ.out j h
     ·rw [h,←HY.out];omega
  ·obtain rfl:i=n:=by omega
   have hin':¬(i:Int)<(i:Int):=by omega
   have hall:∀ y∈l,((y:Nat):Int)≤I:=fun y hy=>by
    obtain ⟨j,hj,rfl⟩:=List.getElem_of_mem hy
    have:=HJ.out j (by rw [←HLN.out];exact hj)
    rw [List.getD,List.getElem?_eq_getElem hj]at this
    exact this
   have HALL:=hid hall
   clear hall HJ
   have d0:=D0.out
   go_upto_region 23 with fail
   have hs0:S1b W.heap.size I wr.drew:=d0
   clear d0
   refine wp_region_K (S:=S1b W.heap.size I) (fun _=>false) (by kernel_rfl) hs0 (fun hHeld=>?_)
   refine gkp 0 ?_
   refine gkp 1 ?_
   refine gkp 2 ?_
   refine gkt 3 ?_ (h:=by intro W hSw;have k0:=hSw;unfold S1b at k0;go_simp;first |done |with_reducible rfl)
   refine gkp 5 ?_
   refine gkp 6 ?_
   refine gkt 7 ?_ (h:=by intro W hSw;have k0:=hSw;unfold S1b at k0;go_simp;first |done |with_reducible rfl)
   refine gk1 4 (fun K hK=>?_)
   go_simp
   go_at_call 25;refine CT.out.mono ?_;rintro e w1 ⟨rfl,hA1⟩;have A1:=hid hA1;have hR:S1b W.heap.size I w1:=hA1.keeps D0.out;have CM:=hid (hA1.trimD I hN hF1 HND.out);clear hA1
   refine hK.out _ _ hR (fun hHeld=>?_)
   clear hK K
   (try simp only [Act.put,sA,sZ,sS])
   refine gk1 8 (fun K hK=>?_)
   go_simp
   go_at_call 29;refine CM.out.mono ?_;rintro e w2 ⟨rfl,hA2⟩;have A2:=hid hA2;have hR:S1b W.heap.size I w2:=hA2.keeps D0.out;clear hA2
   refine hK.out _ _ hR (fun hHeld=>?_)
   clear hK K
   (try simp only [Act.put,sA,sZ,sS])
   refine gkp 9 ?_ (v:=.bool true)
   refine gkp 10 ?_
   refine gkp 11 ?_
   refine wpAnyK_done (by kernel_rfl) ?_ _
   clear hHeld hR hs0 CT CM
   go_wp2
   go_ret2
   obtain ⟨q1,q2⟩:=HP.out.trimmed HR.out HALL.out
   exact ⟨_,i,c,l,trimR I N tr,trimM I N,wd,rfl,(A2.out.leave (HK.out.below B0.out)).up (by omega),q1,by omega,HWD.out⟩
def S1c(b:Nat)(I:Int)(hm N:Nat)(X:World):Prop:=X.cell? ⟨b,1,none⟩=some (.int .i64 I)∧X.cell? ⟨hm,1,none⟩=some (.int .i64 (N:Int))
theorem act_within(k I x:Int)(h:FA K O w hb p q hm ao n c l tr N (wsOf wd) tr N wd W)(hP:Parted l tr N)(hI:2≤I)(hIN:I≤(N:Int))(hk0:¬k=0)(hk1:¬k=1)(hk2:¬k=2)(hk3:¬k=3)(hk4:¬k=4)(_hN:N≤1000)(_hK:K+20000≤490000)(hwd:∀ z∈wd,-9223372036854775808≤z∧z≤9223372036854775807) :
  Calls Tryz.prog 9 #[.pointer (some ⟨hb,0,none⟩),.pointer (some ⟨hm,0,none⟩),.slice ao n c,.agg #[.int .i64 k,.int .i64 I,.int .i64 x]] W (AR (K+3+4*(flat tr).length+3) O w hb p q hm (N+(flat tr).length+1)):=by
 obtain ⟨W0,hW0⟩:∃ W0,W0=W.alloc (boxA k I x):=⟨_,rfl⟩
 have B0:=hid (show Below W.heap.size W W0 by rw [hW0];exact Below.alloc (Below.refl _ _) (Nat.le_refl _) _)
 have hcl:=boxA_cells (W:=W) (k:=k) (I:=I) (x:=x)
 rw [←hW0]at hcl
 have A0:=hid (h.enter (g:=W.heap.size) B0.out (Nat.le_refl _) (lt_cell hcl.1))
 have HP:=hid hP;have HW0:=hid hW0;have HK:=hid h.k;have HWD:=hid hwd;have D0:=hid hcl.2.1
 have C0:=hid A0.out.hm_cells.1
 clear hP hW0 h hwd hcl
 unfold boxA at HW0
 go_enter Tryz.func9,Tryz.ntmps9
 go_upto_region 29 with fail
 rw [←HW0.out]
 have hs0:S1c W.heap.size I hm N W0.drew:=⟨D0.out,C0.out⟩
 refine wp_region_K (S:=S1c W.heap.size I hm N) (fun _=>false) (by kernel_rfl) hs0 (fun hHeld=>?_)
 refine gkp 0 ?_
 refine gkp 1 ?_
 refine gkt 2 ?_ (h:=by intro W hSw;obtain ⟨k0,k1⟩:=hSw;go_simp;first |done |with_reducible rfl)
 refine gkp 3 ?_ (v:=.bool true) (h:=by intro W _;go_simp;first |done |omega |with_reducible rfl)
 refine gkp 4 ?_
 refine gkp 5 ?_
 refine gkt 6 ?_ (h:=by intro W hSw;obtain ⟨k0,k1⟩:=hSw;go_simp;first |done |with_reducible rfl)
 refine gkp 7 ?_
 refine gkp 8 ?_
 refine gkp 9 ?_
 refine gkt 10 ?_ (h:=by intro W hSw;obtain ⟨k0,k1⟩:=hSw;go_simp;first |done |with_reducible rfl)
 refine gkp 11 ?_ (v:=.bool true) (h:=by intro W _;go_simp;first |done |omega |with_reducible rfl)
 refine gkp 12 ?_
 refine gkp 13 ?_
 refine gku 14 ?_
 refine gku 15 ?_
 refine gku 16 ?_
 refine gku 17 ?_
 refine gku 18 ?_
 refine gkp 19 ?_
 refine gkp 20 ?_
 refine gkp 21 ?_
 refine wpAnyK_done (by kernel_rfl) ?_ _
 clear hHeld hs0
 go_wp2
 go_ret2
 exact ⟨ao,n,c,l,tr,N,wd,rfl,((A0.out.below (Below.refl _ _).drew).leave (HK.out.below B0.out)).up (by omega),HP.out,by omega,HWD.out⟩
theorem act_low(k I x:Int)(h:FA K O w hb p q hm ao n c l tr N (wsOf wd) tr N wd W)(hP:Parted l tr N)(hI:I<2)(hk0:¬k=0)(hk1:¬k=1)(hk2:¬k=2)(hk3:¬k=3)(hk4:¬k=4)(hN:N≤1000)(hK:K+20000≤490000)(hwd:∀ z∈wd,-9223372036854775808≤z∧z≤9223372036854775807) :
  Calls Tryz.prog 9 #[.pointer (some ⟨hb,0,none⟩),.pointer (some ⟨hm,0,none⟩),.slice ao n c,.agg #[.int .i64 k,.int .i64 I,.int .i64 x]] W (AR (K+3+4*(flat tr).length+3) O w hb p q hm (N+(flat tr).length+1)):=by
 obtain ⟨W0,hW0⟩:∃ W0,W0=W.alloc (boxA k I x):=⟨_,rfl⟩
 have B0:=hid (show Below W.heap.size W W0 by rw [hW0];exact Below.alloc (Below.refl _ _) (Nat.le_refl _) _)
 have hcl:=boxA_cells (W:=W) (k:=k) (I:=I) (x:=x)
 rw [←hW0]at hcl
 have A0:=hid (h.enter (g:=W.heap.size) B0.out (Nat.le_refl _) (lt_cell hcl.1))
 have CP:=hid ((A0.out.below (Below.refl _ _).drew).prg (f:=16) (args:=#[.pointer (some ⟨hb,0,none⟩),.int .i64 I]) (K':=K+1+(flat tr).length) (N':=N) (tr':=tr) (ws':=wsOf wd) (v:=.int .i64 2) (fun R t hs hl=>by have:=give_no hs (z:=I) (by rw [hl];omega) (by omega) (by omega);rw [hl]at this;exact this))
 have HP:=hid hP;have HW0:=hid hW0;have HK:=hid h.k;have HWD:=hid hwd;have D0:=hid hcl.2.1
 have C0:=hid A0.out.hm_cells.1
 clear hP hW0 h hwd hcl
 unfold boxA at HW0
 go_enter Tryz.func9,Tryz.ntmps9
 go_upto_region 29 with fail
 rw [←HW0.out]
 have hs0:S1c W.heap.size I hm N W0.drew:=⟨D0.out,C0.out⟩
 refine wp_region_K (S:=S1c W.heap.size I hm N) (fun _=>false) (by kernel_rfl) hs0 (fun hHeld=>?_)
 refine gkp 0 ?_
 refine gkp 1 ?_
 refine gkt 2 ?_ (h:=by intro W hSw;obtain ⟨k0,k1⟩:=hSw;go_simp;first |done |with_reducible rfl)
 refine gkp 3 ?_ (v:=.bool false) (h:=by intro W _;go_simp;first |done |omega |with_reducible rfl)
 refine gkp 4 ?_
 refine gku 5 ?_
 refine gku 6 ?_
 refine gku 7 ?_
 refine gku 8 ?_
 refine gku 9 ?_
 refine gku 10 ?_
 refine gku 11 ?_
 refine gkp 12 ?_
 refine gkp 13 ?_
 refine gkp 14 ?_
 refine gkp 15 ?_
 refine gkt 16 ?_ (h:=by intro W hSw;obtain ⟨k0,k1⟩:=hSw;go_simp;first |done |with_reducible rfl)
 refine gk1 17 (fun K hK=>?_)
 go_simp
 go_at_call 16;refine CP.out.mono ?_;rintro e w1 ⟨rfl,hA1⟩;have A1:=hid hA1;have hR:S1c W.heap.size I hm N w1:=⟨hA1.keeps D0.out,hA1.hm_cells.1⟩;clear hA1
 refine hK.out _ _ hR (fun hHeld=>?_)
 clear hK K
 (try simp only [Act.put,sA,sZ,sS])
 refine gkp 18 ?_ (v:=.bool true) (h:=by intro W _;go_simp;first |done |omega |with_reducible rfl)
 refine gkp 19 ?_
 refine gkp 20 ?_
 refine gkp 21 ?_
 refine wpAnyK_done (by kernel_rfl) ?_ _
 clear hHeld hs0
 go_wp2
 go_ret2
 exact ⟨ao,n,c,l,tr,N,wd,rfl,(A1.out.leave (HK.out.below B0.out)).up (by omega),HP.out,by omega,HWD.out⟩
theorem act_high(k I x:Int)(h:FA K O w hb p q hm ao n c l tr N (wsOf wd) tr N wd W)(hP:Parted l tr N)(hI:2≤I)(hIN:(N:Int)<I)(hk0:¬k=0)(hk1:¬k=1)(hk2:¬k=2)(hk3:¬k=3)(hk4:¬k=4)(hN:N≤1000)(hK:K+20000≤490000)(hwd:∀ z∈wd,-9223372036854775808≤z∧z≤9223372036854775807) :
  Calls Tryz.prog 9 #[.pointer (some ⟨hb,0,none⟩),.pointer (some ⟨hm,0,none⟩),.slice ao n c,.agg #[.int .i64 k,.int .i64 I,.int .i64 x]] W (AR (K+3+4*(flat tr).length+3) O w hb p q hm (N+(flat tr).length+1)):=by
 obtain ⟨W0,hW0⟩:∃ W0,W0=W.alloc (boxA k I x):=⟨_,rfl⟩
 have B0:=hid (show Below W.heap.size W W0 by rw [hW0];exact Below.alloc (Below.refl _ _) (Nat.le_refl _) _)
 have hcl:=boxA_cells (W:=W) (k:=k) (I:=I) (x:=x)
 rw [←hW0]at hcl
 have A0:=hid (h.enter (g:=W.heap.size) B0.out (Nat.le_refl _) (lt_cell hcl.1))
 have CP:=hid ((A0.out.below (Below.refl _ _).drew).prg (f:=16) (args:=#[.pointer (some ⟨hb,0,none⟩),.int .i64 I]) (K':=K+1+(flat tr).length) (N':=N) (tr':=tr) (ws':=wsOf wd) (v:=.int .i64 2) (fun R t hs hl=>by have:=give_no hs (z:=I) (by rw [hl];omega) (by omega) (by omega);rw [hl]at this;exact this))
 have HP:=hid hP;have HW0:=hid hW0;have HK:=hid h.k;have HWD:=hid hwd;have D0:=hid hcl.2.1
 have C0:=hid A0.out.hm_cells.1
 clear hP hW0 h hwd hcl
 unfold boxA at HW0
 go_enter Tryz.func9,Tryz.ntmps9
 go_upto_region 29 with fail
 rw [←HW0.out]
 have hs0:S1c W.heap.size I hm N W0.drew:=⟨D0.out,C0.out⟩
 refine wp_region_K (S:=S1c W.heap.size I hm N) (fun _=>false) (by kernel_rfl) hs0 (fun hHeld=>?_)
 refine gkp 0 ?_
 refine gkp 1 ?_
 refine gkt 2 ?_ (h:=by intro W hSw;obtain ⟨k0,k1⟩:=hSw;go_simp;first |done |with_reducible rfl)
 refine gkp 3 ?_ (v:=.bool true) (h:=by intro W _;go_simp;first |done |omega |with_reducible rfl)
 refine gkp 4 ?_
 refine gkp 5 ?_
 refine gkt 6 ?_ (h:=by intro W hSw;obtain ⟨k0,k1⟩:=hSw;go_simp;first |done |with_reducible rfl)
 refine gkp 7 ?_
 refine gkp 8 ?_
 refine gkp 9 ?_
 refine gkt 10 ?_ (h:=by intro W hSw;obtain ⟨k0,k1⟩:=hSw;go_simp;first |done |with_reducible rfl)
 refine gkp 11 ?_ (v:=.bool false) (h:=by intro W _;go_simp;first |done |omega |with_reducible rfl)
 refine gkp 12 ?_
 refine gkp 13 ?_
 refine gkp 14 ?_
 refine gkp 15 ?_
 refine gkt 16 ?_ (h:=by intro W hSw;obtain ⟨k0,k1⟩:=hSw;go_simp;first |done |with_reducible rfl)
 refine gk1 17 (fun K hK=>?_)
 go_simp
 go_at_call 16;refine CP.out.mono ?_;rintro e w1 ⟨rfl,hA1⟩;have A1:=hid hA1;have hR:S1c W.heap.size I hm N w1:=⟨hA1.keeps D0.out,hA1.hm_cells.1⟩;clear hA1
 refine hK.out _ _ hR (fun hHeld=>?_)
 clear hK K
 (try simp only [Act.put,sA,sZ,sS])
 refine gkp 18 ?_ (v:=.bool true) (h:=by intro W _;go_simp;first |done |omega |with_reducible rfl)
 refine gkp 19 ?_
 refine gkp 20 ?_
 refine gkp 21 ?_
 refine wpAnyK_done (by kernel_rfl) ?_ _
 clear hHeld hs0
 go_wp2
 go_ret2
 exact ⟨ao,n,c,l,tr,N,wd,rfl,(A1.out.leave (HK.out.below B0.out)).up (by omega),HP.out,by omega,HWD.out⟩
end
end
end Go.Proofs.YtgjgkpnjchflaaaGreatDoor
