/- What is done to both heaps: Set and Word; no statement of the seat is proved here. -/
import Derived.Test.YtgjgkpnjchflaaaGreatDoorS43
set_option maxHeartbeats 16000000
set_option maxRecDepth 20000
namespace Go.Proofs.YtgjgkpnjchflaaaGreatDoor
section
open Go.RowKit Go.Maps
open Dsk (gt hid undrew keep_old keep_cell lt_cell Rd op_at)
open Cch (Fr wpAnyK wpAnyK_done wp_region_K wpAnyK_ready AllReadyK)
section
variable {K:Nat} {O:Nat→Prop} {w W W':World} {hb p q hm:Nat} {ao:Option Addr} {n c N N2:Nat} {l ws:List Nat} {tr tr2:List (Nat×List Nat)} {wd:List Int}
theorem FA.refs{N2':Nat}{tr2':List (Nat×List Nat)}{wd':List Int}(h:FA K O w hb p q hm ao n c l tr N ws tr2 N2 wd W)(hc:∀ S,RefH W S hm tr2 N2 wd→RefH W' S hm tr2' N2' wd'∧Fr S W W'):FA K O w hb p q hm ao n c l tr N ws tr2' N2' wd' W':=by
 obtain ⟨R,S,t,h1,h2,h3,h4,h5,h6,h7,h8⟩:=h.is
 obtain ⟨k1,k2⟩:=hc S h3
 exact ⟨⟨NewR R W W',S,t,⟨h1.prg.work (fr_imp k2 h4),h1.heap.fr k2 h7,Or.inl h1.mem,h1.lay,h1.busy,h1.sur⟩,h2,k1,fun b hb=>Or.inl (h4 b hb),fun b hb=>Or.inl (h5 b hb),h6,h7,fun a ha=>⟨Or.inl (h8 a ha).1,(h8 a ha).2⟩⟩,src_frm h.row k2 (fun a ha=>(h8 a ha).2),h.cap,h.k.trans k2 (fun j hj hS=>⟨h6 j hS,h1.prg.ne0 (h4 j hS)⟩)⟩
theorem FA.hm_cells(h:FA K O w hb p q hm ao n c l tr N ws tr2 N2 wd W):W.cell? ⟨hm,1,none⟩=some (.int .i64 (N2:Int))∧(∀ i,i<60→W.cell? ⟨hm,2+i,none⟩=some (.int .i64 (wd.getD i 0)))∧(∀ i,W.frozen? ⟨hm,i,none⟩=false)∧wd.length=60:=by
 obtain ⟨S,hs⟩:=h.refc
 obtain ⟨_,_,_,c1⟩:=hs.cells
 exact ⟨c1,fun i hi=>hs.wordAt hi,hs.froz,hs.wl⟩
variable {i:Nat}
theorem FA.keeps{g N2:Nat}{tr2:List (Nat×List Nat)}{v:Value}(h:FA K (Plus O g) w hb p q hm ao n c l tr N ws tr2 N2 wd W)(hv:w.cell? ⟨g,i,none⟩=some v):W.cell? ⟨g,i,none⟩=some v:=fr_cell h.k hv (fun e=>e.1 (Or.inr rfl))
def S2c(b:Nat)(I x:Int)(X:World):Prop:=X.cell? ⟨b,1,none⟩=some (.int .i64 I)∧X.cell? ⟨b,2,none⟩=some (.int .i64 x)
theorem act_set_no(I x:Int)(h:FA K O w hb p q hm ao n c l tr N (wsOf wd) tr N wd W)(hP:Parted l tr N)(hI:I<0∨60≤I)(_hN:N≤1000)(hK:K+20000≤490000)(hwd:∀ z∈wd,-9223372036854775808≤z∧z≤9223372036854775807) :
  Calls Tryz.prog 9 #[.pointer (some ⟨hb,0,none⟩),.pointer (some ⟨hm,0,none⟩),.slice ao n c,.agg #[.int .i64 2,.int .i64 I,.int .i64 x]] W (AR (K+3+4*(flat tr).length+3) O w hb p q hm (N+(flat tr).length+1)):=by
 obtain ⟨W0,hW0⟩:∃ W0,W0=W.alloc (boxA 2 I x):=⟨_,rfl⟩
 have B0:=hid (show Below W.heap.size W W0 by rw [hW0];exact Below.alloc (Below.refl _ _) (Nat.le_refl _) _)
 have hcl:=boxA_cells (W:=W) (k:=2) (I:=I) (x:=x)
 rw [←hW0]at hcl
 have A0:=hid (h.enter (g:=W.heap.size) B0.out (Nat.le_refl _) (lt_cell hcl.1))
 have CP:=hid (A0.out.prg (f:=21) (args:=#[.pointer (some ⟨hb,0,none⟩),.int .i64 I,.int .i64 x]) (K':=K+1) (N':=N) (tr':=tr) (ws':=wsOf wd) (v:=.int .i64 11) (fun R t hs hl=>by have:=set_no (n:=x) hs hI (by omega);rw [hl]at this;exact this))
 have HP:=hid hP;have HW0:=hid hW0;have HK:=hid h.k;have HWD:=hid hwd
 have fin:∀ e w1,(e=Ending.returned (.int .i64 11)∧FA (K+1) (Plus O W.heap.size) W0 hb p q hm ao n c l tr N (wsOf wd) tr N wd w1)→AR (K+3+4*(flat tr).length+3) O w hb p q hm (N+(flat tr).length+1) (.returned (.tuple #[.slice ao n c,.bool true])) w1:=fun e w1 hA=>⟨ao,n,c,l,tr,N,wd,rfl,(hA.2.leave (HK.out.below B0.out)).up (by omega),HP.out,by omega,HWD.out⟩
 have FIN:=hid fin
 clear hP hW0 h hwd hcl fin
 unfold boxA at HW0
 by_cases h0:I<0
 ·clear hI
  go_enter Tryz.func9,Tryz.ntmps9
  go_wp2_with (go_at_call 21;rw [←HW0.out];refine CP.out.mono ?_;rintro e w1 hA1;have A1:=hid (FIN.out e w1 hA1);obtain ⟨rfl,_⟩:=hA1)
  go_ret2
  exact A1.out
 ·have h1:60≤I:=by rcases hI with h |h;exact absurd h h0;exact h
  clear hI
  go_enter Tryz.func9,Tryz.ntmps9
  go_wp2_with (go_at_call 21;rw [←HW0.out];refine CP.out.mono ?_;rintro e w1 hA1;have A1:=hid (FIN.out e w1 hA1);obtain ⟨rfl,_⟩:=hA1)
  go_ret2
  exact A1.out
theorem wsOf_set(wd:List Int)(i:Nat)(x:Int):wsOf (wd.set i x)=(wsOf wd).set i (IntKind.u64.wrap x).toNat:=by unfold wsOf;rw [List.map_set]
theorem act_set(i:Nat)(x:Int)(h:FA K O w hb p q hm ao n c l tr N (wsOf wd) tr N wd W)(hP:Parted l tr N)(hi:i<60)(hx : -9223372036854775808≤x∧x≤9223372036854775807)(_hN:N≤1000)(hK:K+20000≤490000)(hwd:∀ z∈wd,-9223372036854775808≤z∧z≤9223372036854775807) :
  Calls Tryz.prog 9 #[.pointer (some ⟨hb,0,none⟩),.pointer (some ⟨hm,0,none⟩),.slice ao n c,.agg #[.int .i64 2,.int .i64 (i:Int),.int .i64 x]] W (AR (K+3+4*(flat tr).length+3) O w hb p q hm (N+(flat tr).length+1)):=by
 obtain ⟨W0,hW0⟩:∃ W0,W0=W.alloc (boxA 2 (i:Int) x):=⟨_,rfl⟩
 have B0:=hid (show Below W.heap.size W W0 by rw [hW0];exact Below.alloc (Below.refl _ _) (Nat.le_refl _) _)
 have hcl:=boxA_cells (W:=W) (k:=2) (I:=(i:Int)) (x:=x)
 rw [←hW0]at hcl
 have A0:=hid (h.enter (g:=W.heap.size) B0.out (Nat.le_refl _) (lt_cell hcl.1))
 obtain ⟨_,hw,fz,hwl⟩:=A0.out.hm_cells
 have cw:=hw i hi
 have fw:=fz (2+i)
 have A1:=hid ((A0.out.refs (fun S hs=>hs.word i x)).below (Below.refl _ _).drew)
 have CP:=hid (A1.out.prg (f:=21) (args:=#[.pointer (some ⟨hb,0,none⟩),.int .i64 (i:Int),.int .i64 x]) (K':=K+2) (N':=N) (tr':=tr) (ws':=wsOf (wd.set i x)) (v:=.int .i64 0) (fun R t hs hl=>by
  have:=set_yes (n:=x) (x:=(IntKind.u64.wrap x).toNat) hs hi (by rw [IntKind.wrap_u64];omega) (by omega)
  rw [hl,←wsOf_set]at this;exact this))
 have HP:=hid hP;have HW0:=hid hW0;have HK:=hid h.k;have HWD:=hid hwd;have HX:=hid hx
 have h0:¬(i:Int)<0:=by omega
 have h1:¬60≤(i:Int):=by omega
 have D0:=hid hcl
 obtain ⟨W1,hW1⟩:∃ W1,W1=(W0.setCell ⟨hm,2+i,none⟩ (.int .i64 x)).drew:=⟨_,rfl⟩
 rw [←hW1]at A1 CP
 have E1:=hid A1.out.k
 have D1:=hid (show S2c W.heap.size (i:Int) x W1 from ⟨A1.out.keeps D0.out.2.1,A1.out.keeps D0.out.2.2⟩)
 have HW1:=hid hW1
 have CW:=hid cw;have FW:=hid fw
 clear hP hW0 h hwd hcl hx hw fz hwl hW1 cw fw
 unfold boxA at HW0
 go_enter Tryz.func9,Tryz.ntmps9
 go_upto_region 14 with fail
 rw [←HW0.out]
 have hs0:S2c W.heap.size (i:Int) x W0.drew:=⟨D0.out.2.1,D0.out.2.2⟩
 refine wp_region_K (S:=S2c W.heap.size (i:Int) x) (fun i=>i == 8) (by kernel_rfl) hs0 (fun hHeld=>?_)
 refine gkp 0 ?_
 refine gkp 1 ?_
 refine gkt 2 ?_ (h:=by intro W hSw;obtain ⟨k0,k1⟩:=hSw;go_simp;first |done |with_reducible rfl)
 refine gkp 3 ?_
 refine gkt 4 ?_ (h:=by intro W hSw;obtain ⟨k0,k1⟩:=hSw;go_simp;first |done |with_reducible rfl)
 refine gkp 5 ?_
 refine gkp 6 ?_
 have hi6:(i:Int)<60:=by omega
 refine gkp 7 ?_
 have cw:=CW.out;have fw:=FW.out
 refine gkl 8 (fun K hK=>?_)
 go_simp
 rw [←HW1.out]
 refine hK.out _ _ ?_
 clear hK K
 (try simp only [Act.put,sA,sZ,sS])
 refine wpAnyK_done (by kernel_rfl) ?_ _
 clear hHeld hs0 cw fw
 obtain ⟨k1,k2⟩:=D1.out
 go_wp2_with (go_at_call 21;refine CP.out.mono ?_;rintro e w2 ⟨rfl,hA2⟩;have A2:=hid hA2;clear hA2)
 go_ret2
 refine ⟨ao,n,c,l,tr,N,wd.set i x,rfl,(A2.out.leave (HK.out.below B0.out)).up (by omega),HP.out,by omega,fun z hz=>?_⟩
 rcases List.mem_or_eq_of_mem_set hz with h |rfl
 ·exact HWD.out z h
 ·exact HX.out
theorem act_word_no(I x:Int)(h:FA K O w hb p q hm ao n c l tr N (wsOf wd) tr N wd W)(hP:Parted l tr N)(hI:I<0∨60≤I)(_hN:N≤1000)(hK:K+20000≤490000)(hwd:∀ z∈wd,-9223372036854775808≤z∧z≤9223372036854775807) :
  Calls Tryz.prog 9 #[.pointer (some ⟨hb,0,none⟩),.pointer (some ⟨hm,0,none⟩),.slice ao n c,.agg #[.int .i64 4,.int .i64 I,.int .i64 x]] W (AR (K+3+4*(flat tr).length+3) O w hb p q hm (N+(flat tr).length+1)):=by
 obtain ⟨W0,hW0⟩:∃ W0,W0=W.alloc (boxA 4 I x):=⟨_,rfl⟩
 have B0:=hid (show Below W.heap.size W W0 by rw [hW0];exact Below.alloc (Below.refl _ _) (Nat.le_refl _) _)
 have hcl:=boxA_cells (W:=W) (k:=4) (I:=I) (x:=x)
 rw [←hW0]at hcl
 have A0:=hid (h.enter (g:=W.heap.size) B0.out (Nat.le_refl _) (lt_cell hcl.1))
 have CP:=hid (A0.out.prg (f:=24) (args:=#[.pointer (some ⟨hb,0,none⟩),.int .i64 I]) (K':=K+1) (N':=N) (tr':=tr) (ws':=wsOf wd) (v:=.tuple #[.int .i64 0,.int .i64 11]) (fun R t hs hl=>by have:=word_no hs hI (by omega);rw [hl]at this;exact this))
 have HP:=hid hP;have HW0:=hid hW0;have HK:=hid h.k;have HWD:=hid hwd
 have fin:∀ w1,FA (K+1) (Plus O W.heap.size) W0 hb p q hm ao n c l tr N (wsOf wd) tr N wd w1→AR (K+3+4*(flat tr).length+3) O w hb p q hm (N+(flat tr).length+1) (.returned (.tuple #[.slice ao n c,.bool true])) w1:=fun w1 hA=>⟨ao,n,c,l,tr,N,wd,rfl,(hA.leave (HK.out.below B0.out)).up (by omega),HP.out,by omega,HWD.out⟩
 have FIN:=hid fin;have D0:=hid hcl
 clear hP hW0 h hwd hcl fin
 unfold boxA at HW0
 by_cases h0:I<0
 ·clear hI
  go_enter Tryz.func9,Tryz.ntmps9
  go_wp2_with (go_at_call 24;rw [←HW0.out];refine CP.out.mono ?_;rintro e w1 ⟨rfl,hA1⟩;have A1:=hid (FIN.out w1 hA1);have k1:=hA1.keeps D0.out.2.1;clear hA1)
  go_ret2
  exact A1.out
 ·have h1:60≤I:=by rcases hI with h |h;exact absurd h h0;exact h
  clear hI
  go_enter Tryz.func9,Tryz.ntmps9
  go_wp2_with (go_at_call 24;rw [←HW0.out];refine CP.out.mono ?_;rintro e w1 ⟨rfl,hA1⟩;have A1:=hid (FIN.out w1 hA1);have k1:=hA1.keeps D0.out.2.1;clear hA1)
  go_ret2
  exact A1.out
theorem word_back{wd:List Int}(hi:i<wd.length)(hwd:∀ z∈wd,-9223372036854775808≤z∧z≤9223372036854775807):wrap64 (((wsOf wd).getD i 0:Nat):Int)=wd.getD i 0∧(wsOf wd).getD i 0<18446744073709551616:=by
 have h1:=hwd wd[i] (List.getElem_mem hi)
 have e1:(wsOf wd).getD i 0=(IntKind.u64.wrap wd[i]).toNat:=by unfold wsOf;rw [List.getD,List.getElem?_map,List.getElem?_eq_getElem hi];rfl
 have e2:wd.getD i 0=wd[i]:=by rw [List.getD,List.getElem?_eq_getElem hi];rfl
 rw [e1,e2,IntKind.wrap_u64]
 unfold wrap64
 omega
def S2w(b:Nat)(I:Int)(hm i:Nat)(x:Int)(X:World):Prop:=X.cell? ⟨b,1,none⟩=some (.int .i64 I)∧X.cell? ⟨hm,2+i,none⟩=some (.int .i64 x)
theorem act_word(i:Nat)(x:Int)(h:FA K O w hb p q hm ao n c l tr N (wsOf wd) tr N wd W)(hP:Parted l tr N)(hi:i<60)(_hN:N≤1000)(hK:K+20000≤490000)(hwd:∀ z∈wd,-9223372036854775808≤z∧z≤9223372036854775807) :
  Calls Tryz.prog 9 #[.pointer (some ⟨hb,0,none⟩),.pointer (some ⟨hm,0,none⟩),.slice ao n c,.agg #[.int .i64 4,.int .i64 (i:Int),.int .i64 x]] W (AR (K+3+4*(flat tr).length+3) O w hb p q hm (N+(flat tr).length+1)):=by
 obtain ⟨W0,hW0⟩:∃ W0,W0=W.alloc (boxA 4 (i:Int) x):=⟨_,rfl⟩
 have B0:=hid (show Below W.heap.size W W0 by rw [hW0];exact Below.alloc (Below.refl _ _) (Nat.le_refl _) _)
 have hcl:=boxA_cells (W:=W) (k:=4) (I:=(i:Int)) (x:=x)
 rw [←hW0]at hcl
 have A0:=hid (h.enter (g:=W.heap.size) B0.out (Nat.le_refl _) (lt_cell hcl.1))
 obtain ⟨wb1,wb2⟩:=word_back (wd:=wd) (i:=i) (by rw [A0.out.hm_cells.2.2.2];exact hi) hwd
 have CP:=hid (A0.out.prg (f:=24) (args:=#[.pointer (some ⟨hb,0,none⟩),.int .i64 (i:Int)]) (K':=K+1) (N':=N) (tr':=tr) (ws':=wsOf wd) (v:=.tuple #[.int .i64 (wd.getD i 0),.int .i64 0]) (fun R t hs hl=>by
  refine (word_yes hs hi wb2 (by omega)).mono ?_
  rintro e w' ⟨he,hp,hk⟩
  rw [wb1]at he
  have:=hs.same he hp hk
  rw [hl]at this;exact this))
 obtain ⟨z,hz⟩:∃ z,z=wd.getD i 0:=⟨_,rfl⟩
 rw [←hz]at CP
 have HP:=hid hP;have HW0:=hid hW0;have HK:=hid h.k;have HWD:=hid hwd;have HZ:=hid hz
 have h0:¬(i:Int)<0:=by omega
 have h1:¬60≤(i:Int):=by omega
 have hi6:(i:Int)<60:=by omega
 have D0:=hid hcl
 clear hP hW0 h hwd hcl wb1 wb2 hz
 unfold boxA at HW0
 go_enter Tryz.func9,Tryz.ntmps9
 go_upto_region 28 with (go_at_call 24;rw [←HW0.out];refine CP.out.mono ?_;rintro e w1 ⟨rfl,hA1⟩;have A1:=hid hA1;have k1:=hA1.keeps D0.out.2.1;have cw:=hA1.hm_cells.2.1 i hi;rw [←HZ.out]at cw;clear hA1)
 have hs0:S2w W.heap.size (i:Int) hm i z w1.drew:=⟨k1,cw⟩
 clear k1 cw
 refine wp_region_K (S:=S2w W.heap.size (i:Int) hm i z) (fun _=>false) (by kernel_rfl) hs0 (fun hHeld=>?_)
 refine gkp 0 ?_
 refine gkp 1 ?_
 refine gkp 2 ?_
 refine gkp 3 ?_
 refine gkt 4 ?_ (h:=by intro W hSw;obtain ⟨k0,k1⟩:=hSw;go_simp;first |done |with_reducible rfl)
 refine gkp 5 ?_
 refine gkp 6 ?_
 refine gkp 7 ?_
 refine gkt 8 ?_ (h:=by intro W hSw;obtain ⟨k0,k1⟩:=hSw;go_simp;first |done |with_reducible rfl)
 refine gkp 9 ?_ (v:=.bool true)
 refine gkp 10 ?_
 refine gkp 11 ?_
 refine gkp 12 ?_
 refine gkp 13 ?_
 refine gkp 14 ?_
 refine gkp 15 ?_
 refine wpAnyK_done (by kernel_rfl) ?_ _
 clear hHeld hs0
 go_wp2
 go_ret2
 exact ⟨ao,n,c,l,tr,N,wd,rfl,((A1.out.below (Below.refl _ _).drew).leave (HK.out.below B0.out)).up (by omega),HP.out,by omega,HWD.out⟩
end
end
end Go.Proofs.YtgjgkpnjchflaaaGreatDoor
