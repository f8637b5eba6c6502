/- A value is written; no statement of the seat is proved here. -/
import Derived.Test.YtneemfbnjkcflaaGreatDoorW42
set_option maxHeartbeats 16000000
set_option maxRecDepth 20000
namespace Go.Proofs.YtneemfbnjkcflaaGreatDoor
namespace Spl
open Go.RowKit Go.Maps
open Dsk (gt hid undrew keep_old keep_cell lt_cell)
open Jrn (Rd bs bs_length bs_one bs_get bs_get' bs_append rd_own Row5 putN numAt rootN Pv2)
open Cch (Fr hd_cell hd_frozen blk_set wpAnyK wpAnyK_done wp_region_K)
section
variable {arm:Prop} {room croom K:Nat} {p q:Nat} {R:Nat→Prop} {t:RS} {w:World}
theorem src_own{W:World}{B n cp:Nat}{ao:Option Addr}{l:List Nat}(h:W.ownsRow B 3 1 (.slice ao n cp) n (zI l)):Cch.Src W ao n cp (zI l):=
 Cch.src_row (rr_base h (Nat.zero_le _)) (fun u hu=>by obtain ⟨z,_,rfl⟩:=List.mem_map.1 hu;rfl)
variable {ws:List Nat}
theorem lay_root{t:RS}(h:Lay t.now [] ws):t.now.getD 0 []=rootN 0 0 ws:=h.root
theorem Write_yes(hb c bb bo m:Nat)(xs ws:List Nat)(h:HeapS arm room croom K w hb p q R t [] ws)(rb:R bb)(hrd:Rd w (some ⟨bb,bo,none⟩) m m xs)(hxs:∀ x∈xs,x<256)(hm1:1≤m)(hm2:m≤20000)(hc:c=(m - 1)/508+1)(hn4:t.now.length+c≤4000)(hK:K+20000≤500000) :
  Calls Tryz.prog 7 #[.pointer (some ⟨hb,0,none⟩),.slice (some ⟨bb,bo,none⟩) m m] w fun e w'=>e=.returned (.tuple #[.int .i64 ((t.now.length+1:Nat):Int),.int .i64 0])∧PrgAt arm room croom (K+3+3*c) w' p q R (layT (growN t c) t.now.length c xs c)∧Rok R w w':=by
 have hc40:c≤40:=by omega
 have hc1:1≤c:=by omega
 obtain ⟨WA,hWA⟩:∃ WA,WA=(w.alloc (.cells #[.pointer (some ⟨hb,0,none⟩)] 25)).alloc (.cells #[.slice (some ⟨bb,bo,none⟩) m m] 34):=⟨_,rfl⟩
 have BA:Below w.heap.size w WA:=by rw [hWA];exact gt (Below.alloc (Below.refl _ _) (Nat.le_refl _) _) (Below.alloc (Below.refl _ _) (Nat.le_refl _) _)
 have sA:WA.heap.size=w.heap.size+2:=by rw [hWA];simp
 have a0:WA.heap[w.heap.size]? = some (.cells #[.pointer (some ⟨hb,0,none⟩)] 25 (0,0)):=by rw [hWA];exact al_step (al_last w _ rfl)
 have a1:WA.heap[w.heap.size+1]? = some (.cells #[.slice (some ⟨bb,bo,none⟩) m m] 34 (0,0)):=by rw [hWA];exact al_last _ _ (by simp)
 have PA:=h.prg.more (R':=Plus (Plus R w.heap.size) (w.heap.size+1)) BA (fun b hb=>by
  rcases hb with (h1 |h1) |h1
  ·exact Or.inl h1
  ·exact Or.inr (by omega)
  ·exact Or.inr (by omega))
 have hHA:=h.heap.keep BA
 have SA:=HeapS.moved h PA hHA (Or.inl (Or.inl h.mem))
 have CA:=hid (asked_yes hHA (m:Int))
 rw [show askN (m:Int)=0 from if_neg (by omega)]at CA
 have CL:=hid (listed_yes SA (by omega) (by omega) (by simp [flat]))
 rw [show flat ([]:List (Nat×List Nat)) = [] from rfl]at CL
 simp only [List.length_nil,Nat.mul_zero,Nat.add_zero]at CL
 have CC:=hid (fun W=>count_any (m:Int) ⟨by omega,by omega⟩ W)
 rw [countN m hm1,←hc]at CC
 have HS:=hid h;have HSA:=hid SA;have HBA:=hid BA;have HsA:=hid sA;have HA0:=hid a0;have HA1:=hid a1;have HRD:=hid hrd;have HXS:=hid hxs;have HRB:=hid rb;have HCE:=hid hc
 have HWA:=hid hWA
 have y0:=(boxed_cell a0).1;have y1:=(boxed_cell a1).1
 have HPg:=hid (RS.pages_busy h.busy)
 clear h BA sA a0 a1 PA hHA SA hrd hxs hWA rb hc
 go_enter Tryz.func7,Tryz.ntmps7
 go_upto_region 1 with fail
 rw [←HWA.out]
 clear HWA
 go_upto_region 5 with (first
  | (go_at_call 20;refine CA.out.mono ?_;rintro e w0 ⟨rfl,hw⟩;obtain rfl:=hw.symm)
  | (go_at_call 21;refine CL.out.mono ?_;rintro e w1 ⟨ao,cp,rfl,ho,hP,hk⟩;have O1:=hid ho;have P1:=hid hP;have K1:=hid hk;clear ho hP hk))
 obtain ⟨R1,hR1⟩:∃ R1,R1=Plus (Plus R w.heap.size) (w.heap.size+1):=⟨_,rfl⟩
 rw [←hR1]at P1 K1
 have r0:R1 w.heap.size:=by rw [hR1];exact Or.inl (Or.inr rfl)
 have r1:R1 (w.heap.size+1):=by rw [hR1];exact Or.inr rfl
 have rR:∀ b,R b→R1 b:=fun b hb=>by rw [hR1];exact Or.inl (Or.inl hb)
 have b0:=(K1.out.at_ r0 (by rw [HsA.out];omega)).trans HA0.out
 have b1:=(K1.out.at_ r1 (by rw [HsA.out];omega)).trans HA1.out
 have HR1:=hid (show R1 w.heap.size∧R1 (w.heap.size+1)∧∀ b,R b→R1 b from ⟨r0,r1,rR⟩)
 have H1:=hid (HSA.out.heap.rok K1.out (rR hb HS.out.mem))
 have HB0:=hid b0;have HB1:=hid b1
 have z0:=(boxed_cell b0).1;have z1:=(boxed_cell b1).1
 have HS1:=hid (show w.heap.size+2≤w1.heap.size by rw [←HsA.out];exact K1.out.size)
 clear y0 y1 b0 b1 r0 r1 rR hR1
 obtain ⟨W2,hW2⟩:∃ W2,W2=w1.alloc (.cells #[.int .i64 (c:Int)] 3):=⟨_,rfl⟩
 go_upto_region 8 with (go_at_call 10;refine (CC.out _).mono ?_;rintro e w0 ⟨rfl,hw⟩;obtain rfl:=hw.symm)
 rw [←hW2]
 have B2:Below w1.heap.size w1 W2:=by rw [hW2];exact Below.alloc (Below.refl _ _) (Nat.le_refl _) _
 have P2:=hid (P1.out.new B2 (g:=w1.heap.size) (Nat.le_refl _) (by rw [hW2];simp))
 have H2:=hid (H1.out.keep B2)
 have X2:=hid (show W2.heap[w1.heap.size]? = some (.cells #[.int .i64 (c:Int)] 3 (0,0)) by rw [hW2];exact heap_alloc_new _ _)
 have HB2:=hid B2
 clear hW2 z0 z1
 have CPg:=hid (fun W (hW:Below W2.heap.size W2 W)=>prg_pages (P2.out.keep hW))
 rw [HPg.out]at CPg
 have kx:¬(4000:Int) - (t.now.length:Int)<(c:Int):=by omega
 have HD2:=hid (show Below W2.heap.size W2 W2.drew from (Below.refl _ _).drew)
 have S2:Hid (W2.drew.cell? ⟨w1.heap.size,0,none⟩=some (.int .i64 (c:Int))∧W2.drew.cell? ⟨w.heap.size,0,none⟩=some (.pointer (some ⟨hb,0,none⟩))):=hid ⟨keep_old HD2.out (boxed_cell X2.out).1,keep_old HD2.out (keep_old HB2.out (boxed_cell HB0.out).1)⟩
 obtain ⟨NL,hNL⟩:∃ NL:Int,NL=(t.now.length:Int):=⟨_,rfl⟩
 rw [←hNL]at kx CPg
 have hNb:0≤NL∧NL≤4000:=by omega
 have HNL:=hid hNL
 clear hNL
 refine wp_region_K (S:=fun W=>W.cell? ⟨w1.heap.size,0,none⟩=some (.int .i64 (c:Int))∧W.cell? ⟨w.heap.size,0,none⟩=some (.pointer (some ⟨hb,0,none⟩))) (fun _=>false) (by kernel_rfl) S2.out (fun hHeld=>?_)
 refine gkt 0 ?_ (h:=by intro W hSw;obtain ⟨x0,x1⟩:=hSw;go_simp;first |done |with_reducible rfl)
 refine gkp 1 ?_
 refine gkp 2 ?_
 refine gkp 3 ?_
 refine gkt 4 ?_ (h:=by intro W hSw;obtain ⟨x0,x1⟩:=hSw;go_simp;first |done |with_reducible rfl)
 refine gk1 5 (fun K hK=>?_)
 go_simp
 go_at_call 14;refine (Pager_yes (H2.out.keep HD2.out)).mono ?_;rintro e wx ⟨rfl,hwx⟩;obtain rfl:=hwx.symm
 refine hK.out _ _ hHeld (fun hHeld=>?_)
 clear hK K
 (try simp only [Act.put,sA,sZ,sS])
 refine gk1 6 (fun K hK=>?_)
 go_simp
 go_at_call 15;refine (CPg.out _ HD2.out).mono ?_;rintro e w3 ⟨rfl,hb3⟩;have B3:=hid (gt HD2.out hb3);have hR:=(show w3.cell? ⟨w1.heap.size,0,none⟩=some (.int .i64 (c:Int))∧w3.cell? ⟨w.heap.size,0,none⟩=some (.pointer (some ⟨hb,0,none⟩)) from ⟨keep_old hb3 hHeld.1,keep_old hb3 hHeld.2⟩);clear hb3
 refine hK.out _ _ hR (fun hHeld=>?_)
 clear hK K hR
 (try simp only [Act.put,sA,sZ,sS])
 refine gkp 7 ?_
 refine gkp 8 ?_
 refine wpAnyK_done (by kernel_rfl) ?_ _
 clear hHeld
 rw [show IntKind.i64.wrap 4000=4000 from IntWalk.i64_in _ ⟨by omega,by omega⟩,show IntKind.i64.wrap (4000 - NL)=4000 - NL from IntWalk.i64_in _ ⟨by omega,by omega⟩,decide_eq_false kx]
 obtain ⟨W4,hW4⟩:∃ W4,W4=w3.alloc (.cells #[.int .i64 0] 3):=⟨_,rfl⟩
 go_upto_region 11 with fail
 rw [←hW4]
 have B4:Below w3.heap.size w3 W4:=by rw [hW4];exact Below.alloc (Below.refl _ _) (Nat.le_refl _) _
 have X4:W4.heap[w3.heap.size]? = some (.cells #[.int .i64 0] 3 (0,0)):=by rw [hW4];exact heap_alloc_new _ _
 have hS4:w3.heap.size<W4.heap.size:=by rw [hW4];simp
 clear hW4
 have hS2:w1.heap.size<W2.heap.size:=(Array.getElem?_eq_some_iff.1 X2.out).1
 have hS3:=B3.out.size
 have B24:Below W2.heap.size W2 W4.drew:=gt (gt B3.out B4) ((Below.refl _ _).drew)
 have B14:Below w1.heap.size w1 W4.drew:=gt HB2.out B24
 obtain ⟨R4,hR4⟩:∃ R4,R4=Plus (Plus (Own2 R1 (.slice ao 0 cp)) w1.heap.size) w3.heap.size:=⟨_,rfl⟩
 have P4:=hid (show PrgAt arm room croom (K+2) W4.drew p q R4 t by
  rw [hR4]
  exact (P2.out.keep B3.out).new (gt B4 ((Below.refl _ _).drew)) (g:=w3.heap.size) (Nat.le_refl _) hS4)
 have H4:=hid (H1.out.keep B14)
 have E0:=hid ((B14.block _ (Array.getElem?_eq_some_iff.1 HB0.out).1).trans HB0.out)
 have E1:=hid ((B14.block _ (Array.getElem?_eq_some_iff.1 HB1.out).1).trans HB1.out)
 have E2:=hid ((B24.block _ hS2).trans X2.out)
 have E3:=hid ((((Below.refl W4.heap.size W4).drew).block _ hS4).trans X4)
 have O4:=hid (own_fr (E:=fun _=>False) O1.out (Fr.of_below B14) (fun _ _ h=>h))
 have rr:R4 w.heap.size∧R4 (w.heap.size+1)∧R4 w1.heap.size∧R4 w3.heap.size∧(∀ b,R b→R4 b)∧(∀ b,(Value.slice ao 0 cp).ownBlock=some b→R4 b):=by
  rw [hR4]
  exact ⟨Or.inl (Or.inl (Or.inl HR1.out.1)),Or.inl (Or.inl (Or.inl HR1.out.2.1)),Or.inl (Or.inr rfl),Or.inr rfl,fun b hb=>Or.inl (Or.inl (Or.inl (HR1.out.2.2 b hb))),fun b hb=>Or.inl (Or.inl (Or.inr hb))⟩
 have RR:=hid rr
 have S4:=hid (HeapS.moved HS.out P4.out H4.out (rr.2.2.2.2.1 hb HS.out.mem))
 have K4:=hid (show Rok R w W4.drew from ((Rok.of_below HBA.out).then K1.out HR1.out.2.2).below B14)
 have hlw:w.heap.size+2≤w1.heap.size:=HS1.out
 clear rr hR4 B24 B14 X4 B4
 have C5:=hid (steady_yes (R:=R4) hb [] ws ao cp none 0 0 [] S4.out (src_own O4.out) ⟨rfl,fun _=>⟨rfl,rfl⟩,fun a ha=>(by cases ha),fun u hu=>(by cases hu)⟩ (fun a ha=>RR.out.2.2.2.2.2 _ (by rw [ha];rfl)) (fun a ha=>(by cases ha)) (by simp [flat]) (by simp [flat]) (by omega) (by omega) (by omega))
 rw [show (flat ([]:List (Nat×List Nat))).length=0 from rfl]at C5
 refine wp_region_K (S:=fun W=>W.cell? ⟨w.heap.size,0,none⟩=some (.pointer (some ⟨hb,0,none⟩))) (fun _=>false) (by kernel_rfl) (boxed_cell E0.out).1 (fun hHeld=>?_)
 refine gkt 0 ?_ (h:=by intro W hSw;go_simp;first |done |with_reducible rfl)
 refine gkt 1 ?_ (h:=by intro W hSw;go_simp;first |done |with_reducible rfl)
 refine gkp 2 ?_
 refine gkp 4 ?_
 refine gk1 3 (fun K hK=>?_)
 go_simp
 go_at_call 23;refine C5.out.mono ?_;rintro e w5 ⟨rfl,hp5,hk5⟩;have P5:=hid hp5;have K5:=hid hk5;have hR:=(boxed_cell ((hk5.at_ RR.out.1 (Array.getElem?_eq_some_iff.1 E0.out).1).trans E0.out)).1;clear hp5 hk5
 refine hK.out _ _ hR (fun hHeld=>?_)
 clear hK K hR
 (try simp only [Act.put,sA,sZ,sS])
 have X5:WBx w5 w.heap.size w1.heap.size w3.heap.size (w.heap.size+1) hb c bb bo m (.int .i64 0):=WBx.rok ⟨E0.out,E2.out,E3.out,E1.out⟩ K5.out RR.out.1 RR.out.2.2.1 RR.out.2.2.2.1 RR.out.2.1
 have hbw:bb<w.heap.size:=HS.out.prg.lt HRB.out
 have hhw:hb<w.heap.size:=HS.out.prg.lt HS.out.mem
 have hsz4:=K4.out.size
 have D5:Rd w5 (some ⟨bb,bo,none⟩) m m xs:=rd_blk (rd_blk HRD.out (W:=W4.drew) (K4.out.at_ HRB.out hbw)) (K5.out.at_ (RR.out.2.2.2.2.1 bb HRB.out) (by omega))
 have hc:=HCE.out
 have C6:=hid (write1_yes (R:=R4) w.heap.size w1.heap.size w3.heap.size (w.heap.size+1) hb c bb bo m (.int .i64 0) xs ws P5.out (H4.out.rok K5.out (RR.out.2.2.2.2.1 hb HS.out.mem)) (RR.out.2.2.2.2.1 hb HS.out.mem) X5 RR.out.1 RR.out.2.2.1 RR.out.2.2.2.1 RR.out.2.1 (RR.out.2.2.2.2.1 bb HRB.out) (by omega) (by omega) (by omega) (by omega) (lay_root HS.out.lay) HS.out.busy HS.out.lay.ln hn4 D5 HXS.out (by omega) (by omega) hc1 (by omega) (by omega))
 clear X5 D5 hc
 refine gk1 5 (fun K hK=>?_)
 go_simp
 go_at_call 22;refine whole24 _ _ _ _ _ (C6.out.mono ?_)
 rintro e w6 ⟨rfl,hp6,hf6,hk6⟩
 refine ⟨0,rfl,?_⟩
 have P6:=hid hp6;have X6:=hid hf6;have K6:=hid hk6
 have hR:w6.cell? ⟨w.heap.size,0,none⟩=some (.pointer (some ⟨hb,0,none⟩)):=(boxed_cell ((hk6.at_ (show R4 w.heap.size∧w.heap.size≠w3.heap.size from ⟨RR.out.1,by omega⟩) (Nat.lt_of_lt_of_le (Array.getElem?_eq_some_iff.1 E0.out).1 K5.out.size)).trans ((K5.out.at_ RR.out.1 (Array.getElem?_eq_some_iff.1 E0.out).1).trans E0.out))).1
 clear hp6 hf6 hk6
 refine hK.out _ _ hR (fun hHeld=>?_)
 clear hK K hR
 (try simp only [Act.put,sA,sZ,sS])
 refine gkp 6 ?_
 refine wpAnyK_done (by kernel_rfl) ?_ _
 clear hHeld
 have f6:=(boxed_cell X6.out).1
 go_wp2
 go_ret2
 refine ⟨rfl,?_,?_⟩
 ·exact (P6.out.less (fun b hb=>RR.out.2.2.2.2.1 b hb)).up (by omega)
 ·exact (K4.out.then K5.out (fun b hb=>RR.out.2.2.2.2.1 b hb)).then K6.out (fun b hb=>⟨RR.out.2.2.2.2.1 b hb,by have:=HS.out.prg.lt hb;omega⟩)
theorem layT_get(t:RS)(N c:Nat)(xs:List Nat)(i j:Nat)(hj:j<N∨N+i≤j):(layT t N c xs i).now.getD j []=t.now.getD j []:=by
 induction i with
 | zero=>rfl
 | succ i ih=>
  show ((layT t N c xs i).now.set (N+i) _).getD j []=_
  rw [set_other (by omega)]
  exact ih (by omega)
theorem layT_at(t:RS)(N c:Nat)(xs:List Nat)(i j:Nat)(hj:j<i)(hl:N+i≤t.now.length):(layT t N c xs i).now.getD (N+j) []=linkB (nxO N c j) (chunk xs j):=by
 induction i with
 | zero=>omega
 | succ i ih=>
  show ((layT t N c xs i).now.set (N+i) _).getD (N+j) []=_
  by_cases h:j=i
  ·subst h
   rw [set_same (by rw [layT_len];omega)]
  ·rw [set_other (by omega)]
   exact ih (by omega) (by omega)
theorem layT_sure(t:RS)(N c:Nat)(xs:List Nat)(i:Nat):(layT t N c xs i).sure=t.sure∧(layT t N c xs i).n=t.n:=by
 induction i with
 | zero=>exact ⟨rfl,rfl⟩
 | succ i ih=>exact ih
theorem Write_heap{w':World}{hb c K':Nat}{xs:List Nat}(h:HeapS arm room croom K w hb p q R t [] ws)(hP:PrgAt arm room croom K' w' p q R (layT (growN t c) t.now.length c xs c))(hk:Rok R w w'):HeapS arm room croom K' w' hb p q R (layT (growN t c) t.now.length c xs c) [] ws∧(layT (growN t c) t.now.length c xs c).now.length=t.now.length+c:=by
 have hl:(layT (growN t c) t.now.length c xs c).now.length=t.now.length+c:=by rw [layT_len,growN_len]
 refine ⟨⟨hP,h.heap.rok hk h.mem,h.mem,?_,by rw [layT_busy,growN_busy];exact h.busy,by rw [(layT_sure _ _ _ _ _).1,(layT_sure _ _ _ _ _).2,(growN_sure t c).1,(growN_sure t c).2];exact h.sur⟩,hl⟩
 have hL:=h.lay
 have hn:=hL.ln
 refine ⟨?_,?_,hL.nd,hL.wl,by rw [hl];omega⟩
 ·rw [layT_get _ _ _ _ _ _ (Or.inl hn),growN_root t c hn];exact hL.root
 ·exact hL.chain
end
end Spl
end Go.Proofs.YtneemfbnjkcflaaGreatDoor
