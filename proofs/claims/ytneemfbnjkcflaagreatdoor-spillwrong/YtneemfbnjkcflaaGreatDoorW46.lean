/- The law SpillWrong, walked in a case; no statement of the seat is proved here. -/
import Derived.Test.YtneemfbnjkcflaaGreatDoorW45
set_option maxHeartbeats 16000000
set_option maxRecDepth 20000
namespace Go.Proofs.YtneemfbnjkcflaaGreatDoor
namespace Spl
open Go.RowKit Go.Maps
open Dsk (gt hid undrew keep_old keep_cell lt_cell newD)
open Jrn (Rd bs bs_length bs_one bs_get bs_get' bs_append rd_own Row5 putN putN_length numAt rootN Pv2)
open Cch (Fr)
theorem wrong_a(nn:Nat)(ask page:Int)(w:World)(hT:Jrn.Tab w)(h0:0<w.heap.size)(hnn:nn<65536)(ha1 : -9223372036854775808≤ask)(ha2:ask≤9223372036854775807)(hA2:ask<1) :
  Calls Tryz.prog 4 #[.int .u16 (nn:Int),.int .i64 ask,.int .i64 page] w fun e w'=>e=.returned (.bool true)∧Below w.heap.size w w':=by
 have CF:=hid (sfresh_any w hT h0)
 obtain ⟨k,hk⟩:∃ k:Nat,k=1+nn % 3000:=⟨_,rfl⟩
 have hkk:(1:Int)+(nn:Int) % 3000=(k:Int):=by omega
 have hk1:1≤k:=by omega
 have hk3:k≤3000:=by omega
 have HKK:=hid hkk
 obtain ⟨c,hc⟩:∃ c,c=(k - 1)/508+1:=⟨_,rfl⟩
 have HK:=hid hk;have HC:=hid hc
 have CB:=hid (fun W=>bytes_any k 1 (by omega) (by omega) W)
 rw [show ((1:Nat):Int)=1 from rfl]at CB
 obtain ⟨NN,hNN⟩:∃ NN,NN=Array.replicate 20001 (Value.int .u8 0):=⟨_,rfl⟩
 have mk:∀ W,(Instr.makeSlice 34 (.int .i64 20001) (.int .i64 20001)).run Tryz.prog W=.ok (.slice (some ⟨W.heap.size,0,none⟩) 20001 20001) (W.alloc (.cells NN 5)):=fun W=>by rw [hNN];exact Jrn.make_any 20001 20001 (Nat.le_refl _) (by omega) W
 have CCk:=hid (fun W=>count_any (k:Int) ⟨by omega,by omega⟩ W)
 have CCa:=hid (fun W=>count_any ask ⟨ha1,ha2⟩ W)
 clear hT h0 hk hc hNN ha1 ha2 hkk
 go_enter Tryz.func4,Tryz.ntmps4
 go_upto_region 5 with (go_at_call 6;refine CF.out.mono ?_;rintro e w1 ⟨p,hb,rfl,hhb,hS,hk⟩;have S1:=hid hS;have K1:=hid hk;have HB:=hid hhb;clear hS hk hhb)
 rw [HKK.out]
 obtain ⟨R,hR⟩:∃ R,R=Plus (Old w) hb:=⟨_,rfl⟩
 rw [←hR]at S1
 have HRO:=hid (show ∀ b,Old w b→R b from fun b h=>by rw [hR];exact Or.inl h)
 clear hR HKK CF
 obtain ⟨xs,hxs⟩:∃ xs,xs=byteL k 1:=⟨_,rfl⟩
 have HXS:=hid hxs
 have hxl:xs.length=k:=by rw [hxs,byteL_length]
 have hxb:∀ x∈xs,x<256:=by rw [hxs];exact byteL_bytes k 1
 have hcc:=HC.out
 have hc6:c≤6:=by omega
 have hc1:1≤c:=by omega
 have CW:=hid (fun W g (hB:Below w1.heap.size w1 W) (hr:RowB W g xs) (hg:w1.heap.size≤g)=>wr_any hb k c g 1 xs S1.out T1_all hB hr hg hxl hxb hk1 (by omega) HC.out T1_len.symm (by omega) (by omega))
 rw [show ((1+1:Nat):Int)=2 from rfl]at CW
 rw [←hxs]at CB
 have HXL:=hid hxl;have HXB:=hid hxb
 clear hxs hxl hxb hcc
 go_upto_region 6 with (first
  | (go_at_call 8;refine (CB.out _).mono ?_;rintro e w2 ⟨g,rfl,hr,hg,hB⟩;have CX:=hid (CW.out w2 g hB hr hg);clear hr hg hB)
  | (go_at_call 7;refine CX.out.mono ?_;rintro e w3 ⟨rfl,hWr⟩;have WR:=hid hWr;clear hWr))
 obtain ⟨t',h1,h2,h3,h4,_,h6⟩:=WR.out
 have S3:=hid h1;have HN3:=hid h2;have HCh:=hid h3;have HA:=hid h4;have K3:=hid (K1.out.then h6 HRO.out)
 clear h1 h2 h3 h4 h6 WR CW
 have CA:=hid (ask_any hb k c xs ask S3.out HCh.out HA.out hk1 HC.out (by omega))
 clear CB S1 K1
 go_upto_region 10 with (go_at_call 13;refine CA.out.mono ?_;rintro e w4 ⟨ao,l,cp,rfl,hl,hSt⟩;have HL:=hid hl;have S4:=hid hSt.1;have K4:=hid (K3.out.then hSt.2 HRO.out);clear hl hSt)
 have C6:=hid (fun W (h:HeapS False 32768 16 (3+3+3*c+40) W hb p w.heap.size R t' [] z60)=>ask600 hb page h HA.out (by omega))
 have CPa:=hid (fun W K (h:HeapS False 32768 16 K W hb p w.heap.size R t' [] z60)=>prg_pages h.prg)
 rw [RS.pages_busy S4.out.busy,HN3.out]at CPa
 rw [HN3.out]at C6
 obtain ⟨NL,hNL⟩:∃ NL:Int,NL=((1+c:Nat):Int):=⟨_,rfl⟩
 rw [←hNL]at CPa C6
 clear CA S3 K3
 have t1:Hid True:=hid trivial
 have HLz:=HL.out
 rw [want_arg (Or.inl hA2)]at HLz ⊢
 have hl0:¬0<(l:Int):=by simpa using HLz
 have SX:=S4;have KX:=K4
 clear HLz HL
 go_upto_region 24 with fail
 go_upto_region 27 with (first
  | (go_at_call 13;refine (C6.out _ SX.out).mono ?_;rintro e w5 ⟨ao5,l5,cp5,er,rfl,her,hSt⟩;have HER:=hid her;have S5:=hid hSt.1;have K5:=hid (KX.out.then hSt.2 HRO.out);clear her hSt))
 rcases (show page<2∨(¬page<2∧NL<page)∨(¬page<2∧¬NL<page) by omega) with hp | ⟨hp,hp2⟩ | ⟨hp,hp2⟩
 ·obtain rfl:=HER.out (Or.inl hp)
  go_wp2_with (first
   | (go_at_call 7;clear t1;refine (Write_arg hb 0 0 none S5.out.heap (by omega) (by omega)).mono ?_;rintro e w7 ⟨rfl,hB⟩;have B7:=hid hB;have H7:=hid (S5.out.heap.keep hB);clear hB)
   | (go_at_call 7;refine (Write_arg hb 20001 20001 _ (H7.out.keep (Below.alloc (Below.refl _ _) (Nat.le_refl _) (.cells NN 5))) (by omega) (by omega)).mono ?_;rintro e w8 ⟨rfl,hB⟩;have B8:=hid (gt (gt B7.out (Below.alloc (Below.refl _ _) (Nat.le_refl _) (.cells NN 5))) hB);clear hB)
   | (go_at_call 5;refine (slives_any _).mono ?_;rintro e w9 ⟨rfl,hw⟩;obtain rfl:=hw.symm))
  go_ret
  exact ⟨rfl,gt (old_below K5.out) B8.out⟩
 ·obtain rfl:=HER.out (Or.inr hp2)
  go_wp2_with (first
   | (go_at_call 14;refine (Pager_yes S5.out.heap).mono ?_;rintro e w6 ⟨rfl,hw⟩;obtain rfl:=hw.symm)
   | (go_at_call 15;refine (CPa.out _ _ S5.out).mono ?_;rintro e w6 ⟨rfl,hB⟩;have B6:=hid hB;have H6:=hid (S5.out.heap.keep hB);clear hB)
   | (go_at_call 7;clear t1;refine (Write_arg hb 0 0 none H6.out (by omega) (by omega)).mono ?_;rintro e w7 ⟨rfl,hB⟩;have B7:=hid (gt B6.out hB);have H7:=hid (H6.out.keep hB);clear hB)
   | (go_at_call 7;refine (Write_arg hb 20001 20001 _ (H7.out.keep (Below.alloc (Below.refl _ _) (Nat.le_refl _) (.cells NN 5))) (by omega) (by omega)).mono ?_;rintro e w8 ⟨rfl,hB⟩;have B8:=hid (gt (gt B7.out (Below.alloc (Below.refl _ _) (Nat.le_refl _) (.cells NN 5))) hB);clear hB)
   | (go_at_call 5;refine (slives_any _).mono ?_;rintro e w9 ⟨rfl,hw⟩;obtain rfl:=hw.symm))
  go_ret
  exact ⟨rfl,gt (old_below K5.out) B8.out⟩
 ·clear HER
  go_wp2_with (first
   | (go_at_call 14;refine (Pager_yes S5.out.heap).mono ?_;rintro e w6 ⟨rfl,hw⟩;obtain rfl:=hw.symm)
   | (go_at_call 15;refine (CPa.out _ _ S5.out).mono ?_;rintro e w6 ⟨rfl,hB⟩;have B6:=hid hB;have H6:=hid (S5.out.heap.keep hB);clear hB)
   | (go_at_call 7;clear t1;refine (Write_arg hb 0 0 none H6.out (by omega) (by omega)).mono ?_;rintro e w7 ⟨rfl,hB⟩;have B7:=hid (gt B6.out hB);have H7:=hid (H6.out.keep hB);clear hB)
   | (go_at_call 7;refine (Write_arg hb 20001 20001 _ (H7.out.keep (Below.alloc (Below.refl _ _) (Nat.le_refl _) (.cells NN 5))) (by omega) (by omega)).mono ?_;rintro e w8 ⟨rfl,hB⟩;have B8:=hid (gt (gt B7.out (Below.alloc (Below.refl _ _) (Nat.le_refl _) (.cells NN 5))) hB);clear hB)
   | (go_at_call 5;refine (slives_any _).mono ?_;rintro e w9 ⟨rfl,hw⟩;obtain rfl:=hw.symm))
  go_ret
  exact ⟨rfl,gt (old_below K5.out) B8.out⟩
end Spl
namespace Spl
open Go.RowKit Go.Maps
open Dsk (gt hid undrew keep_old keep_cell lt_cell newD)
open Jrn (Rd bs bs_length bs_one bs_get bs_get' bs_append rd_own Row5 putN putN_length numAt rootN Pv2)
open Cch (Fr)
theorem wrong_b(nn:Nat)(ask page:Int)(w:World)(hT:Jrn.Tab w)(h0:0<w.heap.size)(hnn:nn<65536)(ha1 : -9223372036854775808≤ask)(ha2:ask≤9223372036854775807)(hA2:¬ask<1)(hA3:20000<ask) :
  Calls Tryz.prog 4 #[.int .u16 (nn:Int),.int .i64 ask,.int .i64 page] w fun e w'=>e=.returned (.bool true)∧Below w.heap.size w w':=by
 have CF:=hid (sfresh_any w hT h0)
 obtain ⟨k,hk⟩:∃ k:Nat,k=1+nn % 3000:=⟨_,rfl⟩
 have hkk:(1:Int)+(nn:Int) % 3000=(k:Int):=by omega
 have hk1:1≤k:=by omega
 have hk3:k≤3000:=by omega
 have HKK:=hid hkk
 obtain ⟨c,hc⟩:∃ c,c=(k - 1)/508+1:=⟨_,rfl⟩
 have HK:=hid hk;have HC:=hid hc
 have CB:=hid (fun W=>bytes_any k 1 (by omega) (by omega) W)
 rw [show ((1:Nat):Int)=1 from rfl]at CB
 obtain ⟨NN,hNN⟩:∃ NN,NN=Array.replicate 20001 (Value.int .u8 0):=⟨_,rfl⟩
 have mk:∀ W,(Instr.makeSlice 34 (.int .i64 20001) (.int .i64 20001)).run Tryz.prog W=.ok (.slice (some ⟨W.heap.size,0,none⟩) 20001 20001) (W.alloc (.cells NN 5)):=fun W=>by rw [hNN];exact Jrn.make_any 20001 20001 (Nat.le_refl _) (by omega) W
 have CCk:=hid (fun W=>count_any (k:Int) ⟨by omega,by omega⟩ W)
 have CCa:=hid (fun W=>count_any ask ⟨ha1,ha2⟩ W)
 clear hT h0 hk hc hNN ha1 ha2 hkk
 go_enter Tryz.func4,Tryz.ntmps4
 go_upto_region 5 with (go_at_call 6;refine CF.out.mono ?_;rintro e w1 ⟨p,hb,rfl,hhb,hS,hk⟩;have S1:=hid hS;have K1:=hid hk;have HB:=hid hhb;clear hS hk hhb)
 rw [HKK.out]
 obtain ⟨R,hR⟩:∃ R,R=Plus (Old w) hb:=⟨_,rfl⟩
 rw [←hR]at S1
 have HRO:=hid (show ∀ b,Old w b→R b from fun b h=>by rw [hR];exact Or.inl h)
 clear hR HKK CF
 obtain ⟨xs,hxs⟩:∃ xs,xs=byteL k 1:=⟨_,rfl⟩
 have HXS:=hid hxs
 have hxl:xs.length=k:=by rw [hxs,byteL_length]
 have hxb:∀ x∈xs,x<256:=by rw [hxs];exact byteL_bytes k 1
 have hcc:=HC.out
 have hc6:c≤6:=by omega
 have hc1:1≤c:=by omega
 have CW:=hid (fun W g (hB:Below w1.heap.size w1 W) (hr:RowB W g xs) (hg:w1.heap.size≤g)=>wr_any hb k c g 1 xs S1.out T1_all hB hr hg hxl hxb hk1 (by omega) HC.out T1_len.symm (by omega) (by omega))
 rw [show ((1+1:Nat):Int)=2 from rfl]at CW
 rw [←hxs]at CB
 have HXL:=hid hxl;have HXB:=hid hxb
 clear hxs hxl hxb hcc
 go_upto_region 6 with (first
  | (go_at_call 8;refine (CB.out _).mono ?_;rintro e w2 ⟨g,rfl,hr,hg,hB⟩;have CX:=hid (CW.out w2 g hB hr hg);clear hr hg hB)
  | (go_at_call 7;refine CX.out.mono ?_;rintro e w3 ⟨rfl,hWr⟩;have WR:=hid hWr;clear hWr))
 obtain ⟨t',h1,h2,h3,h4,_,h6⟩:=WR.out
 have S3:=hid h1;have HN3:=hid h2;have HCh:=hid h3;have HA:=hid h4;have K3:=hid (K1.out.then h6 HRO.out)
 clear h1 h2 h3 h4 h6 WR CW
 have CA:=hid (ask_any hb k c xs ask S3.out HCh.out HA.out hk1 HC.out (by omega))
 clear CB S1 K1
 go_upto_region 10 with (go_at_call 13;refine CA.out.mono ?_;rintro e w4 ⟨ao,l,cp,rfl,hl,hSt⟩;have HL:=hid hl;have S4:=hid hSt.1;have K4:=hid (K3.out.then hSt.2 HRO.out);clear hl hSt)
 have C6:=hid (fun W (h:HeapS False 32768 16 (3+3+3*c+40) W hb p w.heap.size R t' [] z60)=>ask600 hb page h HA.out (by omega))
 have CPa:=hid (fun W K (h:HeapS False 32768 16 K W hb p w.heap.size R t' [] z60)=>prg_pages h.prg)
 rw [RS.pages_busy S4.out.busy,HN3.out]at CPa
 rw [HN3.out]at C6
 obtain ⟨NL,hNL⟩:∃ NL:Int,NL=((1+c:Nat):Int):=⟨_,rfl⟩
 rw [←hNL]at CPa C6
 clear CA S3 K3
 have t1:Hid True:=hid trivial
 have HLz:=HL.out
 rw [want_arg (Or.inr hA3)]at HLz ⊢
 have hl0:¬0<(l:Int):=by simpa using HLz
 have SX:=S4;have KX:=K4
 clear HLz HL
 go_upto_region 24 with fail
 go_upto_region 27 with (first
  | (go_at_call 13;refine (C6.out _ SX.out).mono ?_;rintro e w5 ⟨ao5,l5,cp5,er,rfl,her,hSt⟩;have HER:=hid her;have S5:=hid hSt.1;have K5:=hid (KX.out.then hSt.2 HRO.out);clear her hSt))
 rcases (show page<2∨(¬page<2∧NL<page)∨(¬page<2∧¬NL<page) by omega) with hp | ⟨hp,hp2⟩ | ⟨hp,hp2⟩
 ·obtain rfl:=HER.out (Or.inl hp)
  go_wp2_with (first
   | (go_at_call 7;clear t1;refine (Write_arg hb 0 0 none S5.out.heap (by omega) (by omega)).mono ?_;rintro e w7 ⟨rfl,hB⟩;have B7:=hid hB;have H7:=hid (S5.out.heap.keep hB);clear hB)
   | (go_at_call 7;refine (Write_arg hb 20001 20001 _ (H7.out.keep (Below.alloc (Below.refl _ _) (Nat.le_refl _) (.cells NN 5))) (by omega) (by omega)).mono ?_;rintro e w8 ⟨rfl,hB⟩;have B8:=hid (gt (gt B7.out (Below.alloc (Below.refl _ _) (Nat.le_refl _) (.cells NN 5))) hB);clear hB)
   | (go_at_call 5;refine (slives_any _).mono ?_;rintro e w9 ⟨rfl,hw⟩;obtain rfl:=hw.symm))
  go_ret
  exact ⟨rfl,gt (old_below K5.out) B8.out⟩
 ·obtain rfl:=HER.out (Or.inr hp2)
  go_wp2_with (first
   | (go_at_call 14;refine (Pager_yes S5.out.heap).mono ?_;rintro e w6 ⟨rfl,hw⟩;obtain rfl:=hw.symm)
   | (go_at_call 15;refine (CPa.out _ _ S5.out).mono ?_;rintro e w6 ⟨rfl,hB⟩;have B6:=hid hB;have H6:=hid (S5.out.heap.keep hB);clear hB)
   | (go_at_call 7;clear t1;refine (Write_arg hb 0 0 none H6.out (by omega) (by omega)).mono ?_;rintro e w7 ⟨rfl,hB⟩;have B7:=hid (gt B6.out hB);have H7:=hid (H6.out.keep hB);clear hB)
   | (go_at_call 7;refine (Write_arg hb 20001 20001 _ (H7.out.keep (Below.alloc (Below.refl _ _) (Nat.le_refl _) (.cells NN 5))) (by omega) (by omega)).mono ?_;rintro e w8 ⟨rfl,hB⟩;have B8:=hid (gt (gt B7.out (Below.alloc (Below.refl _ _) (Nat.le_refl _) (.cells NN 5))) hB);clear hB)
   | (go_at_call 5;refine (slives_any _).mono ?_;rintro e w9 ⟨rfl,hw⟩;obtain rfl:=hw.symm))
  go_ret
  exact ⟨rfl,gt (old_below K5.out) B8.out⟩
 ·clear HER
  go_wp2_with (first
   | (go_at_call 14;refine (Pager_yes S5.out.heap).mono ?_;rintro e w6 ⟨rfl,hw⟩;obtain rfl:=hw.symm)
   | (go_at_call 15;refine (CPa.out _ _ S5.out).mono ?_;rintro e w6 ⟨rfl,hB⟩;have B6:=hid hB;have H6:=hid (S5.out.heap.keep hB);clear hB)
   | (go_at_call 7;clear t1;refine (Write_arg hb 0 0 none H6.out (by omega) (by omega)).mono ?_;rintro e w7 ⟨rfl,hB⟩;have B7:=hid (gt B6.out hB);have H7:=hid (H6.out.keep hB);clear hB)
   | (go_at_call 7;refine (Write_arg hb 20001 20001 _ (H7.out.keep (Below.alloc (Below.refl _ _) (Nat.le_refl _) (.cells NN 5))) (by omega) (by omega)).mono ?_;rintro e w8 ⟨rfl,hB⟩;have B8:=hid (gt (gt B7.out (Below.alloc (Below.refl _ _) (Nat.le_refl _) (.cells NN 5))) hB);clear hB)
   | (go_at_call 5;refine (slives_any _).mono ?_;rintro e w9 ⟨rfl,hw⟩;obtain rfl:=hw.symm))
  go_ret
  exact ⟨rfl,gt (old_below K5.out) B8.out⟩
end Spl
end Go.Proofs.YtneemfbnjkcflaaGreatDoor
