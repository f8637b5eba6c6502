/- The law SpillWrong, walked in a case; no statement of the seat is proved here. -/
import Derived.Test.YtneemfbnjkcflaaGreatDoorW45
set_option maxHeartbeats 16000000
set_option maxRecDepth 20000
namespace Go.Proofs.YtneemfbnjkcflaaGreatDoor
namespace Spl
open Go.RowKit Go.Maps
open Dsk (gt hid undrew keep_old keep_cell lt_cell newD)
open Jrn (Rd bs bs_length bs_one bs_get bs_get' bs_append rd_own Row5 putN putN_length numAt rootN Pv2)
open Cch (Fr)
theorem wrong_e(nn:Nat)(ask page:Int)(w:World)(hT:Jrn.Tab w)(h0:0<w.heap.size)(hnn:nn<65536)(ha1 : -9223372036854775808≤ask)(ha2:ask≤9223372036854775807)(hA2:¬ask<1)(hA3:¬20000<ask)(hcc:countI ask=countI ((1+nn % 3000:Nat):Int))(hak:ask<((1+nn % 3000:Nat):Int)) :
  Calls Tryz.prog 4 #[.int .u16 (nn:Int),.int .i64 ask,.int .i64 page] w fun e w'=>e=.returned (.bool true)∧Below w.heap.size w w':=by
 have CF:=hid (sfresh_any w hT h0)
 obtain ⟨k,hk⟩:∃ k:Nat,k=1+nn % 3000:=⟨_,rfl⟩
 have hkk:(1:Int)+(nn:Int) % 3000=(k:Int):=by omega
 have hk1:1≤k:=by omega
 have hk3:k≤3000:=by omega
 have HKK:=hid hkk
 obtain ⟨c,hc⟩:∃ c,c=(k - 1)/508+1:=⟨_,rfl⟩
 have HK:=hid hk;have HC:=hid hc
 have CB:=hid (fun W=>bytes_any k 1 (by omega) (by omega) W)
 rw [show ((1:Nat):Int)=1 from rfl]at CB
 obtain ⟨NN,hNN⟩:∃ NN,NN=Array.replicate 20001 (Value.int .u8 0):=⟨_,rfl⟩
 have mk:∀ W,(Instr.makeSlice 34 (.int .i64 20001) (.int .i64 20001)).run Tryz.prog W=.ok (.slice (some ⟨W.heap.size,0,none⟩) 20001 20001) (W.alloc (.cells NN 5)):=fun W=>by rw [hNN];exact Jrn.make_any 20001 20001 (Nat.le_refl _) (by omega) W
 have CCk:=hid (fun W=>count_any (k:Int) ⟨by omega,by omega⟩ W)
 have CCa:=hid (fun W=>count_any ask ⟨ha1,ha2⟩ W)
 clear hT h0 hk hc hNN ha1 ha2 hkk
 go_enter Tryz.func4,Tryz.ntmps4
 go_upto_region 5 with (go_at_call 6;refine CF.out.mono ?_;rintro e w1 ⟨p,hb,rfl,hhb,hS,hk⟩;have S1:=hid hS;have K1:=hid hk;have HB:=hid hhb;clear hS hk hhb)
 rw [HKK.out]
 obtain ⟨R,hR⟩:∃ R,R=Plus (Old w) hb:=⟨_,rfl⟩
 rw [←hR]at S1
 have HRO:=hid (show ∀ b,Old w b→R b from fun b h=>by rw [hR];exact Or.inl h)
 clear hR HKK CF
 obtain ⟨xs,hxs⟩:∃ xs,xs=byteL k 1:=⟨_,rfl⟩
 have HXS:=hid hxs
 have hxl:xs.length=k:=by rw [hxs,byteL_length]
 have hxb:∀ x∈xs,x<256:=by rw [hxs];exact byteL_bytes k 1
 have hcc:=HC.out
 have hc6:c≤6:=by omega
 have hc1:1≤c:=by omega
 have CW:=hid (fun W g (hB:Below w1.heap.size w1 W) (hr:RowB W g xs) (hg:w1.heap.size≤g)=>wr_any hb k c g 1 xs S1.out T1_all hB hr hg hxl hxb hk1 (by omega) HC.out T1_len.symm (by omega) (by omega))
 rw [show ((1+1:Nat):Int)=2 from rfl]at CW
 rw [←hxs]at CB
 have HXL:=hid hxl;have HXB:=hid hxb
 clear hxs hxl hxb hcc
 go_upto_region 6 with (first
  | (go_at_call 8;refine (CB.out _).mono ?_;rintro e w2 ⟨g,rfl,hr,hg,hB⟩;have CX:=hid (CW.out w2 g hB hr hg);clear hr hg hB)
  | (go_at_call 7;refine CX.out.mono ?_;rintro e w3 ⟨rfl,hWr⟩;have WR:=hid hWr;clear hWr))
 obtain ⟨t',h1,h2,h3,h4,_,h6⟩:=WR.out
 have S3:=hid h1;have HN3:=hid h2;have HCh:=hid h3;have HA:=hid h4;have K3:=hid (K1.out.then h6 HRO.out)
 clear h1 h2 h3 h4 h6 WR CW
 have CA:=hid (ask_any hb k c xs ask S3.out HCh.out HA.out hk1 HC.out (by omega))
 clear CB S1 K1
 go_upto_region 10 with (go_at_call 13;refine CA.out.mono ?_;rintro e w4 ⟨ao,l,cp,rfl,hl,hSt⟩;have HL:=hid hl;have S4:=hid hSt.1;have K4:=hid (K3.out.then hSt.2 HRO.out);clear hl hSt)
 have C6:=hid (fun W (h:HeapS False 32768 16 (3+3+3*c+40) W hb p w.heap.size R t' [] z60)=>ask600 hb page h HA.out (by omega))
 have CPa:=hid (fun W K (h:HeapS False 32768 16 K W hb p w.heap.size R t' [] z60)=>prg_pages h.prg)
 rw [RS.pages_busy S4.out.busy,HN3.out]at CPa
 rw [HN3.out]at C6
 obtain ⟨NL,hNL⟩:∃ NL:Int,NL=((1+c:Nat):Int):=⟨_,rfl⟩
 rw [←hNL]at CPa C6
 clear CA S3 K3
 have t1:Hid True:=hid trivial
 rw [←HK.out]at hcc hak
 have HLz:=HL.out
 rw [want_same (by omega) hcc]at HLz ⊢
 rw [←hcc]at CCk
 obtain ⟨cz,hcz⟩:∃ cz,cz=countI ask:=⟨_,rfl⟩
 rw [←hcz]at CCk CCa
 clear hcz hcc HL
 obtain ⟨a,rfl⟩:∃ a:Nat,ask=(a:Int):=⟨ask.toNat,by omega⟩
 rw [Int.toNat_natCast]at HLz ⊢
 have hak2:a<k:=by omega
 have CB:=hid (fun W=>bytes_any k 1 (by omega) (by omega) W)
 rw [show ((1:Nat):Int)=1 from rfl,←HXS.out]at CB
 have HLQ:=hid HLz
 have t2:Hid True:=hid trivial
 have t3:Hid True:=hid trivial
 have t4:Hid True:=hid trivial
 clear HLz
 obtain ⟨V,hV⟩:∃ V:Int,V=(if allNought (xs.drop a) then 0 else 9):=⟨_,rfl⟩
 rw [←hV]at HLQ ⊢
 have HV:=hid hV
 clear hV
 have ka1:¬(k:Int)<(a:Int):=by omega
 have ka2:(k:Int) - (a:Int)=((k - a:Nat):Int):=by omega
 have ka3:¬k=a:=by omega
 have ka4:¬k - a=0:=by omega
 have HLk:=hid HXL.out
 go_wp2_with (first |(go_at_call 8;refine (CB.out _).mono ?_;rintro e w5b ⟨g5,rfl,hr5,_,hB5⟩;have R5:=hid hr5;have B5:=hid hB5;clear hr5 hB5) |(first |(go_at_call 10;clear t2;refine (CCa.out _).mono ?_;rintro e wa ⟨rfl,hw⟩;obtain rfl:=hw.symm) |(go_at_call 10;clear t3;refine (CCk.out _).mono ?_;rintro e wa ⟨rfl,hw⟩;obtain rfl:=hw.symm) |(go_at_call 10;clear t4;refine (CCa.out _).mono ?_;rintro e wa ⟨rfl,hw⟩;obtain rfl:=hw.symm) |(go_at_call 10;refine (CCk.out _).mono ?_;rintro e wa ⟨rfl,hw⟩;obtain rfl:=hw.symm)))
 go_loopw [15,85] (fun bv cc W=>∃ (i:Nat),i≤k - a∧cc=.int .i64 (i:Int)∧bv=.bool (allNought ((xs.drop a).take i))∧Hid (w5b=W)) (fun _ cc _=>(k - a) - (Lib.intOf cc).toNat)
 case atStart=>exact ⟨0,by omega,rfl,rfl,hid rfl⟩
 case round=>
  obtain ⟨i,hi,rfl,rfl,HW⟩:=hrel
  obtain rfl:=HW.out
  by_cases hin:i<k - a
  ·have c0:w5b.cell? ⟨g5,a+i,none⟩=some (.int .u8 ((xs.getD (a+i) 0:Nat):Int)):=by rw [Cch.hd_cell R5.out,bs_get xs (a+i) (by rw [HLk.out];omega)]
   have hin':(i:Int)<((k - a:Nat):Int):=by omega
   have hst:allNought ((xs.drop a).take (i+1))=(allNought ((xs.drop a).take i)&&(xs.getD (a+i) 0 == 0)):=by
    rw [List.take_add_one,all_app]
    congr 1
    rw [List.getElem?_drop,List.getElem?_eq_getElem (show a+i<xs.length by rw [HLk.out];omega)]
    simp [allNought,List.getD,List.getElem?_eq_getElem (show a+i<xs.length by rw [HLk.out];omega)]
   have HST:=hid hst
   clear hst
   obtain ⟨z,hz⟩:∃ z,z=xs.getD (a+i) 0:=⟨_,rfl⟩
   rw [←hz]at c0
   rw [←hz]at HST
   obtain ⟨q1,hq1⟩:∃ q1,q1=allNought ((xs.drop a).take i):=⟨_,rfl⟩
   rw [←hq1]at HST ⊢
   clear hz hq1
   cases q1
   ·go_wp2
    exact ⟨⟨i+1,by omega,by go_num,by rw [HST.out];rfl,hid (by first |rfl |trivial)⟩,by simp [Lib.intOf];omega⟩
   ·by_cases hz0:z=0
    ·subst hz0
     go_wp2
     exact ⟨⟨i+1,by omega,by go_num,by rw [HST.out];rfl,hid (by first |rfl |trivial)⟩,by simp [Lib.intOf];omega⟩
    ·have hz1:¬(z:Int)=0:=by omega
     have hz2:(z == 0)=false:=by simpa using hz0
     have hz3:((z:Int) == 0)=false:=by simpa using hz1
     go_wp2
     exact ⟨⟨i+1,by omega,by go_num,by rw [HST.out,hz2];rfl,hid (by first |rfl |trivial)⟩,by simp [Lib.intOf];omega⟩
  ·obtain rfl:i=k - a:=by omega
   have hfull:(xs.drop a).take (k - a)=xs.drop a:=List.take_of_length_le (by rw [List.length_drop,HLk.out];omega)
   rw [hfull]
   have HLR:=HLQ.out
   rw [HV.out]at HLR ⊢
   have SX:=hid (HeapS.moved S4.out (S4.out.prg.keep B5.out) (S4.out.heap.keep B5.out) S4.out.mem);have KX:=hid (K4.out.below B5.out)
   clear hfull HLQ HV
   cases hal:allNought (xs.drop a)
   ·rw [hal]at HLR
    rw [show (if false=true then (0:Int) else 9)=9 from rfl]at HLR ⊢
    have hl0:¬0<(l:Int):=by simpa using HLR
    obtain rfl:l=0:=by omega
    clear hl0 HLR
    go_upto_region 27 with (first
     | (go_at_call 13;refine (C6.out _ SX.out).mono ?_;rintro e w5 ⟨ao5,l5,cp5,er,rfl,her,hSt⟩;have HER:=hid her;have S5:=hid hSt.1;have K5:=hid (KX.out.then hSt.2 HRO.out);clear her hSt))
    rcases (show page<2∨(¬page<2∧NL<page)∨(¬page<2∧¬NL<page) by omega) with hp | ⟨hp,hp2⟩ | ⟨hp,hp2⟩
    ·obtain rfl:=HER.out (Or.inl hp)
     go_wp2_with (first
      | (go_at_call 7;clear t1;refine (Write_arg hb 0 0 none S5.out.heap (by omega) (by omega)).mono ?_;rintro e w7 ⟨rfl,hB⟩;have B7:=hid hB;have H7:=hid (S5.out.heap.keep hB);clear hB)
      | (go_at_call 7;refine (Write_arg hb 20001 20001 _ (H7.out.keep (Below.alloc (Below.refl _ _) (Nat.le_refl _) (.cells NN 5))) (by omega) (by omega)).mono ?_;rintro e w8 ⟨rfl,hB⟩;have B8:=hid (gt (gt B7.out (Below.alloc (Below.refl _ _) (Nat.le_refl _) (.cells NN 5))) hB);clear hB)
      | (go_at_call 5;refine (slives_any _).mono ?_;rintro e w9 ⟨rfl,hw⟩;obtain rfl:=hw.symm))
     go_ret
     exact ⟨rfl,gt (old_below K5.out) B8.out⟩
    ·obtain rfl:=HER.out (Or.inr hp2)
     go_wp2_with (first
      | (go_at_call 14;refine (Pager_yes S5.out.heap).mono ?_;rintro e w6 ⟨rfl,hw⟩;obtain rfl:=hw.symm)
      | (go_at_call 15;refine (CPa.out _ _ S5.out).mono ?_;rintro e w6 ⟨rfl,hB⟩;have B6:=hid hB;have H6:=hid (S5.out.heap.keep hB);clear hB)
      | (go_at_call 7;clear t1;refine (Write_arg hb 0 0 none H6.out (by omega) (by omega)).mono ?_;rintro e w7 ⟨rfl,hB⟩;have B7:=hid (gt B6.out hB);have H7:=hid (H6.out.keep hB);clear hB)
      | (go_at_call 7;refine (Write_arg hb 20001 20001 _ (H7.out.keep (Below.alloc (Below.refl _ _) (Nat.le_refl _) (.cells NN 5))) (by omega) (by omega)).mono ?_;rintro e w8 ⟨rfl,hB⟩;have B8:=hid (gt (gt B7.out (Below.alloc (Below.refl _ _) (Nat.le_refl _) (.cells NN 5))) hB);clear hB)
      | (go_at_call 5;refine (slives_any _).mono ?_;rintro e w9 ⟨rfl,hw⟩;obtain rfl:=hw.symm))
     go_ret
     exact ⟨rfl,gt (old_below K5.out) B8.out⟩
    ·clear HER
     go_wp2_with (first
      | (go_at_call 14;refine (Pager_yes S5.out.heap).mono ?_;rintro e w6 ⟨rfl,hw⟩;obtain rfl:=hw.symm)
      | (go_at_call 15;refine (CPa.out _ _ S5.out).mono ?_;rintro e w6 ⟨rfl,hB⟩;have B6:=hid hB;have H6:=hid (S5.out.heap.keep hB);clear hB)
      | (go_at_call 7;clear t1;refine (Write_arg hb 0 0 none H6.out (by omega) (by omega)).mono ?_;rintro e w7 ⟨rfl,hB⟩;have B7:=hid (gt B6.out hB);have H7:=hid (H6.out.keep hB);clear hB)
      | (go_at_call 7;refine (Write_arg hb 20001 20001 _ (H7.out.keep (Below.alloc (Below.refl _ _) (Nat.le_refl _) (.cells NN 5))) (by omega) (by omega)).mono ?_;rintro e w8 ⟨rfl,hB⟩;have B8:=hid (gt (gt B7.out (Below.alloc (Below.refl _ _) (Nat.le_refl _) (.cells NN 5))) hB);clear hB)
      | (go_at_call 5;refine (slives_any _).mono ?_;rintro e w9 ⟨rfl,hw⟩;obtain rfl:=hw.symm))
     go_ret
     exact ⟨rfl,gt (old_below K5.out) B8.out⟩
   ·rw [hal]at HLR
    rw [show (if true=true then (0:Int) else 9)=0 from rfl]at HLR ⊢
    have hl0:0<(l:Int):=by simpa using HLR
    have hl1:0<l:=by omega
    have hl2:decide (0<(l:Int))=true:=by simpa using hl1
    have hl3:(!decide (0<l))=false:=by simpa using hl1
    clear HLR
    go_upto_region 27 with (first
     | (go_at_call 13;refine (C6.out _ SX.out).mono ?_;rintro e w5 ⟨ao5,l5,cp5,er,rfl,her,hSt⟩;have HER:=hid her;have S5:=hid hSt.1;have K5:=hid (KX.out.then hSt.2 HRO.out);clear her hSt))
    rcases (show page<2∨(¬page<2∧NL<page)∨(¬page<2∧¬NL<page) by omega) with hp | ⟨hp,hp2⟩ | ⟨hp,hp2⟩
    ·obtain rfl:=HER.out (Or.inl hp)
     go_wp2_with (first
      | (go_at_call 7;clear t1;refine (Write_arg hb 0 0 none S5.out.heap (by omega) (by omega)).mono ?_;rintro e w7 ⟨rfl,hB⟩;have B7:=hid hB;have H7:=hid (S5.out.heap.keep hB);clear hB)
      | (go_at_call 7;refine (Write_arg hb 20001 20001 _ (H7.out.keep (Below.alloc (Below.refl _ _) (Nat.le_refl _) (.cells NN 5))) (by omega) (by omega)).mono ?_;rintro e w8 ⟨rfl,hB⟩;have B8:=hid (gt (gt B7.out (Below.alloc (Below.refl _ _) (Nat.le_refl _) (.cells NN 5))) hB);clear hB)
      | (go_at_call 5;refine (slives_any _).mono ?_;rintro e w9 ⟨rfl,hw⟩;obtain rfl:=hw.symm))
     go_ret
     exact ⟨rfl,gt (old_below K5.out) B8.out⟩
    ·obtain rfl:=HER.out (Or.inr hp2)
     go_wp2_with (first
      | (go_at_call 14;refine (Pager_yes S5.out.heap).mono ?_;rintro e w6 ⟨rfl,hw⟩;obtain rfl:=hw.symm)
      | (go_at_call 15;refine (CPa.out _ _ S5.out).mono ?_;rintro e w6 ⟨rfl,hB⟩;have B6:=hid hB;have H6:=hid (S5.out.heap.keep hB);clear hB)
      | (go_at_call 7;clear t1;refine (Write_arg hb 0 0 none H6.out (by omega) (by omega)).mono ?_;rintro e w7 ⟨rfl,hB⟩;have B7:=hid (gt B6.out hB);have H7:=hid (H6.out.keep hB);clear hB)
      | (go_at_call 7;refine (Write_arg hb 20001 20001 _ (H7.out.keep (Below.alloc (Below.refl _ _) (Nat.le_refl _) (.cells NN 5))) (by omega) (by omega)).mono ?_;rintro e w8 ⟨rfl,hB⟩;have B8:=hid (gt (gt B7.out (Below.alloc (Below.refl _ _) (Nat.le_refl _) (.cells NN 5))) hB);clear hB)
      | (go_at_call 5;refine (slives_any _).mono ?_;rintro e w9 ⟨rfl,hw⟩;obtain rfl:=hw.symm))
     go_ret
     exact ⟨rfl,gt (old_below K5.out) B8.out⟩
    ·clear HER
     go_wp2_with (first
      | (go_at_call 14;refine (Pager_yes S5.out.heap).mono ?_;rintro e w6 ⟨rfl,hw⟩;obtain rfl:=hw.symm)
      | (go_at_call 15;refine (CPa.out _ _ S5.out).mono ?_;rintro e w6 ⟨rfl,hB⟩;have B6:=hid hB;have H6:=hid (S5.out.heap.keep hB);clear hB)
      | (go_at_call 7;clear t1;refine (Write_arg hb 0 0 none H6.out (by omega) (by omega)).mono ?_;rintro e w7 ⟨rfl,hB⟩;have B7:=hid (gt B6.out hB);have H7:=hid (H6.out.keep hB);clear hB)
      | (go_at_call 7;refine (Write_arg hb 20001 20001 _ (H7.out.keep (Below.alloc (Below.refl _ _) (Nat.le_refl _) (.cells NN 5))) (by omega) (by omega)).mono ?_;rintro e w8 ⟨rfl,hB⟩;have B8:=hid (gt (gt B7.out (Below.alloc (Below.refl _ _) (Nat.le_refl _) (.cells NN 5))) hB);clear hB)
      | (go_at_call 5;refine (slives_any _).mono ?_;rintro e w9 ⟨rfl,hw⟩;obtain rfl:=hw.symm))
     go_ret
     exact ⟨rfl,gt (old_below K5.out) B8.out⟩
end Spl
end Go.Proofs.YtneemfbnjkcflaaGreatDoor
