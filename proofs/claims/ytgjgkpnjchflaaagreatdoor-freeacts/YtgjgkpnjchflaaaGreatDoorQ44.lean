/- What any act does to both heaps; numbers that are compared; no statement of the seat is proved here. -/
import Derived.Test.YtgjgkpnjchflaaaGreatDoorQ43
set_option maxHeartbeats 16000000
set_option maxRecDepth 20000
namespace Go.Proofs.YtgjgkpnjchflaaaGreatDoor
section
open Go.RowKit Go.Maps
open Dsk (gt hid undrew keep_old keep_cell lt_cell Rd op_at)
open Cch (Fr wpAnyK wpAnyK_done wp_region_K wpAnyK_ready AllReadyK)
section
variable {K:Nat} {O:Nat→Prop} {w W W':World} {hb p q hm:Nat} {ao:Option Addr} {n c N N2:Nat} {l ws:List Nat} {tr tr2:List (Nat×List Nat)} {wd:List Int}
theorem act_any8(k I x:Int)(hx : -9223372036854775808≤x∧x≤9223372036854775807)(h:FA K O w hb p q hm ao n c l tr N (wsOf wd) tr N wd W)(hP:Parted l tr N)(hN:N≤1000)(hK:K+20000≤490000)(hwd:∀ z∈wd,-9223372036854775808≤z∧z≤9223372036854775807) :
  Calls Tryz.prog 9 #[.pointer (some ⟨hb,0,none⟩),.pointer (some ⟨hm,0,none⟩),.slice ao n c,.agg #[.int .i64 k,.int .i64 I,.int .i64 x]] W (AR (K+3+4*(flat tr).length+3) O w hb p q hm (N+(flat tr).length+1)):=by
 by_cases h0:k=0
 ·subst h0;exact act_take I x h hP hN hK hwd
 by_cases h1:k=1
 ·subst h1
  rcases Nat.eq_zero_or_pos n with hn |hn
  ·subst hn;exact act_give0 I x h hP hwd
  ·exact act_give I x h hP hn hN hK hwd
 by_cases h2:k=2
 ·subst h2
  by_cases hI:I<0∨60≤I
  ·exact act_set_no I x h hP hI hN hK hwd
  ·obtain ⟨i,rfl⟩:=Int.eq_ofNat_of_zero_le (show 0≤I by omega)
   exact act_set i x h hP (by omega) hx hN hK hwd
 by_cases h3:k=3
 ·subst h3;exact act_trim I x h hP hN hK hwd
 by_cases h4:k=4
 ·subst h4
  by_cases hI:I<0∨60≤I
  ·exact act_word_no I x h hP hI hN hK hwd
  ·obtain ⟨i,rfl⟩:=Int.eq_ofNat_of_zero_le (show 0≤I by omega)
   exact act_word i x h hP (by omega) hN hK hwd
 by_cases hI:I<2
 ·exact act_low k I x h hP hI h0 h1 h2 h3 h4 hN hK hwd
 by_cases hIN:I≤(N:Int)
 ·exact act_within k I x h hP (by omega) hIN h0 h1 h2 h3 h4 hN hK hwd
 ·exact act_high k I x h hP (by omega) (by omega) h0 h1 h2 h3 h4 hN hK hwd
structure RdN (W:World) (ao:Option Addr) (n c:Nat) (l:List Nat):Prop where
 row:Cch.Src W ao n c (zI l)
 zero:∀ a,ao=some a→a.off=0∧a.spot=none
 cap:n≤c
theorem RdN.of_own{B:Nat}(ho:W.ownsRow B 3 1 (.slice ao n c) n (zI l)):RdN W ao n c l:=by
 obtain ⟨ao2,cap,e,hno,hso⟩:=Cch.row_form (rr_base ho (Nat.zero_le _))
 simp only [Value.slice.injEq]at e
 obtain ⟨rfl,-,rfl⟩:=e
 refine ⟨Cch.src_row (rr_base ho (Nat.zero_le _)) (fun u hu=>by unfold zI at hu;obtain ⟨x,_,rfl⟩:=List.mem_map.1 hu;rfl),fun a ha=>?_,?_⟩
 ·obtain ⟨e1,_⟩:=hso a ha
  rw [e1];exact ⟨rfl,rfl⟩
 ·cases hao:ao with
  | none=>have:=hno hao;omega
  | some a=>exact (hso a hao).2.1
theorem RdN.below(h:RdN W ao n c l)(b:Below W.heap.size W W'):RdN W' ao n c l:=⟨src_below h.row b,h.zero,h.cap⟩
theorem RdN.cell(h:RdN W ao n c l){i:Nat}(hi:i<n):∃ g,ao=some ⟨g,0,none⟩∧W.cell? ⟨g,i,none⟩=some (.int .i64 ((l.getD i 0:Nat):Int)):=by
 have hl:l.length=n:=by have:=h.row.len;simpa [zI] using this
 cases hao:ao with
 | none=>have:=(h.row.no hao).1;omega
 | some a=>
  obtain ⟨ab,of,sp⟩:=a
  obtain ⟨q3,q4⟩:=h.zero _ hao
  simp only at q3 q4
  subst q3;subst q4
  refine ⟨ab,rfl,?_⟩
  have:=h.row.at_ _ hao i (.int .i64 ((l.getD i 0:Nat):Int)) (by unfold zI;rw [List.getElem?_map,List.getD,List.getElem?_eq_getElem (by omega)];rfl)
  rw [Addr.add_lit]at this
  simpa using this
def S13(g g2 i:Nat)(y:Int)(X:World):Prop:=X.cell? ⟨g,i,none⟩=some (.int .i64 y)∧X.cell? ⟨g2,i,none⟩=some (.int .i64 y)
theorem ints8{ao2:Option Addr}{c2:Nat}(h1:RdN W ao n c l)(h2:RdN W ao2 n c2 l)(hn:n≤100000):Calls Tryz.prog 13 #[.slice ao n c,.slice ao2 n c2] W fun e W'=>e=.returned (.bool true)∧Below W.heap.size W W':=by
 have H1:=hid h1;have H2:=hid h2
 clear h1 h2
 go_enter Tryz.func13,Tryz.ntmps13
 go_wp2
 go_loopw [13] (fun cc X=>∃ (i:Nat),i≤n∧cc=.int .i64 (i:Int)∧Hid (Below W.heap.size W X)) (fun cc _=>n - (Lib.intOf cc).toNat)
 case atStart=>exact ⟨0,by omega,rfl,hid (Below.refl _ _)⟩
 case round=>
  obtain ⟨i,hi,rfl,HB⟩:=hrel
  by_cases hin:i<n
  ·have hin':(i:Int)<(n:Int):=by omega
   obtain ⟨g,rfl,c1⟩:=(H1.out.below HB.out).cell hin
   obtain ⟨g2,rfl,c2'⟩:=(H2.out.below HB.out).cell hin
   generalize ((l.getD i 0:Nat):Int)=y at c1 c2'
   go_upto_region 6 with fail
   have hs0:S13 g g2 i y wr.drew:=⟨c1,c2'⟩
   clear c1 c2'
   refine wp_region_K (S:=S13 g g2 i y) (fun _=>false) (by kernel_rfl) hs0 (fun hHeld=>?_)
   refine gkp 0 ?_
   refine gkp 1 ?_
   refine gkp 2 ?_
   refine gkt 3 ?_ (h:=by intro W hSw;obtain ⟨k0,k1⟩:=hSw;go_simp;first |done |with_reducible rfl)
   refine gkp 4 ?_
   refine gkp 5 ?_
   refine gkp 6 ?_
   refine gkt 7 ?_ (h:=by intro W hSw;obtain ⟨k0,k1⟩:=hSw;go_simp;first |done |with_reducible rfl)
   refine gkp 8 ?_ (v:=.bool false)
   refine wpAnyK_done (by kernel_rfl) ?_ _
   clear hHeld hs0
   go_wp2
   go_roundw
   case measure=>simp [Lib.intOf];omega
   case rel=>exact ⟨i+1,by omega,by go_num,hid HB.out.drew⟩
  ·obtain rfl:i=n:=by omega
   have hin':¬(i:Int)<(i:Int):=by omega
   go_wp2
   go_ret
   exact ⟨rfl,HB.out⟩
end
end
end Go.Proofs.YtgjgkpnjchflaaaGreatDoor
