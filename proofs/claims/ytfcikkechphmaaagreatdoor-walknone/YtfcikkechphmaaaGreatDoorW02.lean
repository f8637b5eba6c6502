/- What shift, sized and both functions Size return; no statement of the seat is proved here. -/
import Derived.Test.YtfcikkechphmaaaGreatDoorW00
import Derived.Test.YtfcikkechphmaaaGreatDoorW01
import Derived.LoopN
import Derived.OneCell
set_option maxHeartbeats 16000000
set_option maxRecDepth 20000
namespace Go.Proofs.YtfcikkechphmaaaGreatDoor
namespace Cel
open Go.RowKit
def szN(n:Nat):Nat:=
 if n<128 then 1 else if n<16384 then 2 else if n<2097152 then 3 else if n<268435456 then 4 else if n<34359738368 then 5 else if n<4398046511104 then 6
 else if n<562949953421312 then 7 else if n<72057594037927936 then 8 else 9
theorem szN_cases(n:Nat):(n<128∧szN n=1)∨(128≤n∧n<16384∧szN n=2)∨(16384≤n∧n<2097152∧szN n=3)∨(2097152≤n∧n<268435456∧szN n=4)∨(268435456≤n∧n<34359738368∧szN n=5) ∨
  (34359738368≤n∧n<4398046511104∧szN n=6)∨(4398046511104≤n∧n<562949953421312∧szN n=7)∨(562949953421312≤n∧n<72057594037927936∧szN n=8)∨(72057594037927936≤n∧szN n=9):=by
 unfold szN
 (repeat' split)<;>omega
theorem szN_le(n:Nat):1≤szN n∧szN n≤9:=by have:=szN_cases n;omega
theorem szN_9(n:Nat):szN n=9↔72057594037927936≤n:=by have:=szN_cases n;omega
theorem szN_ge(n k:Nat)(h:szN n≤k)(hk:k≤8):n<2 ^ (7*k):=by
 have e:k=0∨k=1∨k=2∨k=3∨k=4∨k=5∨k=6∨k=7∨k=8:=by omega
 have:=szN_cases n
 rcases e with rfl |rfl |rfl |rfl |rfl |rfl |rfl |rfl |rfl<;>simp only [Nat.reduceMul,Nat.reducePow]<;>omega
theorem sized_any(s:Int)(w:World):Calls Tryz.prog 293 #[.int .i64 s] w fun e w'=>e=.returned (.bool (decide (1≤s)&&decide (s≤8)))∧w'=w:=by
 by_cases h:1≤s<;>by_cases h':s≤8
 all_goals
  go_enter Tryz.func293,Tryz.ntmps293
  go_wp2
  go_ret
  simp [h,h']
theorem shift_little(i s:Nat)(w:World)(h:i<8) :
  Calls Tryz.prog 304 #[.int .i64 i,.int .i64 s,.bool true] w fun e w'=>e=.returned (.int .i64 (8*(i:Int)))∧w'=w:=by
 go_enter Tryz.func304,Tryz.ntmps304
 go_wp2
 go_ret
 exact ⟨rfl,rfl⟩
theorem shift_big(i s:Nat)(w:World)(h:i<s)(h':s≤8) :
  Calls Tryz.prog 304 #[.int .i64 i,.int .i64 s,.bool false] w fun e w'=>e=.returned (.int .i64 (8*((s - 1 - i:Nat):Int)))∧w'=w:=by
 obtain ⟨j,hj⟩:∃ j:Nat,s=i+1+j:=⟨s - 1 - i,by omega⟩
 subst hj
 rw [show i+1+j - 1 - i=j by omega]
 go_enter Tryz.func304,Tryz.ntmps304
 go_wp2
 go_ret
 refine ⟨?_,rfl⟩
 simp
 omega
theorem len_nat(n:Nat)(hn:n<18446744073709551616)(w:World):Calls Tryz.prog 253 #[.int .u64 (n:Int)] w fun e w'=>e=.returned (.int .i64 (Lib.bitLen n:Nat))∧w'=w:=by
 have:=len64_any (n:Int) w (by omega) (by omega)
 simpa using this
theorem bitLen_pos(x:Nat)(h0:x≠0)(h:x<18446744073709551616):1≤Lib.bitLen x:=by
 rw [Lib.bitLen_half x h0 h];omega
theorem bitLen_ge(n k:Nat)(h:2 ^ k≤n)(hn:n<18446744073709551616):k+1≤Lib.bitLen n:=by
 have hp:0<2 ^ k:=Nat.pow_pos (by omega)
 rw [Lib.bitLen_shift k n h hn]
 have h1:n/2 ^ k≠0:=by
  intro h0
  rw [Nat.div_eq_zero_iff]at h0
  omega
 have:=bitLen_pos (n/2 ^ k) h1 (Nat.lt_of_le_of_lt (Nat.div_le_self _ _) hn)
 omega
theorem sz_len(n:Nat)(h:n<72057594037927936):szN n=max ((Lib.bitLen n+6)/7) 1:=by
 have up:=fun k hk hl=>Lib.bitLen_le n k hk hl
 have dn:=fun k hk=>bitLen_ge n k hk (by omega)
 rcases szN_cases n with ⟨h1,e⟩ | ⟨h0,h1,e⟩ | ⟨h0,h1,e⟩ | ⟨h0,h1,e⟩ | ⟨h0,h1,e⟩ | ⟨h0,h1,e⟩ | ⟨h0,h1,e⟩ | ⟨h0,h1,e⟩ | ⟨h0,e⟩
 ·have:=up 7 (by omega) h1
  omega
 ·have:=up 14 (by omega) h1
  have:=dn 7 h0
  omega
 ·have:=up 21 (by omega) h1
  have:=dn 14 h0
  omega
 ·have:=up 28 (by omega) h1
  have:=dn 21 h0
  omega
 ·have:=up 35 (by omega) h1
  have:=dn 28 h0
  omega
 ·have:=up 42 (by omega) h1
  have:=dn 35 h0
  omega
 ·have:=up 49 (by omega) h1
  have:=dn 42 h0
  omega
 ·have:=up 56 (by omega) h1
  have:=dn 49 h0
  omega
 ·omega
theorem size_any(n:Nat)(hn:n<18446744073709551616)(w:World):Calls Tryz.prog 263 #[.int .u64 (n:Int)] w fun e w'=>e=.returned (.int .i64 (szN n:Nat))∧w'=w:=by
 by_cases h:n<72057594037927936
 ·have e1:(n:Int)/72057594037927936=0:=by omega
  have hl:=len_nat n hn
  have hb:=Lib.bitLen_le n 64 (by omega) hn
  have e2:=sz_len n h
  generalize Lib.bitLen n=l at *
  have e3:((szN n:Nat):Int)=max (((l:Int)+6)/7) 1:=by rw [e2];omega
  rw [e3]
  clear e2 e3
  go_enter Tryz.func263,Tryz.ntmps263
  go_wp2_with (go_at_call 253;refine (hl _).mono ?_;rintro e w1 ⟨rfl,rfl⟩)
  all_goals (go_ret;exact ⟨rfl,rfl⟩)
 ·have e1:((n:Int)/72057594037927936 == 0)=false:=by simp;omega
  have e2:=(szN_9 n).2 (by omega)
  rw [e2]
  go_enter Tryz.func263,Tryz.ntmps263
  go_wp2
  all_goals (go_ret;exact ⟨rfl,rfl⟩)
end Cel
namespace Cel
open Go.RowKit
def up(F:Nat→Nat)(i:Nat):Nat→List Nat
 | 0=>[]
 | k+1=>F i::up F (i+1) k
def place(l:Bool)(s i:Nat):Nat:=if l then i else s - 1 - i
def putN(v s:Nat)(l:Bool):List Nat:=up (fun i=>v/2 ^ (8*place l s i) % 256) 0 s
theorem up_length(F:Nat→Nat)(i k:Nat):(up F i k).length=k:=by
 induction k generalizing i with
 | zero=>rfl
 | succ k ih=>simp [up,ih]
theorem up_step(F:Nat→Nat)(i k:Nat)(h:i<k)(ys T:List Nat)(e:ys++up F i (k - i)=T):(ys++[F i])++up F (i+1) (k - (i+1))=T:=by
 rw [←e,show k - i=(k - (i+1))+1 by omega]
 simp [up]
theorem shift_any(i s:Nat)(l:Bool)(w:World)(h:i<s)(h':s≤8) :
  Calls Tryz.prog 304 #[.int .i64 i,.int .i64 s,.bool l] w fun e w'=>e=.returned (.int .i64 ((8*place l s i:Nat):Int))∧w'=w:=by
 cases l with
 | true=>simpa [place] using shift_little i s w (by omega)
 | false=>simpa [place] using shift_big i s w h h'
theorem shr_nat(v c:Nat)(yk:IntKind)(h:c≤64):Op.shift .shr .u64 (v:Int) yk (c:Int)=pure (.int .u64 ((v/2 ^ c:Nat):Int)):=by
 rw [shift_shr_any _ _ _ _ (by omega)]
 simp [IntKind.bits,Nat.min_eq_left h]
theorem shl_nat(v c:Nat)(yk:IntKind)(h:c≤64):Op.shift .shl .u64 (v:Int) yk (c:Int)=pure (.int .u64 (IntKind.u64.wrap ((v*2 ^ c:Nat):Int))):=by
 rw [shift_shl_any _ _ _ _ (by omega)]
 simp [IntKind.bits,Nat.min_eq_left h]
theorem shift_named(v i s:Nat)(l:Bool)(h:i<s)(h':s≤8):∃ (sh:Int) (q:Nat),(∀ w,Calls Tryz.prog 304 #[.int .i64 i,.int .i64 s,.bool l] w fun e w'=>e=.returned (.int .i64 sh)∧w'=w) ∧
  Op.shift .shr .u64 (v:Int) .i64 sh=pure (.int .u64 (q:Int))∧Op.shift .shl .u64 (v:Int) .i64 sh=pure (.int .u64 (IntKind.u64.wrap ((v*2 ^ (8*place l s i):Nat):Int)))∧q=v/2 ^ (8*place l s i):=by
 refine ⟨((8*place l s i:Nat):Int),v/2 ^ (8*place l s i),fun w=>shift_any i s l w h h',?_,?_,rfl⟩
 ·exact shr_nat v _ _ (by unfold place;split<;>omega)
 ·exact shl_nat v _ _ (by unfold place;split<;>omega)
theorem one_cell(w:World)(x:Nat):∀ j u,(bs [x])[j]? = some u→(w.alloc (.cells #[.int .u8 (x:Int)] 5)).cell? ((⟨w.heap.size,0,none⟩:Addr).add j)=some u:=by
 intro j u hu
 obtain ⟨hj,rfl⟩:=bs_get' [x] j u hu
 have:j=0:=by simpa using hj
 subst this
 rw [Addr.add_lit]
 simp
theorem put_any(ao:Option Addr)(n cap:Nat)(xs:List Nat)(v:Nat)(s:Int)(k:Nat)(l:Bool)(w:World)(h:Rd w ao n cap xs)(hn:n≤140737488355328)(hk:k≤8)(hs:min (max s 0) 8=(k:Int)) :
  Calls Tryz.prog 255 #[.slice ao n cap,.int .u64 v,.int .i64 s,.bool l] w fun e w'=>e=.returned (.slice (some ⟨w.heap.size,0,none⟩) (n+k) (n+k)) ∧
   w'.ownsRow w.heap.size 5 1 (.slice (some ⟨w.heap.size,0,none⟩) (n+k) (n+k)) (n+k) (bs (xs++putN v k l))∧Below w.heap.size w w':=by
 have cw:=hid (widened_any ao n cap k xs w h (by omega))
 have hs':=hid hs
 go_enter Tryz.func255,Tryz.ntmps255
 go_wp2_with (go_at_call 291;refine cw.out.mono ?_;rintro e w1 ⟨rfl,ho1,hb1⟩)
 go_loopw [9,18] (fun o c W=>∃ (i:Nat) (ys:List Nat),i≤k∧c=.int .i64 i∧o=.slice (some ⟨w.heap.size,0,none⟩) (n+i) (n+k)∧ys++up (fun j=>v/2 ^ (8*place l k j) % 256) i (k - i)=xs++putN v k l ∧
   W.ownsRow w.heap.size 5 1 (.slice (some ⟨w.heap.size,0,none⟩) (n+i) (n+k)) (n+i) (bs ys)∧Below w.heap.size w W) (fun _ c _=>k - (intOf c).toNat)
 case atStart=>exact ⟨0,xs,by omega,rfl,rfl,rfl,ho1,hb1⟩
 case round=>
  obtain ⟨i,ys,hi,rfl,rfl,he,ho,hb⟩:=hrel
  have he':=hid he
  clear he hs h cw ho1 hb1
  by_cases hik:i<k
  ·obtain ⟨sh,q,c,hsh,_,hq⟩:=shift_named v i k l hik hk
   have c':=hid c
   obtain ⟨i5,hi5,hz0,hz1,hz2⟩:=info_parts Tryz.info5
   have hq':=hid hq
   clear c hq
   go_wp2_with (first |(go_at_call 304;refine (c'.out _).mono ?_;rintro e w2 ⟨rfl,rfl⟩) |(at_builtin;refine wpList_append_fits _ rfl (.tmp 21) (.tmp 29) 48 rfl w.heap.size 5 i5 1 Tryz.underlying48 hi5 hz1 w.heap.size (n+i) (n+k) (bs ys) rfl (ho.alloc _) ⟨w2.heap.size,0,none⟩ 1 1 (bs [q % 256]) rfl rfl (one_cell w2 (q % 256)) (bs_one _) (by omega) ?_;intro w3 ho3 hg3))
   refine ⟨⟨i+1,ys++[q % 256],by omega,by go_num,by rw [Nat.add_assoc],?_,?_,?_⟩,by simp [intOf];omega⟩
   ·rw [hq'.out]
    exact up_step (fun j=>v/2 ^ (8*place l k j) % 256) i k hik ys _ he'.out
   ·rw [bs_append,←Nat.add_assoc];exact ho3
   ·exact (Below.alloc hb hb.size _).grown hg3 (by have:=hb.size;simp;omega) (fun j hj=>by cases hj;exact Nat.le_refl _)
  ·obtain rfl:i=k:=by omega
   go_wp2
   go_ret
   rw [Nat.sub_self]at he'
   simp only [up,List.append_nil]at he'
   rw [←he'.out]
   exact ⟨rfl,ho,hb⟩
end Cel
namespace Cel
open Go.RowKit
end Cel
namespace Cel
open Go.RowKit
def hd(a:Nat):Nat→List Nat
 | 0=>[]
 | k+1=>(a/2 ^ (7*k) % 128+128)::hd a k
def lastBits(n:Nat):Nat:=if szN n=9 then 8 else 7
def varN(n:Nat):List Nat:=hd (n/2 ^ lastBits n) (szN n - 1)++[n % 2 ^ lastBits n]
theorem hd_length(a k:Nat):(hd a k).length=k:=by
 induction k with
 | zero=>rfl
 | succ k ih=>simp [hd,ih]
theorem varN_length(n:Nat):(varN n).length=szN n:=by
 have:=szN_le n
 simp [varN,hd_length];omega
theorem hd_step(a j:Nat)(ys T:List Nat)(e:ys++hd a (j+1)=T):(ys++[a/2 ^ (7*j) % 128+128])++hd a j=T:=by
 rw [←e];simp [hd]
theorem or128_fin:∀ c:Fin 256,c.val |||128=c.val % 128+128:=by decide +kernel
theorem or128(q:Nat):bits .or .u8 ((q:Int) % 256) 128=((q % 128+128:Nat):Int):=by
 have h:=(bits_nat .u8 8 (by decide) wraps_u8 (q % 256) 128 (by omega) (by omega)).2
 have h2:=or128_fin ⟨q % 256,by omega⟩
 rw [show ((q:Int) % 256)=((q % 256:Nat):Int) by omega]
 rw [show ((128:Int))=((128:Nat):Int) by rfl,h,h2]
 simp only
 omega
theorem and_low(v k:Nat)(hk:k≤63)(hv:v<18446744073709551616):bits .and .u64 (v:Int) ((2 ^ k - 1:Nat):Int)=((v % 2 ^ k:Nat):Int):=by
 have hp:2 ^ k≤2 ^ 63:=Nat.pow_le_pow_right (by decide) hk
 rw [bits_and_u64_nat v (2 ^ k - 1) hv (by omega),Nat.and_two_pow_sub_one_eq_mod]
theorem var_any(ao:Option Addr)(n cap:Nat)(xs:List Nat)(v:Nat)(w:World)(h:Rd w ao n cap xs)(hv:v<18446744073709551616)(hn:n≤140737488355328) :
  Calls Tryz.prog 321 #[.slice ao n cap,.int .u64 v] w fun e w'=>e=.returned (.slice (some ⟨w.heap.size,0,none⟩) (n+szN v) (n+szN v)) ∧
   w'.ownsRow w.heap.size 5 1 (.slice (some ⟨w.heap.size,0,none⟩) (n+szN v) (n+szN v)) (n+szN v) (bs (xs++varN v))∧Below w.heap.size w w':=by
 obtain ⟨L,hL⟩:∃ L,L=lastBits v:=⟨_,rfl⟩
 have hT:varN v=hd (v/2 ^ L) (szN v - 1)++[v % 2 ^ L]:=by rw [hL];rfl
 have cs:=hid (size_any v hv)
 have hsz:=szN_le v
 have cw:=hid (widened_any ao n cap (szN v) xs w h (by omega))
 have hA:Hid (v/2 ^ L<18446744073709551616):=hid (Nat.lt_of_le_of_lt (Nat.div_le_self _ _) hv)
 have e9:(szN v=9∧L=8)∨(szN v≤8∧L=7):=by rw [hL];unfold lastBits;split<;>omega
 obtain ⟨A,hAe⟩:∃ A,A=v/2 ^ L:=⟨_,rfl⟩
 rw [←hAe]at hT
 obtain ⟨K,hK⟩:∃ K,K=szN v:=⟨_,rfl⟩
 rw [hT]
 rw [←hK]at cs cw e9 hsz ⊢
 obtain ⟨m,hm⟩:∃ m,K=m+1:=⟨K - 1,by omega⟩
 have hm':=hid hm
 rw [show K - 1=m by omega]
 have hAe':=hid hAe
 have hm8:m≤8:=by omega
 clear hL hT hAe hA hK hsz hm
 obtain ⟨i5,hi5,hz0,hz1,hz2⟩:=info_parts Tryz.info5
 rcases e9 with ⟨e9,rfl⟩ | ⟨e9,rfl⟩
 ·have h9:((K:Int) == 9)=true:=by simp;omega
  have hlo:1≤K∧K≤9:=by omega
  have e9':=hid e9
  clear e9
  have hl:=and_low v 8 (by decide) hv
  simp at hl
  have hA:(v:Int)/256=(A:Int):=by have:=hAe'.out;simp at this;omega
  go_enter Tryz.func321,Tryz.ntmps321
  go_wp2_with (first |(go_at_call 263;refine (cs.out _).mono ?_;rintro e w1 ⟨rfl,h1⟩;obtain rfl:=h1.symm) |(go_at_call 291;refine cw.out.mono ?_;rintro e w2 ⟨rfl,ho1,hb1⟩))
  go_loopw [7,9] (fun o c W=>∃ (j:Nat) (ys:List Nat),j≤m∧c=.int .i64 ((j:Int) - 1)∧o=.slice (some ⟨w.heap.size,0,none⟩) (n+(m - j)) (n+K)∧ys++hd A j=xs++hd A m ∧
    W.ownsRow w.heap.size 5 1 (.slice (some ⟨w.heap.size,0,none⟩) (n+(m - j)) (n+K)) (n+(m - j)) (bs ys)∧Below w.heap.size w W) (fun _ c _=>(intOf c+1).toNat)
  case atStart=>exact ⟨m,xs,Nat.le_refl _,by have:=hm'.out;subst this;go_num,by simp,rfl,by simpa using ho1,hb1⟩
  case round=>
   obtain ⟨j,ys,hj,rfl,rfl,he,ho,hb⟩:=hrel
   have he':=hid he
   clear he h cw ho1 hb1 cs
   cases j with
   | zero=>
    simp only [hd,List.append_nil]at he'
    have hown:=hid ho
    go_wp2_with (at_builtin;refine wpList_append_fits _ rfl (.tmp 35) (.tmp 42) 48 rfl w.heap.size 5 i5 1 Tryz.underlying48 hi5 hz1 w.heap.size (n+(m - 0)) (n+K) (bs ys) rfl (hown.out.alloc _) ⟨wr.heap.size,0,none⟩ 1 1 (bs [v % 2 ^ 8]) rfl rfl (one_cell wr (v % 2 ^ 8)) (bs_one _) (by have:=hm'.out;omega) ?_;intro w3 ho3 hg3)
    go_ret
    obtain rfl:=hm'.out
    refine ⟨rfl,?_,?_⟩
    ·rw [←List.append_assoc,bs_append,←he'.out,←Nat.add_assoc];exact ho3
    ·exact (Below.alloc hb hb.size _).grown hg3 (by have:=hb.size;simp;omega) (fun j hj=>by cases hj;exact Nat.le_refl _)
   | succ j=>
    have e1:((j+1:Nat):Int) - 1=(j:Int):=by omega
    rw [e1]
    obtain ⟨q,hq⟩:∃ q,q=A/2 ^ (7*j):=⟨_,rfl⟩
    have hsh:(A:Int)/2 ^ (7*j)=(q:Int):=by rw [hq];simp
    obtain ⟨c,hc⟩:∃ c,c=q % 128+128:=⟨_,rfl⟩
    have hor:=or128 q
    rw [←hc]at hor
    have hq':=hid hq
    have hc':=hid hc
    clear hq e1 hc
    go_wp2_with (at_builtin;refine wpList_append_fits _ rfl (.tmp 26) (.tmp 33) 48 rfl w.heap.size 5 i5 1 Tryz.underlying48 hi5 hz1 w.heap.size (n+(m - (j+1))) (n+K) (bs ys) rfl (ho.alloc _) ⟨wr.heap.size,0,none⟩ 1 1 (bs [c]) rfl rfl (one_cell wr c) (bs_one _) (by have:=hm'.out;omega) ?_;intro w3 ho3 hg3)
    refine ⟨⟨j,ys++[c],by omega,by go_num,by rw [show n+(m - (j+1))+1=n+(m - j) by omega],?_,?_,?_⟩,by simp [intOf]<;>omega⟩
    ·have:=hd_step A j ys _ he'.out
     rw [hc'.out,hq'.out]
     exact this
    ·rw [bs_append,show n+(m - j)=n+(m - (j+1))+1 by omega];exact ho3
    ·exact (Below.alloc hb hb.size _).grown hg3 (by have:=hb.size;simp;omega) (fun j hj=>by cases hj;exact Nat.le_refl _)
 ·have h9:((K:Int) == 9)=false:=by simp;omega
  have hlo:1≤K∧K≤8:=by have:=hm'.out;omega
  have e9':=hid e9
  clear e9
  have hl:=and_low v 7 (by decide) hv
  simp at hl
  have hA:(v:Int)/128=(A:Int):=by have:=hAe'.out;simp at this;omega
  go_enter Tryz.func321,Tryz.ntmps321
  go_wp2_with (first |(go_at_call 263;refine (cs.out _).mono ?_;rintro e w1 ⟨rfl,h1⟩;obtain rfl:=h1.symm) |(go_at_call 291;refine cw.out.mono ?_;rintro e w2 ⟨rfl,ho1,hb1⟩))
  go_loopw [7,9] (fun o c W=>∃ (j:Nat) (ys:List Nat),j≤m∧c=.int .i64 ((j:Int) - 1)∧o=.slice (some ⟨w.heap.size,0,none⟩) (n+(m - j)) (n+K)∧ys++hd A j=xs++hd A m ∧
    W.ownsRow w.heap.size 5 1 (.slice (some ⟨w.heap.size,0,none⟩) (n+(m - j)) (n+K)) (n+(m - j)) (bs ys)∧Below w.heap.size w W) (fun _ c _=>(intOf c+1).toNat)
  case atStart=>exact ⟨m,xs,Nat.le_refl _,by have:=hm'.out;subst this;go_num,by simp,rfl,by simpa using ho1,hb1⟩
  case round=>
   obtain ⟨j,ys,hj,rfl,rfl,he,ho,hb⟩:=hrel
   have he':=hid he
   clear he h cw ho1 hb1 cs
   cases j with
   | zero=>
    simp only [hd,List.append_nil]at he'
    have hown:=hid ho
    go_wp2_with (at_builtin;refine wpList_append_fits _ rfl (.tmp 35) (.tmp 42) 48 rfl w.heap.size 5 i5 1 Tryz.underlying48 hi5 hz1 w.heap.size (n+(m - 0)) (n+K) (bs ys) rfl (hown.out.alloc _) ⟨wr.heap.size,0,none⟩ 1 1 (bs [v % 2 ^ 7]) rfl rfl (one_cell wr (v % 2 ^ 7)) (bs_one _) (by have:=hm'.out;omega) ?_;intro w3 ho3 hg3)
    go_ret
    obtain rfl:=hm'.out
    refine ⟨rfl,?_,?_⟩
    ·rw [←List.append_assoc,bs_append,←he'.out,←Nat.add_assoc];exact ho3
    ·exact (Below.alloc hb hb.size _).grown hg3 (by have:=hb.size;simp;omega) (fun j hj=>by cases hj;exact Nat.le_refl _)
   | succ j=>
    have e1:((j+1:Nat):Int) - 1=(j:Int):=by omega
    rw [e1]
    obtain ⟨q,hq⟩:∃ q,q=A/2 ^ (7*j):=⟨_,rfl⟩
    have hsh:(A:Int)/2 ^ (7*j)=(q:Int):=by rw [hq];simp
    obtain ⟨c,hc⟩:∃ c,c=q % 128+128:=⟨_,rfl⟩
    have hor:=or128 q
    rw [←hc]at hor
    have hq':=hid hq
    have hc':=hid hc
    clear hq e1 hc
    go_wp2_with (at_builtin;refine wpList_append_fits _ rfl (.tmp 26) (.tmp 33) 48 rfl w.heap.size 5 i5 1 Tryz.underlying48 hi5 hz1 w.heap.size (n+(m - (j+1))) (n+K) (bs ys) rfl (ho.alloc _) ⟨wr.heap.size,0,none⟩ 1 1 (bs [c]) rfl rfl (one_cell wr c) (bs_one _) (by have:=hm'.out;omega) ?_;intro w3 ho3 hg3)
    refine ⟨⟨j,ys++[c],by omega,by go_num,by rw [show n+(m - (j+1))+1=n+(m - j) by omega],?_,?_,?_⟩,by simp [intOf]<;>omega⟩
    ·have:=hd_step A j ys _ he'.out
     rw [hc'.out,hq'.out]
     exact this
    ·rw [bs_append,show n+(m - j)=n+(m - (j+1))+1 by omega];exact ho3
    ·exact (Below.alloc hb hb.size _).grown hg3 (by have:=hb.size;simp;omega) (fun j hj=>by cases hj;exact Nat.le_refl _)
end Cel
namespace Cel
open Go.RowKit
end Cel
namespace Cel
open Go.RowKit
def asm(acc:Nat):Nat→List Nat→Nat×Nat
 | 0,[]=>(0,0)
 | 0,c::_=>(acc*256+c,9)
 | _+1,[]=>(0,0)
 | k+1,c::r=>if c<128 then (acc*128+c,8 - k) else asm (acc*128+(c - 128)) k r
theorem getD_lt{xs:List Nat}(h:∀ x∈xs,x<256)(i:Nat)(hi:i<xs.length):xs.getD i 0<256:=by
 rw [List.getD_eq_getElem?_getD,List.getElem?_eq_getElem hi]
 exact h _ (List.getElem_mem hi)
theorem drop_getD(xs:List Nat)(i:Nat)(hi:i<xs.length):xs.drop i=xs.getD i 0::xs.drop (i+1):=by
 rw [List.drop_eq_getElem_cons hi,List.getD_eq_getElem?_getD,List.getElem?_eq_getElem hi]
 rfl
theorem wraps_u64(n:Int)(h0:0≤n)(h1:n<2 ^ 64):IntKind.u64.wrap n=n:=by rw [IntKind.wrap_u64];omega
theorem or_join(a x k:Nat)(hx:x<2 ^ k)(h:a*2 ^ k+x<18446744073709551616):bits .or .u64 ((a:Int)*((2 ^ k:Nat):Int)) (x:Int)=((a*2 ^ k+x:Nat):Int):=by
 have h1:=(bits_nat .u64 64 (by decide) wraps_u64 (a*2 ^ k) x (by omega) (by omega)).2
 rw [Int.natCast_mul]at h1
 rw [h1,Nat.mul_comm a,←Nat.two_pow_add_eq_or_of_lt hx a]
theorem or7(a x:Nat)(hx:x<128)(h:a<144115188075855872):bits .or .u64 ((a:Int)*128) (x:Int)=((a*128+x:Nat):Int):=by
 simpa using or_join a x 7 (by omega) (by omega)
theorem or8(a x:Nat)(hx:x<256)(h:a<72057594037927936):bits .or .u64 ((a:Int)*256) (x:Int)=((a*256+x:Nat):Int):=by
 simpa using or_join a x 8 (by omega) (by omega)
theorem acc_step(a y i:Nat)(h:a<2 ^ (7*i))(hy:y<128):a*128+y<2 ^ (7*(i+1)):=by
 rw [show 7*(i+1)=7*i+7 by omega,Nat.pow_add]
 omega
end Cel
namespace Cel
open Go.RowKit
def psum(xs:List Nat)(s:Nat)(l:Bool):Nat→Nat
 | 0=>0
 | i+1=>psum xs s l i+xs.getD i 0*2 ^ (8*place l s i)
theorem psum_big(xs:List Nat)(s:Nat)(hx:∀ x∈xs,x<256)(hs:s≤xs.length):∀ i,i≤s→∃ q,q<2 ^ (8*i)∧psum xs s false i=q*2 ^ (8*(s - i)):=by
 intro i
 induction i with
 | zero=>intro _;exact ⟨0,by simp,by simp [psum]⟩
 | succ i ih=>
  intro hi
  obtain ⟨q,hq,e⟩:=ih (by omega)
  have hc:=getD_lt hx i (by omega)
  refine ⟨q*256+xs.getD i 0,?_,?_⟩
  ·rw [show 8*(i+1)=8*i+8 by omega,Nat.pow_add];omega
  ·simp only [psum,e,place]
   rw [show 8*(s - i)=8+8*(s - (i+1)) by omega,Nat.pow_add,show s - 1 - i=s - (i+1) by omega,Nat.add_mul,Nat.mul_assoc]
   rfl
theorem psum_little(xs:List Nat)(s:Nat)(hx:∀ x∈xs,x<256)(hs:s≤xs.length):∀ i,i≤s→psum xs s true i<2 ^ (8*i):=by
 intro i
 induction i with
 | zero=>intro _;simp [psum]
 | succ i ih=>
  intro hi
  have h:=ih (by omega)
  have hc:=getD_lt hx i (by omega)
  simp only [psum,place,if_true]
  rw [show 8*(i+1)=8*i+8 by omega,Nat.pow_add]
  have h2:xs.getD i 0*2 ^ (8*i)≤255*2 ^ (8*i):=Nat.mul_le_mul_right _ (by omega)
  omega
theorem psum_lt(xs:List Nat)(s:Nat)(l:Bool)(hx:∀ x∈xs,x<256)(hs:s≤xs.length)(h8:s≤8)(i:Nat)(hi:i≤s):psum xs s l i<18446744073709551616:=by
 cases l with
 | true=>
  have h:=psum_little xs s hx hs i hi
  have hp:2 ^ (8*i)≤2 ^ 64:=Nat.pow_le_pow_right (by omega) (by omega)
  omega
 | false=>
  obtain ⟨q,hq,e⟩:=psum_big xs s hx hs i hi
  have h1:q*2 ^ (8*(s - i))<2 ^ (8*i)*2 ^ (8*(s - i)):=Nat.mul_lt_mul_of_pos_right hq (Nat.pow_pos (by omega))
  rw [←Nat.pow_add,show 8*i+8*(s - i)=8*s by omega]at h1
  have hp:2 ^ (8*s)≤2 ^ 64:=Nat.pow_le_pow_right (by omega) (by omega)
  omega
theorem psum_or(xs:List Nat)(s:Nat)(l:Bool)(hx:∀ x∈xs,x<256)(hs:s≤xs.length)(i:Nat)(hi:i<s) :
  psum xs s l i |||xs.getD i 0*2 ^ (8*place l s i)=psum xs s l (i+1):=by
 have hc:=getD_lt hx i (by omega)
 cases l with
 | true=>
  have h:=psum_little xs s hx hs i (by omega)
  simp only [psum,place,if_true]
  rw [Nat.or_comm,Nat.mul_comm,←Nat.two_pow_add_eq_or_of_lt h,Nat.add_comm]
 | false=>
  obtain ⟨q,hq,e⟩:=psum_big xs s hx hs i (by omega)
  simp only [psum,e,place]
  have hlt:xs.getD i 0*2 ^ (8*(s - 1 - i))<2 ^ (8*(s - i)):=by
   rw [show 8*(s - i)=8+8*(s - 1 - i) by omega,Nat.pow_add]
   exact Nat.mul_lt_mul_of_pos_right (by omega) (Nat.pow_pos (by omega))
  rw [if_neg (by simp),Nat.mul_comm q,←Nat.two_pow_add_eq_or_of_lt hlt]
theorem getD_term_lt(xs:List Nat)(s:Nat)(l:Bool)(hx:∀ x∈xs,x<256)(hs:s≤xs.length)(h8:s≤8)(i:Nat)(hi:i<s):xs.getD i 0*2 ^ (8*place l s i)<18446744073709551616:=by
 have:=psum_lt xs s l hx hs h8 (i+1) (by omega)
 simp only [psum]at this
 omega
end Cel
namespace Cel
open Go.RowKit
theorem asm_bound(m:Nat):∀ (acc:Nat) (xs:List Nat),(∀ x∈xs,x<256)→m≤8→acc<2 ^ (7*(8 - m))→(asm acc m xs).1<18446744073709551616∧(asm acc m xs).2≤9:=by
 induction m with
 | zero=>
  intro acc xs hx _ ha
  cases xs with
  | nil=>simp [asm]
  | cons c r=>
   have:=hx c (by simp)
   simp [asm]at ha ⊢
   omega
 | succ m ih=>
  intro acc xs hx hm ha
  cases xs with
  | nil=>simp [asm]
  | cons c r=>
   have hc:=hx c (by simp)
   have hp:2 ^ (7*(8 - (m+1)))≤2 ^ 49:=Nat.pow_le_pow_right (by omega) (by omega)
   simp only [asm]
   split
   ·simp;omega
   ·refine ih _ r (fun x h=>hx x (by simp [h])) (by omega) ?_
    have:=acc_step acc (c - 128) (8 - (m+1)) ha (by omega)
    rwa [show 8 - (m+1)+1=8 - m by omega]at this
end Cel
namespace Cel
open Go.RowKit
variable {a b c:World} {p:Nat}
theorem grow_trans(h:a.grownBy b (some p))(k:b.grownBy c (some p)):a.grownBy c (some p):=
 ⟨k.os.trans h.os,k.tape.trans h.tape,k.output.trans h.output,Nat.le_trans h.size k.size,fun i hi hne=>(k.block i (Nat.lt_of_lt_of_le hi h.size) hne).trans (h.block i hi hne)⟩
theorem grow_below(h:Below a.heap.size a b):a.grownBy b (some p):=⟨h.os,h.tape,h.output,h.size,fun k hk _=>h.block k hk⟩
theorem grow_cell(h:a.grownBy b (some p)){x:Addr}{v:Value}(hc:a.cell? x=some v)(hne:x.block≠p):b.cell? x=some v:=by
 rw [World.cell?_of_block (h.block x.block (lt_cell hc) (by simpa using hne))];exact hc
def T5(W:World)(b:Nat):Prop:=∃ (C:Array Value) (m:Nat×Nat),W.heap[b]? = some (.cells C 5 m)
def Five(W W':World):Prop:=∀ (b:Nat) (C:Array Value) (m:Nat×Nat),W.heap[b]? = some (.cells C 5 m)→W'.heap[b]? = some (.cells C 5 m)
theorem Five.trans(h:Five a b)(k:Five b c):Five a c:=fun x C m hx=>k x C m (h x C m hx)
variable {W W':World}
theorem T5.five{b:Nat}(h:T5 W b)(k:Five W W'):T5 W' b:=by obtain ⟨C,m,hx⟩:=h;exact ⟨C,m,k b C m hx⟩
theorem five_below(h:Below W.heap.size W W'):Five W W':=fun b C m hx=>by rw [h.block b (lt_of_block hx)];exact hx
variable {t:TypeId} {C:Array Value}
theorem five_grown{m:Nat×Nat}(hp:W.heap[p]? = some (.cells C t m))(ht:t≠5)(h:W.grownBy W' (some p)):Five W W':=fun b C' m' hx=>by
 rw [h.block b (lt_of_block hx) (by intro e;cases e;rw [hp]at hx;simp only [Option.some.injEq,Obj.cells.injEq]at hx;exact ht hx.2.1)];exact hx
variable {v:Value} {i:Nat}
theorem five_set{m:Nat×Nat}(hp:W.heap[p]? = some (.cells C t m))(ht:t≠5):Five W (W.setCell ⟨p,i,none⟩ v):=fun b C' m' hx=>by
 rw [heap_setCell_other W ⟨p,i,none⟩ b v (by intro e;simp only at e;subst e;rw [hp]at hx;simp only [Option.some.injEq,Obj.cells.injEq]at hx;exact ht hx.2.1)];exact hx
theorem T5.keep{b:Nat}(h:T5 W b)(k:Below W.heap.size W W'):T5 W' b:=h.five (five_below k)
theorem t5_ne{b:Nat}{m:Nat×Nat}(hp:W.heap[p]? = some (.cells C 366 m))(h:T5 W b):b≠p:=by
 rintro rfl
 obtain ⟨C',m',hx⟩:=h
 rw [hp]at hx
 simp only [Option.some.injEq,Obj.cells.injEq]at hx
 exact absurd hx.2.1 (by decide)
variable {xs:List Nat} {n cap:Nat} {ao:Option Addr}
theorem Rd.five(h:Rd W ao n cap xs)(h5:0<n→∀ b o,ao=some ⟨b,o,none⟩→T5 W b)(k:Five W W'):Rd W' ao n cap xs:=by
 refine ⟨h.1,h.2.1,h.2.2.1,fun hp=>?_⟩
 obtain ⟨b,off,e,hc⟩:=h.2.2.2 hp
 obtain ⟨C,m,hx⟩:=h5 hp b off e
 refine ⟨b,off,e,fun t ht=>?_⟩
 rw [World.cell?_of_block ((k b C m hx).trans hx.symm)];exact hc t ht
def SrcAt(W:World)(p:Nat)(xs:List Nat):Prop:=
 ∃ b off n cap,W.heap[p]? = some (.cells #[.bool true,.slice (some ⟨b,off,none⟩) n cap,.int .i64 0] 366 (0,0))∧Rd W (some ⟨b,off,none⟩) n cap xs∧n≤9223372036854775807∧T5 W b
theorem SrcAt.keep(h:SrcAt W p xs)(hb:Below W.heap.size W W'):SrcAt W' p xs:=by
 obtain ⟨b,off,n,cap,hp,hr,hn,h5⟩:=h
 exact ⟨b,off,n,cap,by rw [hb.block p (lt_of_block hp)];exact hp,hr.keep hb,hn,h5.keep hb⟩
theorem src_cells{a b c:Value}(h:W.heap[p]? = some (.cells #[a,b,c] 366 (0,0))) :
  W.cell? ⟨p,0,none⟩=some a∧W.cell? ⟨p,1,none⟩=some b∧W.cell? ⟨p,2,none⟩=some c∧W.frozen? ⟨p,1,none⟩=false∧W.frozen? ⟨p,2,none⟩=false:=by
 simp [World.cell?,World.frozen?,h]
theorem src_set{a b c:Value}(h:W.heap[p]? = some (.cells #[a,b,c] 366 (0,0))):(W.setCell ⟨p,1,none⟩ v).heap[p]? = some (.cells #[a,v,c] 366 (0,0)):=by
 rw [heap_setCell_same W p 1 _ 366 v h];simp
theorem grow_set(W:World)(p:Nat)(i:Nat)(v:Value):W.grownBy (W.setCell ⟨p,i,none⟩ v) (some p):=
 ⟨rfl,rfl,rfl,by simp,fun k _ hk=>heap_setCell_other W ⟨p,i,none⟩ k v (fun e=>hk (by simp [e]))⟩
theorem rd_set(h:Rd W ao n cap xs)(hne:∀ b off,ao=some ⟨b,off,none⟩→b≠p):Rd (W.setCell ⟨p,i,none⟩ v) ao n cap xs:=by
 refine ⟨h.1,h.2.1,h.2.2.1,fun hp=>?_⟩
 obtain ⟨b,off,e,hc⟩:=h.2.2.2 hp
 exact ⟨b,off,e,fun t ht=>grow_cell (grow_set W p i v) (hc t ht) (hne b off e)⟩
theorem Rd.tail{b off c:Nat}{r:List Nat}(h:Rd W (some ⟨b,off,none⟩) n cap (c::r)):(cap=1→Rd W (some ⟨b,off,none⟩) (n - 1) (cap - 1) r)∧(¬cap=1→Rd W (some ⟨b,off+1,none⟩) (n - 1) (cap - 1) r):=by
 obtain ⟨hl,hc,hno,hat⟩:=h
 simp at hl
 constructor
 ·intro h1
  refine ⟨by omega,by omega,fun h=>(by cases h),fun hp=>?_⟩
  omega
 ·intro h1
  refine ⟨by omega,by omega,fun h=>(by cases h),fun hp=>⟨b,off+1,rfl,fun t ht=>?_⟩⟩
  obtain ⟨b',off',e,hcell⟩:=hat (by omega)
  simp only [Option.some.injEq,Addr.mk.injEq,and_true]at e
  obtain ⟨rfl,rfl⟩:=e
  have:=hcell (t+1) (by omega)
  rw [show off+1+t=off+(t+1) by omega,this]
  simp [List.getD]
theorem next_more(p c:Nat)(r:List Nat)(W:World)(h:SrcAt W p (c::r)) :
  Calls Tryz.prog 295 #[.pointer (some ⟨p,0,none⟩)] W fun e w'=>e=.returned (.tuple #[.int .u8 (c:Int),.bool true])∧SrcAt w' p r∧W.grownBy w' (some p):=by
 obtain ⟨b,off,n,cap,hp,hr,hn,h5⟩:=h
 have hb:=t5_ne hp h5
 have h5s:Hid (∀ v,T5 (W.setCell ⟨p,1,none⟩ v) b):=hid (fun v=>h5.five (five_set hp (by decide)))
 clear h5
 have hl:=hr.1
 simp at hl
 obtain ⟨b',off',e,hc⟩:=hr.2.2.2 (by omega)
 simp only [Option.some.injEq,Addr.mk.injEq,and_true]at e
 obtain ⟨rfl,rfl⟩:=e
 have hc0:=hc 0 (by omega)
 simp [List.getD]at hc0
 have hcap:=hr.2.1
 obtain ⟨s0,s1,s2,f1,f2⟩:=src_cells hp
 have ht:=hr.tail
 have hr':=hid hr
 have hp':=hid hp
 have h0:((n:Int) == 0)=false:=by simp;omega
 have hn0:(0:Int)<(n:Int):=by omega
 have hn1:(1:Int)≤(n:Int):=by omega
 have ht':=hid ht
 have hl':1≤n:=by omega
 clear hc hr hp ht
 by_cases h1:cap=1
 ·have ht2:=hid (ht'.out.1 h1)
  obtain rfl:n=1:=by omega
  subst h1
  go_enter Tryz.func295,Tryz.ntmps295
  go_wp2
  go_ret2
  exact ⟨rfl,⟨_,_,_,_,src_set hp'.out,rd_set ht2.out (fun _ _ e=>by simp only [Option.some.injEq,Addr.mk.injEq,and_true]at e;rw [←e.1];exact hb),by omega,h5s.out _⟩,grow_set _ _ _ _⟩
 ·have ht2:=hid (ht'.out.2 h1)
  go_enter Tryz.func295,Tryz.ntmps295
  go_wp2
  go_ret2
  exact ⟨rfl,⟨_,_,_,_,src_set hp'.out,rd_set ht2.out (fun _ _ e=>by simp only [Option.some.injEq,Addr.mk.injEq,and_true]at e;rw [←e.1];exact hb),by omega,h5s.out _⟩,grow_set _ _ _ _⟩
theorem next_end(p:Nat)(W:World)(h:SrcAt W p []):Calls Tryz.prog 295 #[.pointer (some ⟨p,0,none⟩)] W fun e w'=>e=.returned (.tuple #[.int .u8 0,.bool false])∧W=w':=by
 obtain ⟨b,off,n,cap,hp,hr,hn,h5⟩:=h
 obtain rfl:n=0:=by have:=hr.1;simpa using this.symm
 obtain ⟨s0,s1,s2,f1,f2⟩:=src_cells hp
 clear hp hr hn h5
 go_enter Tryz.func295,Tryz.ntmps295
 go_wp2
 go_ret2
 exact ⟨rfl,rfl⟩
theorem err_ok(p:Nat)(xs:List Nat)(W:World)(h:SrcAt W p xs):Calls Tryz.prog 242 #[.pointer (some ⟨p,0,none⟩)] W fun e w'=>e=.returned (.int .i64 0)∧W=w':=by
 obtain ⟨b,off,n,cap,hp,hr,hn,h5⟩:=h
 obtain ⟨s0,s1,s2,f1,f2⟩:=src_cells hp
 clear hp hr hn h5
 go_enter Tryz.func242,Tryz.ntmps242
 go_wp2
 go_ret
 exact ⟨rfl,rfl⟩
def On(w:World)(p:Nat)(xs:List Nat)(k:Nat)(W:World):Prop:=SrcAt W p (xs.drop k)∧w.grownBy W (some p)
theorem on_more(w:World)(p:Nat)(xs:List Nat)(k:Nat)(W:World)(h:On w p xs k W)(hk:k<xs.length) :
  Calls Tryz.prog 295 #[.pointer (some ⟨p,0,none⟩)] W fun e w'=>e=.returned (.tuple #[.int .u8 ((xs.getD k 0:Nat):Int),.bool true])∧On w p xs (k+1) w':=by
 have h1:=h.1
 rw [drop_getD xs k hk]at h1
 exact (next_more p _ _ W h1).mono fun e w' ⟨he,hs,hg⟩=>⟨he,hs,grow_trans h.2 hg⟩
theorem on_end(w:World)(p:Nat)(xs:List Nat)(W:World)(h:On w p xs xs.length W) :
  Calls Tryz.prog 295 #[.pointer (some ⟨p,0,none⟩)] W fun e w'=>e=.returned (.tuple #[.int .u8 0,.bool false])∧On w p xs xs.length w':=by
 have h1:=h.1
 rw [List.drop_length]at h1
 exact (next_end p W h1).mono fun e w' ⟨he,hs⟩=>⟨he,hs▸h⟩
end Cel
namespace Cel
open Go.RowKit
theorem asm_src(p:Nat)(xs:List Nat)(hx:∀ x∈xs,x<256)(St:Nat→World→Prop)
  (hmore:∀ k W,St k W→k<xs.length→Calls Tryz.prog 295 #[.pointer (some ⟨p,0,none⟩)] W fun e w'=>e=.returned (.tuple #[.int .u8 ((xs.getD k 0:Nat):Int),.bool true])∧St (k+1) w')
  (hend:∀ W,St xs.length W→Calls Tryz.prog 295 #[.pointer (some ⟨p,0,none⟩)] W fun e w'=>e=.returned (.tuple #[.int .u8 0,.bool false])∧St xs.length w')
  (w:World) (h0:St 0 w) :
  Calls Tryz.prog 296 #[.func (.func 295) #[.pointer (some ⟨p,0,none⟩)] #[]] w fun e w'=>
   e=.returned (.tuple #[.int .u64 ((asm 0 8 xs).1:Nat),.int .i64 ((asm 0 8 xs).2:Nat)])∧∃ k,St k w'∧((asm 0 8 xs).2≠0→k=(asm 0 8 xs).2):=by
 obtain ⟨R,hR⟩:∃ R,R=asm 0 8 xs:=⟨_,rfl⟩
 rw [←hR]
 have hR':=hid hR
 clear hR
 have hmore':=hid hmore
 have hend':=hid hend
 have hx':=hid hx
 have h0':=hid h0
 clear hmore hend hx h0
 go_enter Tryz.func296,Tryz.ntmps296
 go_wp2
 go_loopw [4,5] (fun a s W=>∃ (i acc:Nat),i≤8∧i≤xs.length∧a=.int .u64 (acc:Int)∧s=.int .i64 ((i:Int)+1)∧acc<2 ^ (7*i)∧asm acc (8 - i) (xs.drop i)=R∧St i W) (fun _ s _=>(9 - intOf s).toNat)
 case atStart=>exact ⟨0,0,by omega,by omega,rfl,rfl,by simp,by simpa using hR'.out.symm,h0'.out⟩
 case round=>
  obtain ⟨i,acc,hi,hil,rfl,rfl,hacc,he,hS⟩:=hrel
  have he':=hid he
  have hS':=hid hS
  have hacc':=hid hacc
  clear he hS hacc
  by_cases hin:i<xs.length
  ·have c:=hid (hmore'.out i wr hS'.out hin)
   obtain ⟨X,hX⟩:∃ X,X=xs.getD i 0:=⟨_,rfl⟩
   rw [←hX]at c
   have hX':=hid hX
   clear hX
   have hX2:X<256:=by rw [hX'.out];exact getD_lt hx'.out i hin
   have hd:xs.drop i=X::xs.drop (i+1):=by rw [hX'.out];exact drop_getD xs i hin
   rw [hd]at he'
   clear hd
   by_cases hi8:i<8
   ·have hb:acc<562949953421312:=Nat.lt_of_lt_of_le hacc'.out (Nat.pow_le_pow_right (by omega) (by omega:7*i≤49))
    rw [show 8 - i=(7 - i)+1 by omega]at he'
    have he2:=he'.out
    simp only [asm]at he2
    by_cases hX3:X<128
    ·obtain ⟨q,hq⟩:∃ q,q=acc*128+X:=⟨_,rfl⟩
     have hor:=or7 acc X (by omega) (by omega)
     rw [←hq]at hor
     rw [if_pos hX3,←hq,show 8 - (7 - i)=i+1 by omega]at he2
     subst he2
     clear he' hq
     go_wp2_with (go_at_call 295;refine c.out.mono ?_;rintro e w1 ⟨rfl,hS1⟩)
     go_ret2
     exact ⟨rfl,hS1⟩
    ·obtain ⟨y,rfl⟩:∃ y,X=y+128:=⟨X - 128,by omega⟩
     obtain ⟨q,hq⟩:∃ q,q=acc*128+y:=⟨_,rfl⟩
     have hor:=or7 acc y (by omega) (by omega)
     rw [←hq]at hor
     rw [if_neg hX3,Nat.add_sub_cancel,←hq]at he2
     have he3:=hid he2
     have hq':=hid hq
     clear he' hq he2
     go_wp2_with (go_at_call 295;refine c.out.mono ?_;rintro e w1 ⟨rfl,hS1⟩)
     refine ⟨⟨i+1,q,by omega,by omega,rfl,by go_num,?_,?_,hS1⟩,by simp [intOf];omega⟩
     ·rw [hq'.out];exact acc_step acc y i hacc'.out (by omega)
     ·rw [show 8 - (i+1)=7 - i by omega];exact he3.out
   ·obtain rfl:i=8:=by omega
    have hb:acc<72057594037927936:=by have:=hacc'.out;omega
    have he2:=he'.out
    simp only [Nat.sub_self,asm]at he2
    obtain ⟨q,hq⟩:∃ q,q=acc*256+X:=⟨_,rfl⟩
    have hor:=or8 acc X (by omega) (by omega)
    rw [←hq]at hor
    rw [←hq]at he2
    subst he2
    clear he' hq
    go_wp2_with (go_at_call 295;refine c.out.mono ?_;rintro e w1 ⟨rfl,hS1⟩)
    go_ret2
    exact ⟨rfl,hS1⟩
  ·obtain rfl:i=xs.length:=by omega
   have c:=hid (hend'.out wr hS'.out)
   have he2:=he'.out
   rw [List.drop_length]at he2
   have hR0:R=(0,0):=by
    rw [←he2]
    cases h8:8 - xs.length<;>simp [asm]
   subst hR0
   generalize xs.length=L at *
   clear he' he2
   go_wp2_with (go_at_call 295;refine c.out.mono ?_;rintro e w1 ⟨rfl,hS1⟩)
   all_goals (go_ret2;exact ⟨rfl,_,hS1⟩)
theorem gather_src(p:Nat)(xs:List Nat)(hx:∀ x∈xs,x<256)(s:Nat)(l:Bool)(hs:s≤xs.length)(h8:s≤8)(St:Nat→World→Prop)
  (hmore:∀ k W,St k W→k<xs.length→Calls Tryz.prog 295 #[.pointer (some ⟨p,0,none⟩)] W fun e w'=>e=.returned (.tuple #[.int .u8 ((xs.getD k 0:Nat):Int),.bool true])∧St (k+1) w')
  (w:World) (h0:St 0 w) :
  Calls Tryz.prog 294 #[.func (.func 295) #[.pointer (some ⟨p,0,none⟩)] #[],.int .i64 s,.bool l] w fun e w'=>
   e=.returned (.int .u64 (psum xs s l s:Nat))∧St s w':=by
 have hmore':=hid hmore
 have hx':=hid hx
 have h0':=hid h0
 clear hmore hx h0
 go_enter Tryz.func294,Tryz.ntmps294
 go_wp2
 go_loopw [7,12] (fun a c W=>∃ (i:Nat),i≤s∧a=.int .u64 (psum xs s l i:Nat)∧c=.int .i64 (i:Int)∧St i W) (fun _ c _=>s - (intOf c).toNat)
 case atStart=>exact ⟨0,by omega,rfl,rfl,h0'.out⟩
 case round=>
  obtain ⟨i,hi,rfl,rfl,hS⟩:=hrel
  have hS':=hid hS
  clear hS
  by_cases his:i<s
  ·have c:=hid (hmore'.out i wr hS'.out (by omega))
   obtain ⟨sh,q,csh,_,hshl,_⟩:=shift_named (xs.getD i 0) i s l his h8
   have hor:=bits_or_u64_nat (psum xs s l i) (xs.getD i 0*2 ^ (8*place l s i)) (psum_lt xs s l hx'.out hs h8 i (by omega)) (getD_term_lt xs s l hx'.out hs h8 i his)
   rw [psum_or xs s l hx'.out hs i his]at hor
   have hw:IntKind.u64.wrap ((xs.getD i 0*2 ^ (8*place l s i):Nat):Int)=((xs.getD i 0*2 ^ (8*place l s i):Nat):Int):=by
    rw [IntKind.wrap_u64];have:=getD_term_lt xs s l hx'.out hs h8 i his;omega
   rw [hw]at hshl
   have hX2:=getD_lt hx'.out i (by omega)
   have csh':=hid csh
   clear hw csh
   generalize xs.getD i 0*2 ^ (8*place l s i)=t at *
   obtain ⟨P1,hP1⟩:∃ P,P=psum xs s l (i+1):=⟨_,rfl⟩
   rw [←hP1]at hor
   generalize psum xs s l i=P0 at *
   generalize xs.getD i 0=X at *
   have hP1':=hid hP1
   clear hP1
   go_wp2_with (first |(go_at_call 295;refine c.out.mono ?_;rintro e w1 ⟨rfl,hS1⟩) |(go_at_call 304;refine (csh'.out _).mono ?_;rintro e w2 ⟨rfl,hw2⟩;obtain rfl:=hw2.symm))
   exact ⟨⟨i+1,by omega,by rw [hP1'.out],by go_num,hS1⟩,by simp [intOf];omega⟩
  ·obtain rfl:i=s:=by omega
   go_wp2
   go_ret
   exact ⟨rfl,hS'.out⟩
end Cel
namespace Cel
open Go.RowKit
theorem var_ok(p:Nat)(xs:List Nat)(v most:Nat)(W:World)(h:SrcAt W p xs)(hx:∀ x∈xs,x<256)(hv:asm 0 8 xs=(v,szN v))(hm:v≤most) :
  Calls Tryz.prog 236 #[.pointer (some ⟨p,0,none⟩),.int .u64 (most:Int)] W fun e w'=>e=.returned (.int .u64 (v:Int))∧SrcAt w' p (xs.drop (szN v))∧W.grownBy w' (some p):=by
 have c26:=hid (err_ok p xs W h)
 have c30:=hid (asm_src p xs hx (On W p xs) (fun k W' hS hk=>on_more W p xs k W' hS hk) (fun W' hS=>on_end W p xs W' hS) W ⟨by simpa using h,World.grownBy.refl _ _⟩)
 have hb:=(asm_bound 8 0 xs hx (by omega) (by simp)).1
 rw [hv]at c30 hb
 simp only at c30 hb
 have c16:=hid (size_any v hb)
 have hz:=(szN_le v).1
 generalize szN v=z at *
 have hz0:((z:Int) == 0)=false:=by simp;omega
 have hm':¬(most:Int)<(v:Int):=by omega
 have hz1:z≠0:=by omega
 have hz2:=hid hz1
 clear hv hx h hb hz1
 go_enter Tryz.func236,Tryz.ntmps236
 go_wp2_with (first |(go_at_call 242;refine c26.out.mono ?_;rintro e w1 ⟨rfl,rfl⟩) |(go_at_call 296;refine c30.out.mono ?_;rintro e w2 ⟨rfl,k,hS,hk⟩;replace hS:=hid hS;replace hk:=hid hk) |(go_at_call 263;refine (c16.out _).mono ?_;rintro e w3 ⟨rfl,hw3⟩;obtain rfl:=hw3.symm))
 go_ret
 rw [hk.out hz2.out]at hS
 exact ⟨rfl,hS.out.1,hS.out.2⟩
theorem own_t5{w:World}{B g n cap m:Nat}{xs:List Value}(h:w.ownsRow B 5 1 (.slice (some ⟨g,0,none⟩) n cap) m xs):T5 w g:=by
 rcases h.2 with ⟨h',_⟩ | ⟨g',cap',cur,h',_,hg,_⟩
 ·cases h'
 ·simp only [Value.slice.injEq,Option.some.injEq,Addr.mk.injEq,and_true]at h'
  obtain ⟨rfl,_⟩:=h'
  exact ⟨cur,_,hg⟩
theorem read_ok(ao:Option Addr)(n cap:Nat)(xs:List Nat)(w:World)(h:Rd w ao n cap xs)(hn:n≤140737488355328) :
  Calls Tryz.prog 234 #[.slice ao n cap] w fun e w'=>∃ p,e=.returned (.pointer (some ⟨p,0,none⟩))∧w.heap.size≤p∧SrcAt w' p xs∧Below w.heap.size w w':=by
 have cw:Hid (Calls Tryz.prog 291 #[.slice ao n cap,.int .i64 0] w fun e w'=>e=.returned (.slice (some ⟨w.heap.size,0,none⟩) n n) ∧
   w'.ownsRow w.heap.size 5 1 (.slice (some ⟨w.heap.size,0,none⟩) n n) n (bs xs)∧Below w.heap.size w w'):=hid (by simpa using widened_any ao n cap 0 xs w h (by omega))
 clear h
 go_enter Tryz.func234,Tryz.ntmps234
 go_wp2_with (go_at_call 291;refine cw.out.mono ?_;rintro e w1 ⟨rfl,ho1,hb1⟩)
 go_ret
 exact ⟨w1.heap.size,rfl,hb1.size,⟨_,_,_,_,heap_alloc_new w1 _,(rd_own ho1).keep (Below.alloc (Below.refl _ _) (Nat.le_refl _) _),by omega,(own_t5 ho1).keep (Below.alloc (Below.refl _ _) (Nat.le_refl _) _)⟩,Below.alloc hb1 hb1.size _⟩
end Cel
end Go.Proofs.YtfcikkechphmaaaGreatDoor
