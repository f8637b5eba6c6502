/- What Read answers of a disk; no statement of the seat is proved here. -/
import Derived.Test.YtadhdedjdgjboaaGreatDoorH07
import Derived.Lib.SliceRun
import Derived.Maps.RangeWalk
import Derived.Laws.IdiomRangeMap
import Derived.Deep.LoopGhost
set_option maxHeartbeats 16000000
set_option maxRecDepth 20000
namespace Go.Proofs.YtadhdedjdgjboaaGreatDoor
namespace Dsk
open Go.RowKit Go.Maps
variable {w:World}
theorem wpList_append_rd{ops:Array Oper}{rest:List Oper}{o:Oper}{a:Act}{Q:Exit→Act→World→Prop}(hgd:o.guard=none)(s x:Operand)
  (ho:o.op=.call { callee:=.builtin .append,args:=#[s,x],argTypes:=#[60,60] }) (B:Nat) (v:Value) (n:Nat) (xs:List Nat) (hs:a.eval s=v) (hown:w.ownsRow B 5 1 v n (bs xs))
  (ao:Option Addr) (m c:Nat) (ys:List Nat) (hx:a.eval x=.slice ao m c) (hr:Rd w ao m c ys) (hb:n+m≤140737488355328) (hB:B≤w.heap.size)
  (h:∀ v' w',w'.ownsRow B 5 1 v' (n+m) (bs (xs++ys))→Below B w w'→wpList Tryz.prog ops Q rest (a.put o.dst v') w'):wpList Tryz.prog ops Q (o::rest) a w:=by
 obtain ⟨i5,hi5,hz0,hz1,hz2⟩:=info_parts Tryz.info5
 obtain ⟨hl,hc,hno,hat⟩:=hr
 cases ao with
 | none=>
  obtain ⟨rfl,rfl⟩:=hno rfl
  obtain rfl:ys = []:=List.eq_nil_of_length_eq_zero hl
  refine wpList_append_own_none hgd s x 60 ho B 5 i5 1 Tryz.underlying60 hi5 v n (bs xs) hs hown hx ?_
  exact h v w (by simpa using hown) (Below.refl _ _)
 | some ad=>
  refine wpList_append_own w hgd s x 60 ho B 5 i5 (.int .u8 0) 1 1 Tryz.underlying60 hi5 hz0 hz1 hz2 rfl (by decide) v n (bs xs) hs hown ad m c (bs ys) hx (by simp [bs,hl]) ?_ (bs_one ys) (by unfold maxLen;omega) (by omega) hB ?_
  ·intro j u hu
   obtain ⟨hj,rfl⟩:=bs_get' ys j u hu
   obtain ⟨b,off,e,hcell⟩:=hat (by omega)
   simp only [Option.some.injEq]at e
   subst e
   rw [Addr.add_lit]
   exact hcell j (by omega)
  ·intro v' w' h1 h2 _
   refine h v' w' (by rw [bs_append];exact h1) ((Below.refl B w).grown h2 hB fun k hk=>(hown.lt k hk).1)
theorem rd_owned{B n:Nat}{v:Value}{xs:List Nat}(h:w.ownsRow B 5 1 v n (bs xs)):∃ ao cap,v=.slice ao n cap∧Rd w ao n cap xs∧∀ a,ao=some a→B≤a.block:=by
 rcases h.2 with ⟨rfl,rfl⟩ | ⟨g,cap,cur,rfl,hB,_⟩
 ·obtain rfl:xs = []:=by have:=h.1;simp [bs]at this;exact this
  exact ⟨none,0,rfl,Rd.nil w,fun a ha=>by cases ha⟩
 ·exact ⟨_,_,rfl,rd_own h,fun a ha=>by cases ha;exact hB⟩
theorem rd_sec{p o:Nat}{S:Nat→Prop}{g cap m i:Nat}{F:FS}(HF:FileAt w p o S (some ⟨g,0,none⟩) cap m F)(sn:∀ x∈F.now,x.length=128)(hi:i<F.now.length):Rd w (some ⟨g,i*128,none⟩) 128 128 (F.now.getD i []):=by
 have hl:(F.now.getD i []).length=128:=by rw [List.getD,List.getElem?_eq_getElem hi];exact sn _ (List.getElem_mem hi)
 refine ⟨hl,Nat.le_refl _,fun h=>(by cases h),fun _=>⟨g,i*128,rfl,fun t ht=>?_⟩⟩
 rw [HF.row.cellAt (i*128+t) (by have:(i+1)*128≤F.now.length*128:=Nat.mul_le_mul_right _ (by omega);omega),secs_get sn i t hi ht,bs_get _ _ (by omega)]
theorem make37(c:Nat)(hc:c≤281474976710656)(w:World):(Instr.makeSlice 60 (.int .i64 0) (.int .i64 (c:Int))).run Tryz.prog w=.ok (.slice (some ⟨w.heap.size,0,none⟩) 0 c) (w.alloc (.cells (Array.replicate c (.int .u8 0)) 5)):=make_any 0 c (Nat.zero_le _) hc w
def readD(d:DS)(f at_ n:Int):List Nat×Int:=
 if d.off then ([],4) else if !known f then ([],11) else if at_<0∨n<0∨((d.file f).now.length:Int) - at_<n then ([],11) else ((((d.file f).now.drop at_.toNat).take n.toNat).flatten,0)
theorem take_step(l:List Sec)(A k n:Nat)(hk:k<n)(h:A+n≤l.length):((l.drop (A+k)).take (n - k)).flatten=l.getD (A+k) []++((l.drop (A+(k+1))).take (n - (k+1))).flatten:=by
 have hlt:A+k<l.length:=by omega
 rw [List.drop_eq_getElem_cons hlt,show n - k=(n - (k+1))+1 by omega,List.take_succ_cons,List.flatten_cons,List.getD,List.getElem?_eq_getElem hlt]
 rfl
theorem read_off(p:Nat)(P:Parts)(d:DS)(f at_ n:Int)(w:World)(h:DiskP w p P d)(hx:d.off=true∨known f=false) :
  Calls Tryz.prog 77 #[.pointer (some ⟨p,0,none⟩),.int .i64 f,.int .i64 at_,.int .i64 n] w fun e w'=>e=.returned (.tuple #[.slice none 0 0,.int .i64 (if d.off then 4 else 11)])∧w'=w:=by
 have c:Calls Tryz.prog 102 #[.pointer (some ⟨p,0,none⟩),.int .i64 f] w fun e w'=>e=.returned (.int .i64 (if d.off then 4 else 11))∧w'=w:=by
  cases ho:d.off
  ·have hk:known f=false:=by rcases hx with h |h;rw [ho]at h;cases h;exact h
   have:=fault_on p P d f _ h ho
   rw [hk]at this;exact this
  ·exact fault_off p P d f _ h ho
 obtain ⟨r,hr,hr0⟩:∃ r:Int,r=(if d.off then 4 else 11)∧(r == 0)=false:=⟨_,rfl,by cases d.off<;>rfl⟩
 rw [←hr]at c ⊢
 have C:=hid c
 clear c h hx hr
 go_enter Tryz.func77,Tryz.ntmps77
 go_wp2_with (go_at_call 102;refine C.out.mono ?_;rintro e wx ⟨rfl,hwx⟩;obtain rfl:=hwx)
 go_ret2
 exact ⟨rfl,rfl⟩
theorem read_0(p:Nat)(P:Parts)(d:DS)(at_ n:Int)(w:World)(h:DiskP w p P d)(ho:d.off=false)(hab : -9223372036854775808≤at_∧at_≤9223372036854775807)(hnb : -9223372036854775808≤n∧n≤9223372036854775807) :
  Calls Tryz.prog 77 #[.pointer (some ⟨p,0,none⟩),.int .i64 0,.int .i64 at_,.int .i64 n] w fun e w'=>∃ ro rc,e=.returned (.tuple #[.slice ro (readD d 0 at_ n).1.length rc,.int .i64 (readD d 0 at_ n).2])∧Rd w' ro (readD d 0 at_ n).1.length rc (readD d 0 at_ n).1∧(∀ a,ro=some a→w.heap.size≤a.block)∧Below w.heap.size w w':=by
 have cf:=fault_on p P d 0 w h ho
 rw [show known 0=true from rfl,if_pos rfl]at cf
 have CF:=hid cf;have H:=hid h
 have c3:=h.f0.c0
 have hr2:=h.ok.r2;have hsum:=h.ok.sum
 obtain ⟨L,hLL⟩:∃ L,L=d.f0.now.length:=⟨_,rfl⟩
 rw [←hLL]at c3
 have hlb:L≤32768:=by omega
 have HLL:=hid hLL
 have hwd:readD d 0 at_ n=if at_<0∨n<0∨(L:Int) - at_<n then ([],11) else (((d.f0.now.drop at_.toNat).take n.toNat).flatten,0):=by
  simp only [readD,ho,hLL];rfl
 rw [hwd]
 clear hwd h cf hLL hsum hr2
 by_cases h1:at_<0
 ·rw [if_pos (Or.inl h1)]
  go_enter Tryz.func77,Tryz.ntmps77
  go_wp2_with (go_at_call 102;refine CF.out.mono ?_;rintro e wx ⟨rfl,hwx⟩;obtain rfl:=hwx.symm;clear CF)
  go_ret2
  exact ⟨none,0,rfl,Rd.nil _,fun a ha=>(by cases ha),Below.refl _ _⟩
 ·by_cases h2:n<0
  ·rw [if_pos (Or.inr (Or.inl h2))]
   go_enter Tryz.func77,Tryz.ntmps77
   go_wp2_with (go_at_call 102;refine CF.out.mono ?_;rintro e wx ⟨rfl,hwx⟩;obtain rfl:=hwx.symm;clear CF)
   go_ret2
   exact ⟨none,0,rfl,Rd.nil _,fun a ha=>(by cases ha),Below.refl _ _⟩
  ·by_cases h3:(L:Int) - at_<n
   ·rw [if_pos (Or.inr (Or.inr h3))]
    go_enter Tryz.func77,Tryz.ntmps77
    go_wp2_with (go_at_call 102;refine CF.out.mono ?_;rintro e wx ⟨rfl,hwx⟩;obtain rfl:=hwx.symm;clear CF)
    go_ret2
    exact ⟨none,0,rfl,Rd.nil _,fun a ha=>(by cases ha),Below.refl _ _⟩
   ·rw [if_neg (by omega)]
    obtain ⟨A,rfl⟩:=Int.eq_ofNat_of_zero_le (show 0≤at_ by omega)
    obtain ⟨N,rfl⟩:=Int.eq_ofNat_of_zero_le (show 0≤n by omega)
    rw [Int.toNat_natCast,Int.toNat_natCast]
    have hAN:A+N≤L:=by omega
    have mk:=make37 (N*128) (by omega)
    have e1:((N*128:Nat):Int)=(N:Int)*128:=by omega
    rw [e1]at mk
    have hpl:=H.out.f0.plt
    obtain ⟨total,htot⟩:∃ total,total=((d.f0.now.drop A).take N).flatten:=⟨_,rfl⟩
    rw [←htot]
    have htl:total.length=N*128:=by
     have:∀ (l:List Sec),(∀ x∈l,x.length=128)→l.flatten.length=l.length*128:=fun l hl=>by have:=secs_length hl;rw [secs,bs_length]at this;exact this
     rw [htot,this _ (fun x hx=>H.out.ok.ok0.sn x (List.mem_of_mem_drop (List.mem_of_mem_take hx))),List.length_take,List.length_drop,←HLL.out,Nat.min_eq_left (by omega)]
    have HTL:=hid htl;have HTO:=hid htot
    have h3':¬((L:Int) - (A:Int)<(N:Int)):=h3
    clear h1 h2 htl htot hab hnb e1
    have hA0:¬((A:Int)<0):=by omega
    have hN0:¬((N:Int)<0):=by omega
    go_enter Tryz.func77,Tryz.ntmps77
    go_wp2_with (go_at_call 102;refine CF.out.mono ?_;rintro e wx ⟨rfl,hwx⟩;obtain rfl:=hwx.symm;clear CF)
    go_loopw [12,13] (fun o c W=>∃ (k:Nat) (ys:List Nat),k≤N∧c=.int .i64 ((A:Int)+(k:Int))∧Hid (ys++((d.f0.now.drop (A+k)).take (N - k)).flatten=total)∧Hid (ys.length=k*128)∧Hid (W.ownsRow w.heap.size 5 1 o (k*128) (bs ys))∧Hid (Below w.heap.size w W)) (fun _ c _=>A+N - (intOf c).toNat)
    case atStart=>exact ⟨0,[],Nat.zero_le _,by simp,hid (by rw [HTO.out];simp),rfl,hid (by have:=World.ownsRow_made (base:=w.heap.size) (e:=5) (size:=1) w (Array.replicate (N*128) (.int .u8 0)) (N*128) (Nat.le_refl _) (by unfold maxLen;omega) (by simp);simpa [bs] using this),hid ((Below.refl _ _).alloc (Nat.le_refl _) _)⟩
    case round=>
     obtain ⟨k,ys,hk,rfl,hys,hyl,hown,hbw⟩:=hrel
     have hd:=H.out.later hbw.out
     have c3':=hd.f0.c0
     rw [←HLL.out]at c3'
     clear c3
     obtain ⟨ro,rc,hv,hrd,hrb⟩:=rd_owned hown.out
     have HRB:=hid hrb
     clear hrb
     subst hv
     by_cases hkN:k<N
     ·have hkN':(A:Int)+(k:Int)<(A:Int)+(N:Int):=by omega
      obtain ⟨g,hg⟩:∃ g,P.a0=some ⟨g,0,none⟩:=by
       obtain ⟨g,_,hv',_⟩:=hd.f0.row.form (by rw [←HLL.out];omega)
       simp only [Value.slice.injEq]at hv'
       exact ⟨g,hv'.1⟩
      have hF:=hd.f0
      rw [hg]at c3' hF
      have hrs:=rd_sec hF H.out.ok.ok0.sn (i:=A+k) (by rw [←HLL.out];omega)
      have HRS:=hid hrs
      have hkL:(A:Int)+(k:Int)<(L:Int):=by omega
      have hAk:((A:Int)+(k:Int)).toNat=A+k:=by omega
      have hz:=hbw.out.size
      clear hd hF hrs hrd hg
      go_wp2_with ((with_reducible refine here_op 61 ?_);refine wpList_append_rd rfl (.tmp 53) (.tmp 60) rfl w.heap.size _ (k*128) ys rfl hown.out (some ⟨g,(A+k)*128,none⟩) 128 128 _ rfl HRS.out (by omega) hz ?_;intro v1 w1 ho1 hb1;replace ho1:=hid ho1;replace hb1:=hid hb1)
      go_roundw
      case measure=>simp [intOf];omega
      case rel=>
      refine ⟨k+1,ys++d.f0.now.getD (A+k) [],by omega,by congr 1,hid ?_,hid ?_,hid ?_,hid (hbw.out.trans hb1.out)⟩
      ·rw [List.append_assoc,←take_step _ A k N hkN (by rw [←HLL.out];omega)];exact hys.out
      ·rw [List.length_append,hyl.out,HRS.out.1];omega
      ·have:=ho1.out;rw [show (k+1)*128=k*128+128 by omega];exact this
     ·have hkE:k=N:=by omega
      subst hkE
      have hkN':¬((A:Int)+(k:Int)<(A:Int)+(k:Int)):=by omega
      have hyT:ys=total:=by have:=hys.out;simpa using this
      subst hyT
      have HRD:=hid hrd
      clear hd hrd
      go_wp2
      go_ret2
      refine ⟨ro,rc,?_,?_,HRB.out,hbw.out⟩
      ·rw [HTL.out];rfl
      ·rw [HTL.out];exact HRD.out
theorem read_1(p:Nat)(P:Parts)(d:DS)(at_ n:Int)(w:World)(h:DiskP w p P d)(ho:d.off=false)(hab : -9223372036854775808≤at_∧at_≤9223372036854775807)(hnb : -9223372036854775808≤n∧n≤9223372036854775807) :
  Calls Tryz.prog 77 #[.pointer (some ⟨p,0,none⟩),.int .i64 1,.int .i64 at_,.int .i64 n] w fun e w'=>∃ ro rc,e=.returned (.tuple #[.slice ro (readD d 1 at_ n).1.length rc,.int .i64 (readD d 1 at_ n).2])∧Rd w' ro (readD d 1 at_ n).1.length rc (readD d 1 at_ n).1∧(∀ a,ro=some a→w.heap.size≤a.block)∧Below w.heap.size w w':=by
 have cf:=fault_on p P d 1 w h ho
 rw [show known 1=true from rfl,if_pos rfl]at cf
 have CF:=hid cf;have H:=hid h
 have c3:=h.f1.c0
 have hr2:=h.ok.r2;have hsum:=h.ok.sum
 obtain ⟨L,hLL⟩:∃ L,L=d.f1.now.length:=⟨_,rfl⟩
 rw [←hLL]at c3
 have hlb:L≤32768:=by omega
 have HLL:=hid hLL
 have hwd:readD d 1 at_ n=if at_<0∨n<0∨(L:Int) - at_<n then ([],11) else (((d.f1.now.drop at_.toNat).take n.toNat).flatten,0):=by
  simp only [readD,ho,hLL];rfl
 rw [hwd]
 clear hwd h cf hLL hsum hr2
 by_cases h1:at_<0
 ·rw [if_pos (Or.inl h1)]
  go_enter Tryz.func77,Tryz.ntmps77
  go_wp2_with (go_at_call 102;refine CF.out.mono ?_;rintro e wx ⟨rfl,hwx⟩;obtain rfl:=hwx.symm;clear CF)
  go_ret2
  exact ⟨none,0,rfl,Rd.nil _,fun a ha=>(by cases ha),Below.refl _ _⟩
 ·by_cases h2:n<0
  ·rw [if_pos (Or.inr (Or.inl h2))]
   go_enter Tryz.func77,Tryz.ntmps77
   go_wp2_with (go_at_call 102;refine CF.out.mono ?_;rintro e wx ⟨rfl,hwx⟩;obtain rfl:=hwx.symm;clear CF)
   go_ret2
   exact ⟨none,0,rfl,Rd.nil _,fun a ha=>(by cases ha),Below.refl _ _⟩
  ·by_cases h3:(L:Int) - at_<n
   ·rw [if_pos (Or.inr (Or.inr h3))]
    go_enter Tryz.func77,Tryz.ntmps77
    go_wp2_with (go_at_call 102;refine CF.out.mono ?_;rintro e wx ⟨rfl,hwx⟩;obtain rfl:=hwx.symm;clear CF)
    go_ret2
    exact ⟨none,0,rfl,Rd.nil _,fun a ha=>(by cases ha),Below.refl _ _⟩
   ·rw [if_neg (by omega)]
    obtain ⟨A,rfl⟩:=Int.eq_ofNat_of_zero_le (show 0≤at_ by omega)
    obtain ⟨N,rfl⟩:=Int.eq_ofNat_of_zero_le (show 0≤n by omega)
    rw [Int.toNat_natCast,Int.toNat_natCast]
    have hAN:A+N≤L:=by omega
    have mk:=make37 (N*128) (by omega)
    have e1:((N*128:Nat):Int)=(N:Int)*128:=by omega
    rw [e1]at mk
    have hpl:=H.out.f0.plt
    obtain ⟨total,htot⟩:∃ total,total=((d.f1.now.drop A).take N).flatten:=⟨_,rfl⟩
    rw [←htot]
    have htl:total.length=N*128:=by
     have:∀ (l:List Sec),(∀ x∈l,x.length=128)→l.flatten.length=l.length*128:=fun l hl=>by have:=secs_length hl;rw [secs,bs_length]at this;exact this
     rw [htot,this _ (fun x hx=>H.out.ok.ok1.sn x (List.mem_of_mem_drop (List.mem_of_mem_take hx))),List.length_take,List.length_drop,←HLL.out,Nat.min_eq_left (by omega)]
    have HTL:=hid htl;have HTO:=hid htot
    have h3':¬((L:Int) - (A:Int)<(N:Int)):=h3
    clear h1 h2 htl htot hab hnb e1
    have hA0:¬((A:Int)<0):=by omega
    have hN0:¬((N:Int)<0):=by omega
    go_enter Tryz.func77,Tryz.ntmps77
    go_wp2_with (go_at_call 102;refine CF.out.mono ?_;rintro e wx ⟨rfl,hwx⟩;obtain rfl:=hwx.symm;clear CF)
    go_loopw [12,13] (fun o c W=>∃ (k:Nat) (ys:List Nat),k≤N∧c=.int .i64 ((A:Int)+(k:Int))∧Hid (ys++((d.f1.now.drop (A+k)).take (N - k)).flatten=total)∧Hid (ys.length=k*128)∧Hid (W.ownsRow w.heap.size 5 1 o (k*128) (bs ys))∧Hid (Below w.heap.size w W)) (fun _ c _=>A+N - (intOf c).toNat)
    case atStart=>exact ⟨0,[],Nat.zero_le _,by simp,hid (by rw [HTO.out];simp),rfl,hid (by have:=World.ownsRow_made (base:=w.heap.size) (e:=5) (size:=1) w (Array.replicate (N*128) (.int .u8 0)) (N*128) (Nat.le_refl _) (by unfold maxLen;omega) (by simp);simpa [bs] using this),hid ((Below.refl _ _).alloc (Nat.le_refl _) _)⟩
    case round=>
     obtain ⟨k,ys,hk,rfl,hys,hyl,hown,hbw⟩:=hrel
     have hd:=H.out.later hbw.out
     have c3':=hd.f1.c0
     rw [←HLL.out]at c3'
     clear c3
     obtain ⟨ro,rc,hv,hrd,hrb⟩:=rd_owned hown.out
     have HRB:=hid hrb
     clear hrb
     subst hv
     by_cases hkN:k<N
     ·have hkN':(A:Int)+(k:Int)<(A:Int)+(N:Int):=by omega
      obtain ⟨g,hg⟩:∃ g,P.a1=some ⟨g,0,none⟩:=by
       obtain ⟨g,_,hv',_⟩:=hd.f1.row.form (by rw [←HLL.out];omega)
       simp only [Value.slice.injEq]at hv'
       exact ⟨g,hv'.1⟩
      have hF:=hd.f1
      rw [hg]at c3' hF
      have hrs:=rd_sec hF H.out.ok.ok1.sn (i:=A+k) (by rw [←HLL.out];omega)
      have HRS:=hid hrs
      have hkL:(A:Int)+(k:Int)<(L:Int):=by omega
      have hAk:((A:Int)+(k:Int)).toNat=A+k:=by omega
      have hz:=hbw.out.size
      clear hd hF hrs hrd hg
      go_wp2_with ((with_reducible refine here_op 61 ?_);refine wpList_append_rd rfl (.tmp 53) (.tmp 60) rfl w.heap.size _ (k*128) ys rfl hown.out (some ⟨g,(A+k)*128,none⟩) 128 128 _ rfl HRS.out (by omega) hz ?_;intro v1 w1 ho1 hb1;replace ho1:=hid ho1;replace hb1:=hid hb1)
      go_roundw
      case measure=>simp [intOf];omega
      case rel=>
      refine ⟨k+1,ys++d.f1.now.getD (A+k) [],by omega,by congr 1,hid ?_,hid ?_,hid ?_,hid (hbw.out.trans hb1.out)⟩
      ·rw [List.append_assoc,←take_step _ A k N hkN (by rw [←HLL.out];omega)];exact hys.out
      ·rw [List.length_append,hyl.out,HRS.out.1];omega
      ·have:=ho1.out;rw [show (k+1)*128=k*128+128 by omega];exact this
     ·have hkE:k=N:=by omega
      subst hkE
      have hkN':¬((A:Int)+(k:Int)<(A:Int)+(k:Int)):=by omega
      have hyT:ys=total:=by have:=hys.out;simpa using this
      subst hyT
      have HRD:=hid hrd
      clear hd hrd
      go_wp2
      go_ret2
      refine ⟨ro,rc,?_,?_,HRB.out,hbw.out⟩
      ·rw [HTL.out];rfl
      ·rw [HTL.out];exact HRD.out
theorem read_call(p:Nat)(P:Parts)(d:DS)(f at_ n:Int)(w:World)(h:DiskP w p P d)(hab : -9223372036854775808≤at_∧at_≤9223372036854775807)(hnb : -9223372036854775808≤n∧n≤9223372036854775807) :
  Calls Tryz.prog 77 #[.pointer (some ⟨p,0,none⟩),.int .i64 f,.int .i64 at_,.int .i64 n] w fun e w'=>∃ ro rc,e=.returned (.tuple #[.slice ro (readD d f at_ n).1.length rc,.int .i64 (readD d f at_ n).2])∧Rd w' ro (readD d f at_ n).1.length rc (readD d f at_ n).1∧(∀ a,ro=some a→w.heap.size≤a.block)∧Below w.heap.size w w':=by
 by_cases hx:d.off=true∨known f=false
 ·have e:readD d f at_ n=([],if d.off then 4 else 11):=by
   unfold readD
   rcases hx with h |h
   ·simp [h]
   ·cases d.off<;>simp [h]
  rw [e]
  refine (read_off p P d f at_ n w h hx).mono ?_
  rintro e w' ⟨rfl,rfl⟩
  exact ⟨none,0,rfl,Rd.nil _,fun a ha=>(by cases ha),Below.refl _ _⟩
 ·have ho:d.off=false:=by cases h':d.off;rfl;exact absurd (Or.inl h') hx
  have hk:known f=true:=by cases h':known f;exact absurd (Or.inr h') hx;rfl
  rcases known_cases hk with rfl |rfl
  ·exact read_0 p P d at_ n w h ho hab hnb
  ·exact read_1 p P d at_ n w h ho hab hnb
end Dsk
namespace Dsk
open Go.RowKit Go.Maps
def newD(r:Nat):DS:=⟨r,false,0,⟨[],[],[]⟩,⟨[],[],[]⟩,0,[],0⟩
theorem newD_ok(r:Nat)(h1:1≤r)(h2:r≤32768):(newD r).Ok:=by
 have e:(⟨[],[],[]⟩:FS).Ok:=⟨rfl,Nat.le_refl _,fun _ h=>by simp at h,fun _ h=>by simp at h,fun i h=>by simp at h⟩
 exact ⟨h1,h2,by simp [newD],e,e,by simp [newD],by simp [newD],by simp [newD],by simp [newD]⟩
theorem new_yes(r:Nat)(w:World)(h1:1≤r)(h2:r≤32768):Calls Tryz.prog 9 #[.int .i64 (r:Int)] w fun e w'=>e=.returned (.pointer (some ⟨w.heap.size,0,none⟩))∧(∃ P,DiskP w' w.heap.size P (newD r)∧∀ k,P.all k→w.heap.size<k)∧Below w.heap.size w w':=by
 have h1':¬((r:Int)<1):=by omega
 have h2':¬((32768:Int)<(r:Int)):=by omega
 obtain ⟨w1,hw1⟩:∃ w1,w1=w.alloc (.cells #[.int .i64 (r:Int),.bool false,.int .i64 0,.slice none 0 0,.int .i64 0,.map none,.slice none 0 0,.int .i64 0,.map none,.int .i64 0,.slice none 0 0,.int .i64 0] 83):=⟨_,rfl⟩
 have hb1:Below w.heap.size w w1:=by rw [hw1];exact (Below.refl _ _).alloc (Nat.le_refl _) _
 have hc:∀ i,w1.cell? ⟨w.heap.size,i,none⟩=(#[.int .i64 (r:Int),.bool false,.int .i64 0,.slice none 0 0,.int .i64 0,.map none,.slice none 0 0,.int .i64 0,.map none,.int .i64 0,.slice none 0 0,.int .i64 0]:Array Value)[i]?:=fun i=>by rw [hw1,World.cell?_alloc_at _ _ _ _ rfl]
 have hf:∀ i,w1.frozen? ⟨w.heap.size,i,none⟩=false:=fun i=>by rw [hw1,World.frozen?_alloc_at _ _ _ _ rfl]
 have hz1:w1.heap.size=w.heap.size+1:=by rw [hw1];simp
 have cs:=settle_any w.heap.size 3 0 (fun _=>False) none 0 none [] w1 (hc 3) (hc 4) (hc 5) (hf 3) (hf 4) (hf 5) (World.ownsRow_nil _ _ _ _) (fun h=>h) (fun _ h=>by cases h)
 have CS:=hid cs;have HW1:=hid hw1;have HB1:=hid hb1;have HC:=hid hc;have HF:=hid hf;have HZ1:=hid hz1
 clear cs hw1 hb1 hc hf hz1
 go_enter Tryz.func9,Tryz.ntmps9
 go_wp2
 refine wp_loop_rounds 3 ?_
 rw [rounds_succ]
 go_wp2_with (go_at_call 40;rw [←HW1.out];refine CS.out.mono ?_;rintro e w2 ⟨rfl,hF2,hfr2⟩;clear CS;replace hF2:=hid hF2;replace hfr2:=hid hfr2)
 have hc2:∀ i,5<i→w2.cell? ⟨w.heap.size,i,none⟩=w1.cell? ⟨w.heap.size,i,none⟩:=fun i hi=>hfr2.out.cell i (by omega) (by omega) (by omega)
 have hf2:∀ i,w2.frozen? ⟨w.heap.size,i,none⟩=false:=fun i=>(hfr2.out.fz i).trans (HF.out i)
 have cs:=settle_any w.heap.size 6 0 (fun _=>False) none 0 none [] w2 ((hc2 6 (by omega)).trans (HC.out 6)) ((hc2 7 (by omega)).trans (HC.out 7)) ((hc2 8 (by omega)).trans (HC.out 8)) (hf2 6) (hf2 7) (hf2 8) (World.ownsRow_nil _ _ _ _) (fun h=>h) (fun _ h=>by cases h)
 have CS:=hid cs;have HF2:=hid hf2
 clear cs hf2 hc2
 rw [rounds_succ]
 go_wp2_with (go_at_call 40;refine CS.out.mono ?_;rintro e w3 ⟨rfl,hF3,hfr3⟩;clear CS;replace hF3:=hid hF3;replace hfr3:=hid hfr3)
 rw [rounds_succ]
 go_wp2
 go_ret
 have z1:=HZ1.out;have z2:=hfr2.out.size;have z3:=hfr3.out.size
 have c1:∀ i,i<3∨8<i→w3.cell? ⟨w.heap.size,i,none⟩=w1.cell? ⟨w.heap.size,i,none⟩:=fun i hi=>(hfr3.out.cell i (by omega) (by omega) (by omega)).trans (hfr2.out.cell i (by omega) (by omega) (by omega))
 have f3:FileAt w3 w.heap.size 3 (Between (fun _=>False) w1 w2) none 0 w1.heap.size ⟨[],[],[]⟩:=hF2.out.bound.stay (fun k hk hS=>hfr3.out.block k hk (fun e=>by rcases hS with h |h;exact h;omega) (fun h=>h)) (fun i h1 h2=>hfr3.out.cell i (by omega) (by omega) (by omega)) (fun i=>hfr3.out.fz i)
 have f6:FileAt w3 w.heap.size 6 (Between (fun _=>False) w2 w3) none 0 w2.heap.size ⟨[],[],[]⟩:=hF3.out.bound
 refine ⟨rfl,⟨⟨Between (fun _=>False) w1 w2,Between (fun _=>False) w2 w3,fun _=>False,none,none,none,0,0,0,w1.heap.size,w2.heap.size⟩,⟨(c1 0 (by omega)).trans (HC.out 0),(c1 1 (by omega)).trans (HC.out 1),(c1 2 (by omega)).trans (HC.out 2),(c1 9 (by omega)).trans (HC.out 9),(c1 10 (by omega)).trans (HC.out 10),(c1 11 (by omega)).trans (HC.out 11),fun i=>(hfr3.out.fz i).trans (HF2.out i),f3,f6,fun h=>by simp [newD]at h,fun h=>by simp [newD]at h,?_,fun k h=>False.elim h,?_,?_,fun k h=>False.elim h,newD_ok r h1 h2⟩,?_⟩,?_⟩
 ·rintro k (h |h) (h' |h')
  ·exact h
  ·exact h
  ·exact h'
  ·omega
 ·rintro k (h |h)
  ·exact h.elim
  ·omega
 ·rintro k (h |h)
  ·exact h.elim
  ·exact h.2
 ·rintro k ((h |h) |(h |h) |h)
  ·exact h.elim
  ·omega
  ·exact h.elim
  ·omega
  ·exact False.elim h
 ·refine HB1.out.trans ⟨hfr3.out.os.trans hfr2.out.os,hfr3.out.tape.trans hfr2.out.tape,hfr3.out.output.trans hfr2.out.output,Nat.le_trans z2 z3,fun k hk=>?_⟩
  exact (hfr3.out.block k (by omega) (by omega) (fun h=>h)).trans (hfr2.out.block k (by omega) (by omega) (fun h=>h))
end Dsk
namespace Dsk
open Go.RowKit Go.Maps
variable {d:DS} {P:Parts} {p:Nat} {w:World}
theorem all_lt(h:DiskP w p P d){k:Nat}(hk:P.all k):k<w.heap.size:=by
 rcases hk with h1 |h1 |h1
 ·exact h.b0 k h1
 ·exact h.b1 k h1
 ·exact h.bk k h1
theorem p_lt(h:DiskP w p P d):p<w.heap.size:=h.f0.plt
end Dsk
namespace Dsk
open Go.RowKit Go.Maps
def lenD(d:DS)(f:Int):Nat:=if known f then (d.file f).now.length else 0
theorem sectors_call(p:Nat)(P:Parts)(d:DS)(f:Int)(w:World)(h:DiskP w p P d):Calls Tryz.prog 29 #[.pointer (some ⟨p,0,none⟩),.int .i64 f] w fun e w'=>e=.returned (.int .i64 (lenD d f:Int))∧w'=w:=by
 have c:=hid (made_yes p d.room w h.c0 h.ok.r1)
 have ck:=known_any f w
 have c3:=h.f0.c0;have c6:=h.f1.c0
 clear h
 cases hk:known f
 ·rw [hk]at ck
  have CK:=hid ck
  have e:lenD d f=0:=by simp [lenD,hk]
  rw [e]
  clear ck e
  go_enter Tryz.func29,Tryz.ntmps29
  go_wp2_with (first |(go_at_call 58;refine c.out.mono ?_;rintro e wx ⟨rfl,hw⟩;obtain rfl:=hw.symm;clear c) |(go_at_call 67;refine CK.out.mono ?_;rintro e wx ⟨rfl,hw⟩;obtain rfl:=hw.symm))
  go_ret
  exact ⟨rfl,rfl⟩
 ·rw [hk]at ck
  have CK:=hid ck
  clear ck
  rcases known_cases hk with rfl |rfl
  ·have e:lenD d 0=d.f0.now.length:=rfl
   rw [e]
   clear e
   go_enter Tryz.func29,Tryz.ntmps29
   go_wp2_with (first |(go_at_call 58;refine c.out.mono ?_;rintro e wx ⟨rfl,hw⟩;obtain rfl:=hw.symm;clear c) |(go_at_call 67;refine CK.out.mono ?_;rintro e wx ⟨rfl,hw⟩;obtain rfl:=hw.symm))
   go_ret
   exact ⟨rfl,rfl⟩
  ·have e:lenD d 1=d.f1.now.length:=rfl
   rw [e]
   clear e
   go_enter Tryz.func29,Tryz.ntmps29
   go_wp2_with (first |(go_at_call 58;refine c.out.mono ?_;rintro e wx ⟨rfl,hw⟩;obtain rfl:=hw.symm;clear c) |(go_at_call 67;refine CK.out.mono ?_;rintro e wx ⟨rfl,hw⟩;obtain rfl:=hw.symm))
   go_ret
   exact ⟨rfl,rfl⟩
theorem info4:(Tryz.prog.info? 4).map (fun i=>(i.zero,i.size,i.bytes))=some (some (.bool false),1,1):=by kernel_rfl
end Dsk
namespace Dsk
open Go.RowKit Go.Maps
theorem box80(x:Sec)(W:World):(Instr.box 136 (secV x)).run Tryz.prog W=.ok (.pointer (some ⟨W.heap.size,0,none⟩)) (W.alloc (.cells (bs x).toArray 136)):=by
 rfl
def behind(n:Nat):Lit→DataW Unit→Bool:=fun kl _=>match kl with | .int _ a=>decide ((n:Int)≤a) |_=>false
theorem cut1_any(B n:Nat)(k:Int)(x:Sec)(W:World)(hc:W.cell? ⟨B,0,none⟩=some (.int .i64 (n:Int))) :
  Calls Tryz.prog 155 #[.int .i64 k,secV x,.pointer (some ⟨B,0,none⟩)] W fun e w'=>e=.returned (.bool (decide ((n:Int)≤k)))∧Below W.heap.size W w':=by
 obtain ⟨W1,hW1⟩:∃ W1,W1=W.alloc (.cells (bs x).toArray 136):=⟨_,rfl⟩
 have hb:Below W.heap.size W W1:=by rw [hW1];exact (Below.refl _ _).alloc (Nat.le_refl _) _
 have hc1:=keep_old hb hc
 have bx:=box80 x W
 rw [←hW1]at bx
 have BX:=hid bx;have HB:=hid hb
 clear bx hb hW1 hc
 go_enter Tryz.func155,Tryz.ntmps155
 go_wp2_with ((with_reducible refine here_op 4 ?_);refine wpList_box_run rfl 136 (.tmp 1) rfl (secV x) _ rfl _ BX.out ?_)
 go_ret
 exact ⟨rfl,HB.out⟩
theorem at_mem{es:List (Lit×DataW Unit)}{kl:Lit}{d:DataW Unit}(h:∀ zd,(DataW.map es).atKey kl zd=d):∃ p∈es,p.2=d:=by
 unfold DataW.atKey at h
 cases hf:es.find? (fun p=>p.1.sameKey kl) with
 | none=>simp only [hf]at h;have h1:=h .nil;rw [←h (.map [])]at h1;cases h1
 | some p=>simp only [hf]at h;exact ⟨p,List.mem_of_find?_eq_some hf,h .nil⟩
theorem grown_of{w w':World}(h:Below w.heap.size w w'):w.grownBy w' none:=⟨h.os,h.tape,h.output,h.size,fun k hk _=>h.block k hk⟩
theorem delete_secs(dirt:List Bool)(old:List Sec)(n B b N:Nat)(w:World)(hso:∀ i,(was old i).length=128)(hown:w.ownsMap Tryz.prog 3 secR b N (dirtD dirt old))(hc:w.cell? ⟨B,0,none⟩=some (.int .i64 (n:Int)))(hBb:B≠b) :
  Calls Tryz.prog 154 #[.map (some b),.func (.func 155) #[] #[.pointer (some ⟨B,0,none⟩)]] w fun e w'=>e=.returned (.tuple #[])∧w'.ownsMap Tryz.prog 3 secR b N (Lib.deleteFuncD (behind n) (dirtD dirt old))∧w.grownBy w' (some b):=by
 have K:=int_keyed Tryz.underlying3
 obtain ⟨es0,he0,hap,hkeys⟩:=hown.entries K
 have hes:∀ p∈es0,∃ i,p.2=secD (was old i):=by
  intro p hp
  simp only [dirtD,DataW.map.injEq]at he0
  rw [←he0]at hp
  obtain ⟨i,_,rfl⟩:=List.mem_map.1 hp
  exact ⟨i,rfl⟩
 have HES:=hid hes;have HSO:=hid hso;have HC:=hid hc
 rw [he0]at hown ⊢
 clear hes hso hc he0
 obtain ⟨NN,hNN⟩:∃ N,N=(bs noughts).toArray:=⟨_,rfl⟩
 have al:=alloc80
 rw [←hNN]at al
 have AL:=hid al;have HN:=hid hNN
 clear al hNN
 go_enter Tryz.func154,Tryz.ntmps154
 go_wp2_with (first
  | (at_range;refine wpList_range_own _ rfl _ 78 rfl 3 136 K Tryz.underlying78 secR b N _ rfl hown ?_;intro w0 hrg0 hg0 hs0;clear hs0)
  | go_in)
 go_frame
 go_loopw [8] (fun _ wr=>∃ (left:Lit→Bool) (cnt:Nat),wr.ranges Tryz.prog 3 secR b w.heap.size N (Fk (behind n) es0 left) left cnt∧w.grownBy wr (some b))
  (fun _ wr=>wr.rangeLeft b w.heap.size)
 case atStart=>exact ⟨_,_,by rw [Fk_start hkeys];exact hrg0,hg0.but _⟩
 case round=>
  obtain ⟨left,cnt,hrg,hgw⟩:=hrel
  go_wp2_with (first
   | (at_next;refine wpList_next_ranges _ rfl _ rfl 3 K secR id id (fun key _ _=>⟨key,rfl⟩) (fun v _ _=>⟨v,rfl⟩) b w.heap.size N _ _ _ rfl hrg ?_ ?_)
   | go_in)
  ·intro _ hl0
   go_wp2
   go_end0
   exact ⟨rfl,by rw [←Fk_end hl0];exact hrg.owns,hgw⟩
  ·intro x c kl yd yp w1 cnt1 hkey hlx hv hat hrg1 hlt hg1 hs1 hen
   clear hs1
   have hgw1:=hgw.andThen hg1 (fun j hj=>by cases hj;exact Or.inl (Nat.le_refl _))
   obtain ⟨k,ex,rfl,hwk⟩:=keyOf_int_inv Tryz.underlying3 hkey
   (try simp only [id_eq]at ex hv hen)
   subst ex
   obtain ⟨p,hp,hpe⟩:=at_mem hat
   obtain ⟨i,hi⟩:=HES.out p (List.mem_filter.1 hp).1
   have hyd:yd=secD (was old i):=hpe.symm.trans hi
   subst hyd
   have hcv:=secR_inv hv
   subst hcv
   have hl:=HSO.out i
   obtain ⟨X,hX⟩:∃ X,X=was old i:=⟨_,rfl⟩
   rw [←hX]at hl hen
   have HX:=hid hX;have HL:=hid hl
   clear hp hpe hi hX hl
   have hbl:=hrg1.owns.lt
   have hrl:=hrg1.lt
   -- the element's own variable
   obtain ⟨w2,hw2⟩:∃ w2,w2=(w1.alloc (.cells NN 136)).setRow w1.heap.size (bs X).toArray:=⟨_,rfl⟩
   have hB2:Below w1.heap.size w1 w2:=by rw [hw2];exact below_setRow ((Below.refl _ _).alloc (Nat.le_refl _) _) (Nat.le_refl _) _
   have hG2:w2.heap[w1.heap.size]? = some (.cells (bs X).toArray 136 (0,0)):=by rw [hw2];exact setRow_heap _ _ _ _ _ _ (heap_alloc_new _ _)
   have st:(storeVar 136 ⟨w1.heap.size,0,none⟩ (secV X)).run Tryz.prog (w1.alloc (.cells NN 136))=.ok () w2:=by
    rw [hw2];exact store80 (cur:=NN.toList) HL.out (by rw [HN.out];simp [bs_length,noughts_length]) (by rw [heap_alloc_new])
   have ld:(loadVar 136 ⟨w1.heap.size,0,none⟩).run Tryz.prog w2=.ok (secV X) w2:=load80 HL.out (fun j v hj=>by
    simp only [World.cell?,Addr.add_lit,hG2,Nat.zero_add]
    simpa using hj)
   have hgw2:=hgw1.andThen (grown_of hB2) (fun j hj=>by cases hj)
   have hc2:=hgw2.cell HC.out (by intro e;cases e;exact hBb rfl)
   have hc3:=hid (cut1_any B n k X w2 hc2)
   have ST:=hid st;have LD:=hid ld;have HB2:=hid hB2
   clear st ld hB2 hG2 hw2 hc2
   have hpd:behind n (.int .i64 k) (secD X)=decide ((n:Int)≤k):=rfl
   cases hpn:decide ((n:Int)≤k)<;>rw [hpn]at hc3 hpd
   ·go_wp2_with (first
     | ((with_reducible refine here_op 5 ?_);refine wpList_alloc_run rfl 136 rfl _ _ (AL.out _) ?_)
     | ((with_reducible refine here_store 136 ?_);refine wpList_store_run rfl 136 (.tmp 5) (.tmp 12) rfl ⟨w1.heap.size,0,none⟩ rfl (secV X) rfl _ ST.out ?_)
     | ((with_reducible refine here_op 15 ?_);refine wpList_load_run rfl 136 (.tmp 5) rfl ⟨w1.heap.size,0,none⟩ rfl _ LD.out ?_)
     | (go_at_call 155;refine hc3.out.mono ?_;rintro e w3 ⟨rfl,hg3⟩;replace hg3:=hid hg3))
    have hg3':=grown_of (gt HB2.out hg3.out)
    have hrg2:=hrg1.kept hg3' (by simp) (by simp)
    go_roundw
    case rel=>exact ⟨_,cnt1,by rw [←Fk_stays hap (K.key hkey) hlx (by rw [←HX.out];exact hpd) hat];exact hrg2,hgw1.andThen hg3' (fun j hj=>by cases hj)⟩
    case measure=>rw [hrg2.left_eq,hrg.left_eq];exact hlt
   ·go_wp2_with (first
     | ((with_reducible refine here_op 5 ?_);refine wpList_alloc_run rfl 136 rfl _ _ (AL.out _) ?_)
     | ((with_reducible refine here_store 136 ?_);refine wpList_store_run rfl 136 (.tmp 5) (.tmp 12) rfl ⟨w1.heap.size,0,none⟩ rfl (secV X) rfl _ ST.out ?_)
     | ((with_reducible refine here_op 15 ?_);refine wpList_load_run rfl 136 (.tmp 5) rfl ⟨w1.heap.size,0,none⟩ rfl _ LD.out ?_)
     | (go_at_call 155;refine hc3.out.mono ?_;rintro e w3 ⟨rfl,hg3⟩;replace hg3:=hid hg3;have hg3':=hid (grown_of (gt HB2.out hg3.out));have hrg2:=hrg1.kept hg3'.out (by simp) (by simp))
     | (at_delete;refine wpList_delete_ranges _ rfl _ _ 78 3 rfl 136 K Tryz.underlying78 secR b w.heap.size N _ _ _ rfl hrg2 _ _ rfl hkey ?_;intro w4 cnt4 hrg4 hle hturn;go_frame))
    rw [strike_twice]at hrg4
    go_roundw
    case rel=>exact ⟨_,cnt4,by rw [←Fk_struck hap (K.key hkey) hlx (by rw [←HX.out];exact hpd) hat];exact hrg4,(hgw1.andThen hg3'.out (fun j hj=>by cases hj)).andThen hturn.grown (fun j hj=>by cases hj;exact Or.inr rfl)⟩
    case measure=>rw [hrg4.left_eq,hrg.left_eq];omega
end Dsk
namespace Dsk
open Go.RowKit Go.Maps
def cutF(F:FS)(n:Nat):FS:=⟨F.now.take n,F.old.take n++List.replicate (n - F.old.length) noughts,F.dirt.take n⟩
theorem cutF_old(F:FS)(n:Nat):(cutF F n).old.length=n:=by simp [cutF];omega
theorem cutF_now(F:FS)(n:Nat)(h:n≤F.now.length):(cutF F n).now.length=n:=by simp [cutF];omega
theorem cutF_was(F:FS)(n i:Nat)(h:i<n):was (cutF F n).old i=was F.old i:=by
 simp only [was,cutF,List.getD,List.getElem?_append,List.length_take,List.getElem?_take,List.getElem?_replicate]
 by_cases h1:i<F.old.length
 ·rw [if_pos (by omega),if_pos h]
 ·rw [if_neg (by omega),if_pos (by omega),List.getElem?_eq_none (by omega)];rfl
theorem cutF_ok{F:FS}(ok:F.Ok){n:Nat}(h:n≤F.now.length):(cutF F n).Ok:=by
 refine ⟨by simp [cutF,ok.ld],by rw [cutF_old,cutF_now F n h];exact Nat.le_refl _,fun x hx=>ok.sn x (List.mem_of_mem_take hx),fun x hx=>?_,fun i hi hd=>?_⟩
 ·rcases List.mem_append.1 hx with h1 |h1
  ·exact ok.so x (List.mem_of_mem_take h1)
  ·rw [List.eq_of_mem_replicate h1];exact noughts_length
 ·rw [cutF_now F n h]at hi
  refine ⟨by rw [cutF_old];exact hi,?_⟩
  rw [cutF_was F n i hi]
  have e1:(cutF F n).dirt.getD i false=F.dirt.getD i false:=by simp [cutF,List.getD,hi]
  have e2:(cutF F n).now.getD i []=F.now.getD i []:=by simp [cutF,List.getD,hi]
  rw [e1]at hd;rw [e2]
  exact (ok.cl i (by omega) hd).2
theorem cut_raw(p o n L cap:Nat)(ao:Option Addr)(s:Int)(m:Nat)(w:World)(R:World→Prop)
  (c0:w.cell? ⟨p,o,none⟩=some (.slice ao L cap)) (c1:w.cell? ⟨p,o+1,none⟩=some (.int .i64 s)) (c2:w.cell? ⟨p,o+2,none⟩=some (.map (some m)))
  (f0:w.frozen? ⟨p,o,none⟩=false) (f1:w.frozen? ⟨p,o+1,none⟩=false) (hn:n≤L) (hL:L≤cap)
  (hdo:Calls Tryz.prog 154 #[.map (some m),.func (.func 155) #[] #[.pointer (some ⟨w.heap.size,0,none⟩)]] ((((w.setCell ⟨p,o,none⟩ (.slice ao n cap)).setCell ⟨p,o+1,none⟩ (.int .i64 (n:Int))).alloc (.cells #[.int .i64 (n:Int)] 3)).drew) fun e w'=>e=.returned (.tuple #[])∧R w') :
  Calls Tryz.prog 130 #[.pointer (some ⟨p,o,none⟩),.int .i64 (n:Int)] w fun e w'=>e=.returned (.tuple #[])∧R w':=by
 have hp:p<w.heap.size:=lt_cell c0
 have hp':¬p=w.heap.size:=by omega
 have hn':(n:Int)≤(cap:Int):=by omega
 have HD:=hid hdo
 clear hdo
 go_enter Tryz.func130,Tryz.ntmps130
 go_wp2_with fail
 go_region
 go_wp2_with (go_at_call 154;refine HD.out.mono ?_;rintro e w3 ⟨rfl,hR⟩;replace hR:=hid hR)
 go_end0
 exact ⟨rfl,hR.out⟩
theorem cut_any(p o cap m n:Nat)(S:Nat→Prop)(ao:Option Addr)(F:FS)(w:World)(h:FileAt w p o S ao cap m F)(ok:F.Ok)(hn:n≤F.now.length) :
  Calls Tryz.prog 130 #[.pointer (some ⟨p,o,none⟩),.int .i64 (n:Int)] w fun e w'=>e=.returned (.tuple #[])∧FileAt w' p o (From S w) ao cap m (cutF F n)∧FFrame w w' p o S:=by
 have hcap:F.now.length≤cap:=by
  rcases h.row.2 with ⟨_,hz⟩ | ⟨g,cap',cur,hv',_,_,hnc,_⟩
  ·omega
  ·simp only [Value.slice.injEq]at hv';obtain ⟨_,_,rfl⟩:=hv';exact hnc
 have hpl:=h.plt
 obtain ⟨w2,hw2⟩:∃ w2,w2=((((w.setCell ⟨p,o,none⟩ (.slice ao n cap)).setCell ⟨p,o+1,none⟩ (.int .i64 (n:Int))).alloc (.cells #[.int .i64 (n:Int)] 3)).drew):=⟨_,rfl⟩
 have hs:((w.setCell ⟨p,o,none⟩ (.slice ao n cap)).setCell ⟨p,o+1,none⟩ (.int .i64 (n:Int))).heap.size=w.heap.size:=by simp
 have hsz:w2.heap.size=w.heap.size+1:=by rw [hw2];simp
 have hcell:∀ i,w2.cell? ⟨p,i,none⟩=((w.setCell ⟨p,o,none⟩ (.slice ao n cap)).setCell ⟨p,o+1,none⟩ (.int .i64 (n:Int))).cell? ⟨p,i,none⟩:=fun i=>by
  rw [hw2];exact World.cell?_alloc_lt _ _ _ (by rw [hs];exact hpl)
 have hblk:∀ k,k<w.heap.size→k≠p→w2.heap[k]? = w.heap[k]?:=fun k hk hkp=>by
  rw [hw2]
  exact (heap_alloc_old _ _ _ (by rw [hs];exact hk)).trans ((set_heap _ _ _ _ _ hkp).trans (set_heap _ _ _ _ _ hkp))
 have hfz:∀ i,w2.frozen? ⟨p,i,none⟩=w.frozen? ⟨p,i,none⟩:=fun i=>by
  rw [hw2]
  refine (World.frozen?_alloc_old _ _ _ (by rw [hs];exact Nat.ne_of_lt hpl)).trans ?_
  rw [World.frozen?_setCell,World.frozen?_setCell]
 have hB:w2.cell? ⟨w.heap.size,0,none⟩=some (.int .i64 (n:Int)):=by
  rw [hw2];exact (World.cell?_alloc_at _ _ _ _ hs.symm).trans rfl
 have hmp:m≠p:=fun e=>h.np (e▸h.inm)
 have hml:=h.map.lt
 have hmap2:w2.ownsMap Tryz.prog 3 secR m (idx F.dirt).length (dirtD F.dirt F.old):=map_stay h.map (hblk m hml hmp)
 have cd:=delete_secs F.dirt F.old n w.heap.size m _ w2 (was_len ok) hmap2 hB (by omega)
 rw [hw2]at cd
 refine (cut_raw p o n F.now.length cap ao _ m w _ h.c0 h.c1 h.c2 h.f0 h.f1 hn hcap cd).mono ?_
 rintro e w' ⟨rfl,hm',hg⟩
 rw [←hw2]at hg
 have e1:Lib.deleteFuncD (behind n) (dirtD F.dirt F.old)=dirtD (cutF F n).dirt (cutF F n).old:=cut_dirt F.dirt F.old _ n (cutF_was F n)
 rw [e1]at hm'
 have hm2:=tight hm'
 rw [size_dirt]at hm2
 have hc':∀ i,w'.cell? ⟨p,i,none⟩=w2.cell? ⟨p,i,none⟩:=fun i=>World.cell?_of_block (hg.block p (by omega) (fun e=>by cases e;exact hmp rfl))
 have hf':∀ i,w'.frozen? ⟨p,i,none⟩=w2.frozen? ⟨p,i,none⟩:=fun i=>World.frozen?_of_block (hg.block p (by omega) (fun e=>by cases e;exact hmp rfl))
 refine ⟨rfl,⟨?_,?_,?_,?_,?_,?_,?_,hm2,?_,fun a ha=>Or.inl (h.ina a ha),Or.inl h.inm⟩,⟨?_,?_,?_,?_,?_,?_,?_⟩⟩
 ·rw [hc',hcell,set_off _ _ _ (by omega),cutF_now F n hn];exact set_same h.c0
 ·rw [hc',hcell,cutF_old];exact set_same ((set_off _ _ _ (by omega)).trans h.c1)
 ·rw [hc',hcell,set_off _ _ _ (by omega),set_off _ _ _ (by omega)];exact h.c2
 ·rw [hf',hfz];exact h.f0
 ·rw [hf',hfz];exact h.f1
 ·rw [hf',hfz];exact h.f2
 ·refine row_stay (row_cut h.row ok.sn n hn) (fun a ha=>?_)
  have hab:=h.row_block a ha
  have hal:=row_lt h.row a ha
  exact (hg.block a.block (by omega) (fun e=>by cases e;exact hab.1 rfl)).trans (hblk _ hal hab.2)
 ·rintro (h1 |h1)
  ·exact h.np h1
  ·omega
 ·rw [hg.os,hw2];rfl
 ·rw [hg.tape,hw2];rfl
 ·rw [hg.output,hw2];rfl
 ·have:=hg.size;omega
 ·intro k hk hkp hkS
  exact (hg.block k (by omega) (fun e=>by cases e;exact hkS h.inm)).trans (hblk k hk hkp)
 ·intro i h0 h1 h2
  rw [hc',hcell,set_off _ _ _ (by omega),set_off _ _ _ (by omega)]
 ·intro i;rw [hf',hfz]
end Dsk
end Go.Proofs.YtadhdedjdgjboaaGreatDoor
