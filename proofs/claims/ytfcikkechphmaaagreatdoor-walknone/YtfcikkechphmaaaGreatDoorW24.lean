/- What Write does to a disk; no statement of the seat is proved here. -/
import Derived.Test.YtfcikkechphmaaaGreatDoorW23
import Derived.Test.YtfcikkechphmaaaGreatDoorW12
set_option maxHeartbeats 16000000
set_option maxRecDepth 20000
namespace Go.Proofs.YtfcikkechphmaaaGreatDoor
namespace Dsk
open Go.RowKit Go.Maps
def DS.file(d:DS)(f:Int):FS:=if f=0 then d.f0 else d.f1
def DS.put(d:DS)(f:Int)(F:FS):DS:=if f=0 then { d with f0:=F } else { d with f1:=F }
def writeD(d:DS)(f at_:Int)(ss:List Sec):Int×DS:=
 if d.off then (4,d) else if !known f then (11,d) else if at_<0∨((d.file f).now.length:Int)<at_ then (11,d) else if ss.length=0 then (2,d)
 else if d.left=1 then (4,crashD (opsD d) d.keep d.torn) else if fullD d (d.file f).now.length (at_.toNat+ss.length) then (3,tickD d) else (0,(tickD d).put f (wrN (d.file f) at_.toNat ss))
variable {S:Nat→Prop} {p:Nat} {w w':World}
theorem DFrame.cellAt(h:DFrame w w' p S){a:Addr}{v:Value}(hc:w.cell? a=some v)(hp:a.block≠p)(hS:¬S a.block):w'.cell? a=some v:=
 (World.cell?_of_block (h.block a.block (lt_cell hc) hp hS)).trans hc
theorem DFrame.drawn(h:DFrame w w' p S)(n:Nat):DFrame w (w'.drewN n) p S:=⟨h.os,h.tape,h.output,h.size,h.block⟩
theorem write_off(p:Nat)(P:Parts)(d:DS)(f at_:Int)(bo:Option Addr)(bn bc:Nat)(w:World)(h:DiskP w p P d)(hx:d.off=true∨known f=false) :
  Calls Tryz.prog 276 #[.pointer (some ⟨p,0,none⟩),.int .i64 f,.int .i64 at_,.slice bo bn bc] w fun e w'=>e=.returned (.int .i64 (if d.off then 4 else 11))∧Below w.heap.size w w':=by
 have hb:Below w.heap.size w (((w.alloc (.cells #[.pointer (some ⟨p,0,none⟩)] 103)).alloc (.cells #[.int .i64 at_] 3)).alloc (.cells #[.slice bo bn bc] 48)):=(by repeat (first |with_reducible exact Below.refl _ _ |with_reducible assumption |with_reducible refine Below.drew ?_ |with_reducible refine below_drewN ?_ _ |with_reducible refine Below.alloc ?_ (by simp<;>omega) _ |with_reducible refine Below.setCell ?_ (by simp<;>omega) _))
 have HB:=hid hb
 have c:Calls Tryz.prog 215 #[.pointer (some ⟨p,0,none⟩),.int .i64 f] (((w.alloc (.cells #[.pointer (some ⟨p,0,none⟩)] 103)).alloc (.cells #[.int .i64 at_] 3)).alloc (.cells #[.slice bo bn bc] 48)) fun e w'=>e=.returned (.int .i64 (if d.off then 4 else 11))∧w'=(((w.alloc (.cells #[.pointer (some ⟨p,0,none⟩)] 103)).alloc (.cells #[.int .i64 at_] 3)).alloc (.cells #[.slice bo bn bc] 48)):=by
  cases ho:d.off
  ·have hk:known f=false:=by rcases hx with h |h;rw [ho]at h;cases h;exact h
   have:=fault_on p P d f _ (h.later hb) ho
   rw [hk]at this;exact this
  ·exact fault_off p P d f _ (h.later hb) ho
 obtain ⟨r,hr,hr0⟩:∃ r:Int,r=(if d.off then 4 else 11)∧(r == 0)=false:=⟨_,rfl,by cases d.off<;>rfl⟩
 rw [←hr]at c ⊢
 have C:=hid c
 clear c hb h hx hr
 go_enter Tryz.func276,Tryz.ntmps276
 go_wp2_with (go_at_call 215;refine C.out.mono ?_;rintro e w' ⟨rfl,hw⟩;subst hw)
 go_ret
 exact ⟨rfl,HB.out⟩
theorem write_0(p:Nat)(P:Parts)(d:DS)(at_:Int)(bo:Option Addr)(bn bc:Nat)(ss:List Sec)(w:World)(h:DiskP w p P d)(ho:d.off=false)(hop:d.ops<1000000000)
  (hss:∀ x∈ss,x.length=128) (hsl:ss.length≤1000) (hn:bn=ss.length*128) (hb:∀ w',DFrame w w' p P.all→Rd w' bo bn bc ss.flatten) :
  Calls Tryz.prog 276 #[.pointer (some ⟨p,0,none⟩),.int .i64 0,.int .i64 at_,.slice bo bn bc] w fun e w'=>e=.returned (.int .i64 (writeD d 0 at_ ss).1)∧(∃ P',DiskP w' p P' (writeD d 0 at_ ss).2∧Grew P w P')∧DFrame w w' p P.all:=by
 obtain ⟨w3,hw3⟩:∃ w3,w3=(((w.alloc (.cells #[.pointer (some ⟨p,0,none⟩)] 103)).alloc (.cells #[.int .i64 at_] 3)).alloc (.cells #[.slice bo bn bc] 48)):=⟨_,rfl⟩
 have hb3:Below w.heap.size w w3:=by rw [hw3];exact (by repeat (first |with_reducible exact Below.refl _ _ |with_reducible assumption |with_reducible refine Below.drew ?_ |with_reducible refine below_drewN ?_ _ |with_reducible refine Below.alloc ?_ (by simp<;>omega) _ |with_reducible refine Below.setCell ?_ (by simp<;>omega) _))
 have hpl:=h.f0.plt
 have h3:=h.later hb3
 have cf:=fault_on p P d 0 w3 h3 ho
 rw [show known 0=true from rfl,if_pos rfl]at cf
 have k4:w3.cell? ⟨w.heap.size,0,none⟩=some (.pointer (some ⟨p,0,none⟩)):=by rw [hw3,World.cell?_alloc_past _ _ _ (by simp;omega),World.cell?_alloc_past _ _ _ (by simp),World.cell?_alloc_at _ _ _ _ rfl];rfl
 have k6:w3.cell? ⟨w.heap.size+1,0,none⟩=some (.int .i64 at_):=by rw [hw3,World.cell?_alloc_past _ _ _ (by simp),World.cell?_alloc_at _ _ _ _ (by simp)];rfl
 have k7:w3.cell? ⟨w.heap.size+1+1,0,none⟩=some (.slice bo bn bc):=by rw [hw3,World.cell?_alloc_at _ _ _ _ (by simp)];rfl
 have z3:w3.heap.size=w.heap.size+1+1+1:=by rw [hw3];simp
 -- the file's address is boxed
 obtain ⟨w4,hw4⟩:∃ w4,w4=w3.alloc (.cells #[.pointer (some ⟨p,3,none⟩)] 257):=⟨_,rfl⟩
 have hb4:Below w3.heap.size w3 w4:=by rw [hw4];exact (Below.refl _ _).alloc (Nat.le_refl _) _
 have h4:=h3.later hb4
 have k4':=keep_old hb4 k4;have k6':=keep_old hb4 k6;have k7':=keep_old hb4 k7
 have k10:w4.cell? ⟨w3.heap.size,0,none⟩=some (.pointer (some ⟨p,3,none⟩)):=by rw [hw4,World.cell?_alloc_at _ _ _ _ rfl];rfl
 have c3:=h4.f0.c0
 have CF:=hid cf;have H:=hid h;have H4:=hid h4;have HB:=hid (gt hb3 hb4);have HW3:=hid hw3;have HW4:=hid hw4;have HBB:=hid hb;have HSS:=hid hss;have Z3:=hid z3;have HN:=hid hn
 have hr2:=h.ok.r2;have hsum:=h.ok.sum
 have hfile:d.file 0=d.f0:=rfl
 have K4:=hid k4';have K6:=hid k6';have K7:=hid k7';have K10:=hid k10
 clear h h3 h4 hb3 hb4 cf k6 k7 hb hss z3 hw3 hw4 hn
 have HK4:=hid k4
 obtain ⟨x4,hx4⟩:∃ x,x=w.heap.size:=⟨_,rfl⟩
 obtain ⟨L,hLL⟩:∃ L,L=d.f0.now.length:=⟨_,rfl⟩
 rw [←hLL]at c3
 have hlb:L≤32768:=by omega
 have HLL:=hid hLL
 have hwd:writeD d 0 at_ ss=if at_<0∨(L:Int)<at_ then (11,d) else if ss.length=0 then (2,d) else if d.left=1 then (4,crashD (opsD d) d.keep d.torn) else if fullD d L (at_.toNat+ss.length) then (3,tickD d) else (0,(tickD d).put 0 (wrN d.f0 at_.toNat ss)):=by
  simp only [writeD,ho,hfile,←hLL];rfl
 rw [hwd]
 clear hwd hLL hfile hx4 x4
 by_cases hneg:at_<0
 ·rw [if_pos (Or.inl hneg)]
  go_enter Tryz.func276,Tryz.ntmps276
  go_wp2_with (go_at_call 215;rw [←HW3.out];refine CF.out.mono ?_;rintro e wx ⟨rfl,hwx⟩;obtain rfl:=hwx;clear CF)
  rw [←HW4.out]
  go_quiet (fail)
  go_wp2
  go_ret
  exact ⟨rfl,⟨P,H4.out.drawn nq,fun k hk=>Or.inl hk⟩,(DFrame.below HB.out).drawn nq⟩
 ·have hneg':decide (at_<0)=false:=by simp;omega
  by_cases hbig:(L:Int)<at_
  ·rw [if_pos (Or.inr hbig)]
   go_enter Tryz.func276,Tryz.ntmps276
   go_wp2_with (go_at_call 215;rw [←HW3.out];refine CF.out.mono ?_;rintro e wx ⟨rfl,hwx⟩;obtain rfl:=hwx;clear CF)
   rw [←HW4.out]
   go_quiet (fail)
   go_wp2
   go_ret
   exact ⟨rfl,⟨P,H4.out.drawn nq,fun k hk=>Or.inl hk⟩,(DFrame.below HB.out).drawn nq⟩
  ·have hbig':decide ((L:Int)<at_)=false:=by simp;omega
   rw [if_neg (by omega)]
   by_cases hs0:ss.length=0
   ·have hb0:bn=0:=by have:=HN.out;omega
    rw [if_pos hs0]
    subst hb0
    go_enter Tryz.func276,Tryz.ntmps276
    go_wp2_with (go_at_call 215;rw [←HW3.out];refine CF.out.mono ?_;rintro e wx ⟨rfl,hwx⟩;obtain rfl:=hwx;clear CF)
    rw [←HW4.out]
    go_quiet (fail)
    go_wp2
    go_ret
    exact ⟨rfl,⟨P,H4.out.drawn nq,fun k hk=>Or.inl hk⟩,(DFrame.below HB.out).drawn nq⟩
   ·have hb0:((bn:Int) == 0)=false:=by have:=HN.out;simp;omega
    have hbm:(bn:Int).tmod 128=0:=by rw [HN.out];simp
    rw [if_neg hs0]
    have hbn:(bn:Int)≤128000:=by have:=HN.out;omega
    have hz:w.heap.size≤w4.heap.size:=HB.out.size
    by_cases hl1:d.left=1
    ·rw [if_pos hl1]
     have co:=fun n=>operate_crash p P d (.func (.func 315) #[] #[.pointer (some ⟨w.heap.size+1,0,none⟩),.pointer (some ⟨w.heap.size+1+1,0,none⟩),.pointer (some ⟨w3.heap.size,0,none⟩),.pointer (some ⟨w.heap.size,0,none⟩)]) (w4.drewN n) (H4.out.drawn n) ho hl1 hop
     have CO:=hid co
     clear co
     go_enter Tryz.func276,Tryz.ntmps276
     go_wp2_with (go_at_call 215;rw [←HW3.out];refine CF.out.mono ?_;rintro e wx ⟨rfl,hwx⟩;obtain rfl:=hwx;clear CF)
     rw [←HW4.out]
     go_quiet (fail)
     go_wp2_with (go_at_call 267;refine (CO.out _).mono ?_;rintro e w9 ⟨rfl,⟨P',hd9,hg9⟩,hf9⟩;replace hd9:=hid hd9;replace hg9:=hid hg9;replace hf9:=hid hf9)
     go_ret
     exact ⟨rfl,⟨P',hd9.out,fun k hk=>by rcases hg9.out k hk with h |h;exact Or.inl h;exact Or.inr (Nat.le_trans hz h)⟩,((DFrame.below HB.out).drawn nq).trans (hf9.out.imp (fun _ _ h=>Or.inl h))⟩
    ·rw [if_neg hl1]
     obtain ⟨A,rfl⟩:=Int.eq_ofNat_of_zero_le (show 0≤at_ by omega)
     rw [Int.toNat_natCast]
     have hAL:A≤d.f0.now.length:=by rw [←HLL.out];omega
     have co:=fun n=>operate_do p P d 315 #[.pointer (some ⟨w.heap.size+1,0,none⟩),.pointer (some ⟨w.heap.size+1+1,0,none⟩),.pointer (some ⟨w3.heap.size,0,none⟩),.pointer (some ⟨w.heap.size,0,none⟩)] (w4.drewN n) (H4.out.drawn n) hl1 hop (enters_of Tryz.func315 (by kernel_rfl) rfl)
      (fun x w'=>x=(if fullD d L (A+ss.length) then 3 else 0)∧(∃ P',DiskP w' p P' (if fullD d L (A+ss.length) then tickD d else (tickD d).put 0 (wrN d.f0 A ss))∧Grew P w P')∧DFrame w w' p P.all) (fun w1 h1 hf1=>by
       have hz3:w.heap.size+1+1+1=w3.heap.size:=Z3.out.symm
       have hfw:DFrame w w1 p P.all:=((DFrame.below HB.out).drawn n).trans (hf1.imp (fun _ _ h=>h.elim))
       have cw:=write1_0 p P (tickD d) (w.heap.size+1) (w.heap.size+1+1) w3.heap.size w.heap.size A bo bn bc ss w1 h1
        (hf1.cellAt (w:=w4.drewN n) K6.out (by show w.heap.size+1≠p;omega) (fun h=>h)) (hf1.cellAt (w:=w4.drewN n) K7.out (by show w.heap.size+1+1≠p;omega) (fun h=>h)) (hf1.cellAt (w:=w4.drewN n) K10.out (by show w3.heap.size≠p;omega) (fun h=>h)) (hf1.cellAt (w:=w4.drewN n) K4.out (by show w.heap.size≠p;omega) (fun h=>h))
        hAL HSS.out hsl HN.out (fun w' hf=>HBB.out w' (hfw.trans (hf.df.imp (fun _ _ h=>Or.inl (Or.inl h)))))
       rw [HLL.out]
       refine cw.mono ?_
       rintro e w2 ⟨x,rfl,hx,⟨P',hd,hg⟩,hf⟩
       refine ⟨x,rfl,hx,⟨P',hd,fun k hk=>?_⟩,hfw.trans (hf.imp (fun _ _ h=>Or.inl h))⟩
       rcases hg k hk with h |h
       ·exact Or.inl h
       ·exact Or.inr (Nat.le_trans hfw.size h))
     have CO:=hid co
     clear co
     generalize hres:(if fullD d L (A+ss.length)=true then ((3:Int),tickD d) else (0,(tickD d).put 0 (wrN d.f0 A ss)))=res
     have h1:(if fullD d L (A+ss.length)=true then (3:Int) else 0)=res.1:=by rw [←hres];split<;>rfl
     have h2:(if fullD d L (A+ss.length)=true then tickD d else (tickD d).put 0 (wrN d.f0 A ss))=res.2:=by rw [←hres];split<;>rfl
     rw [h1,h2]at CO
     clear h1 h2 hres
     go_enter Tryz.func276,Tryz.ntmps276
     go_wp2_with (go_at_call 215;rw [←HW3.out];refine CF.out.mono ?_;rintro e wx ⟨rfl,hwx⟩;obtain rfl:=hwx;clear CF)
     rw [←HW4.out]
     go_quiet (fail)
     go_wp2_with (go_at_call 267;refine (CO.out _).mono ?_;rintro e w9 ⟨x,rfl,hx,hd9,hf9⟩;replace hx:=hid hx;replace hd9:=hid hd9;replace hf9:=hid hf9)
     go_ret
     exact ⟨by rw [←hx.out];rfl,hd9.out,hf9.out⟩
theorem write_1(p:Nat)(P:Parts)(d:DS)(at_:Int)(bo:Option Addr)(bn bc:Nat)(ss:List Sec)(w:World)(h:DiskP w p P d)(ho:d.off=false)(hop:d.ops<1000000000)
  (hss:∀ x∈ss,x.length=128) (hsl:ss.length≤1000) (hn:bn=ss.length*128) (hb:∀ w',DFrame w w' p P.all→Rd w' bo bn bc ss.flatten) :
  Calls Tryz.prog 276 #[.pointer (some ⟨p,0,none⟩),.int .i64 1,.int .i64 at_,.slice bo bn bc] w fun e w'=>e=.returned (.int .i64 (writeD d 1 at_ ss).1)∧(∃ P',DiskP w' p P' (writeD d 1 at_ ss).2∧Grew P w P')∧DFrame w w' p P.all:=by
 obtain ⟨w3,hw3⟩:∃ w3,w3=(((w.alloc (.cells #[.pointer (some ⟨p,0,none⟩)] 103)).alloc (.cells #[.int .i64 at_] 3)).alloc (.cells #[.slice bo bn bc] 48)):=⟨_,rfl⟩
 have hb3:Below w.heap.size w w3:=by rw [hw3];exact (by repeat (first |with_reducible exact Below.refl _ _ |with_reducible assumption |with_reducible refine Below.drew ?_ |with_reducible refine below_drewN ?_ _ |with_reducible refine Below.alloc ?_ (by simp<;>omega) _ |with_reducible refine Below.setCell ?_ (by simp<;>omega) _))
 have hpl:=h.f0.plt
 have h3:=h.later hb3
 have cf:=fault_on p P d 1 w3 h3 ho
 rw [show known 1=true from rfl,if_pos rfl]at cf
 have k4:w3.cell? ⟨w.heap.size,0,none⟩=some (.pointer (some ⟨p,0,none⟩)):=by rw [hw3,World.cell?_alloc_past _ _ _ (by simp;omega),World.cell?_alloc_past _ _ _ (by simp),World.cell?_alloc_at _ _ _ _ rfl];rfl
 have k6:w3.cell? ⟨w.heap.size+1,0,none⟩=some (.int .i64 at_):=by rw [hw3,World.cell?_alloc_past _ _ _ (by simp),World.cell?_alloc_at _ _ _ _ (by simp)];rfl
 have k7:w3.cell? ⟨w.heap.size+1+1,0,none⟩=some (.slice bo bn bc):=by rw [hw3,World.cell?_alloc_at _ _ _ _ (by simp)];rfl
 have z3:w3.heap.size=w.heap.size+1+1+1:=by rw [hw3];simp
 -- the file's address is boxed
 obtain ⟨w4,hw4⟩:∃ w4,w4=w3.alloc (.cells #[.pointer (some ⟨p,6,none⟩)] 257):=⟨_,rfl⟩
 have hb4:Below w3.heap.size w3 w4:=by rw [hw4];exact (Below.refl _ _).alloc (Nat.le_refl _) _
 have h4:=h3.later hb4
 have k4':=keep_old hb4 k4;have k6':=keep_old hb4 k6;have k7':=keep_old hb4 k7
 have k10:w4.cell? ⟨w3.heap.size,0,none⟩=some (.pointer (some ⟨p,6,none⟩)):=by rw [hw4,World.cell?_alloc_at _ _ _ _ rfl];rfl
 have c3:=h4.f1.c0
 have CF:=hid cf;have H:=hid h;have H4:=hid h4;have HB:=hid (gt hb3 hb4);have HW3:=hid hw3;have HW4:=hid hw4;have HBB:=hid hb;have HSS:=hid hss;have Z3:=hid z3;have HN:=hid hn
 have hr2:=h.ok.r2;have hsum:=h.ok.sum
 have hfile:d.file 1=d.f1:=rfl
 have K4:=hid k4';have K6:=hid k6';have K7:=hid k7';have K10:=hid k10
 clear h h3 h4 hb3 hb4 cf k6 k7 hb hss z3 hw3 hw4 hn
 have HK4:=hid k4
 obtain ⟨x4,hx4⟩:∃ x,x=w.heap.size:=⟨_,rfl⟩
 obtain ⟨L,hLL⟩:∃ L,L=d.f1.now.length:=⟨_,rfl⟩
 rw [←hLL]at c3
 have hlb:L≤32768:=by omega
 have HLL:=hid hLL
 have hwd:writeD d 1 at_ ss=if at_<0∨(L:Int)<at_ then (11,d) else if ss.length=0 then (2,d) else if d.left=1 then (4,crashD (opsD d) d.keep d.torn) else if fullD d L (at_.toNat+ss.length) then (3,tickD d) else (0,(tickD d).put 1 (wrN d.f1 at_.toNat ss)):=by
  simp only [writeD,ho,hfile,←hLL];rfl
 rw [hwd]
 clear hwd hLL hfile hx4 x4
 by_cases hneg:at_<0
 ·rw [if_pos (Or.inl hneg)]
  go_enter Tryz.func276,Tryz.ntmps276
  go_wp2_with (go_at_call 215;rw [←HW3.out];refine CF.out.mono ?_;rintro e wx ⟨rfl,hwx⟩;obtain rfl:=hwx;clear CF)
  rw [←HW4.out]
  go_quiet (fail)
  go_wp2
  go_ret
  exact ⟨rfl,⟨P,H4.out.drawn nq,fun k hk=>Or.inl hk⟩,(DFrame.below HB.out).drawn nq⟩
 ·have hneg':decide (at_<0)=false:=by simp;omega
  by_cases hbig:(L:Int)<at_
  ·rw [if_pos (Or.inr hbig)]
   go_enter Tryz.func276,Tryz.ntmps276
   go_wp2_with (go_at_call 215;rw [←HW3.out];refine CF.out.mono ?_;rintro e wx ⟨rfl,hwx⟩;obtain rfl:=hwx;clear CF)
   rw [←HW4.out]
   go_quiet (fail)
   go_wp2
   go_ret
   exact ⟨rfl,⟨P,H4.out.drawn nq,fun k hk=>Or.inl hk⟩,(DFrame.below HB.out).drawn nq⟩
  ·have hbig':decide ((L:Int)<at_)=false:=by simp;omega
   rw [if_neg (by omega)]
   by_cases hs0:ss.length=0
   ·have hb0:bn=0:=by have:=HN.out;omega
    rw [if_pos hs0]
    subst hb0
    go_enter Tryz.func276,Tryz.ntmps276
    go_wp2_with (go_at_call 215;rw [←HW3.out];refine CF.out.mono ?_;rintro e wx ⟨rfl,hwx⟩;obtain rfl:=hwx;clear CF)
    rw [←HW4.out]
    go_quiet (fail)
    go_wp2
    go_ret
    exact ⟨rfl,⟨P,H4.out.drawn nq,fun k hk=>Or.inl hk⟩,(DFrame.below HB.out).drawn nq⟩
   ·have hb0:((bn:Int) == 0)=false:=by have:=HN.out;simp;omega
    have hbm:(bn:Int).tmod 128=0:=by rw [HN.out];simp
    rw [if_neg hs0]
    have hbn:(bn:Int)≤128000:=by have:=HN.out;omega
    have hz:w.heap.size≤w4.heap.size:=HB.out.size
    by_cases hl1:d.left=1
    ·rw [if_pos hl1]
     have co:=fun n=>operate_crash p P d (.func (.func 315) #[] #[.pointer (some ⟨w.heap.size+1,0,none⟩),.pointer (some ⟨w.heap.size+1+1,0,none⟩),.pointer (some ⟨w3.heap.size,0,none⟩),.pointer (some ⟨w.heap.size,0,none⟩)]) (w4.drewN n) (H4.out.drawn n) ho hl1 hop
     have CO:=hid co
     clear co
     go_enter Tryz.func276,Tryz.ntmps276
     go_wp2_with (go_at_call 215;rw [←HW3.out];refine CF.out.mono ?_;rintro e wx ⟨rfl,hwx⟩;obtain rfl:=hwx;clear CF)
     rw [←HW4.out]
     go_quiet (fail)
     go_wp2_with (go_at_call 267;refine (CO.out _).mono ?_;rintro e w9 ⟨rfl,⟨P',hd9,hg9⟩,hf9⟩;replace hd9:=hid hd9;replace hg9:=hid hg9;replace hf9:=hid hf9)
     go_ret
     exact ⟨rfl,⟨P',hd9.out,fun k hk=>by rcases hg9.out k hk with h |h;exact Or.inl h;exact Or.inr (Nat.le_trans hz h)⟩,((DFrame.below HB.out).drawn nq).trans (hf9.out.imp (fun _ _ h=>Or.inl h))⟩
    ·rw [if_neg hl1]
     obtain ⟨A,rfl⟩:=Int.eq_ofNat_of_zero_le (show 0≤at_ by omega)
     rw [Int.toNat_natCast]
     have hAL:A≤d.f1.now.length:=by rw [←HLL.out];omega
     have co:=fun n=>operate_do p P d 315 #[.pointer (some ⟨w.heap.size+1,0,none⟩),.pointer (some ⟨w.heap.size+1+1,0,none⟩),.pointer (some ⟨w3.heap.size,0,none⟩),.pointer (some ⟨w.heap.size,0,none⟩)] (w4.drewN n) (H4.out.drawn n) hl1 hop (enters_of Tryz.func315 (by kernel_rfl) rfl)
      (fun x w'=>x=(if fullD d L (A+ss.length) then 3 else 0)∧(∃ P',DiskP w' p P' (if fullD d L (A+ss.length) then tickD d else (tickD d).put 1 (wrN d.f1 A ss))∧Grew P w P')∧DFrame w w' p P.all) (fun w1 h1 hf1=>by
       have hz3:w.heap.size+1+1+1=w3.heap.size:=Z3.out.symm
       have hfw:DFrame w w1 p P.all:=((DFrame.below HB.out).drawn n).trans (hf1.imp (fun _ _ h=>h.elim))
       have cw:=write1_1 p P (tickD d) (w.heap.size+1) (w.heap.size+1+1) w3.heap.size w.heap.size A bo bn bc ss w1 h1
        (hf1.cellAt (w:=w4.drewN n) K6.out (by show w.heap.size+1≠p;omega) (fun h=>h)) (hf1.cellAt (w:=w4.drewN n) K7.out (by show w.heap.size+1+1≠p;omega) (fun h=>h)) (hf1.cellAt (w:=w4.drewN n) K10.out (by show w3.heap.size≠p;omega) (fun h=>h)) (hf1.cellAt (w:=w4.drewN n) K4.out (by show w.heap.size≠p;omega) (fun h=>h))
        hAL HSS.out hsl HN.out (fun w' hf=>HBB.out w' (hfw.trans (hf.df.imp (fun _ _ h=>Or.inl (Or.inr (Or.inl h))))))
       rw [HLL.out]
       refine cw.mono ?_
       rintro e w2 ⟨x,rfl,hx,⟨P',hd,hg⟩,hf⟩
       refine ⟨x,rfl,hx,⟨P',hd,fun k hk=>?_⟩,hfw.trans (hf.imp (fun _ _ h=>Or.inl h))⟩
       rcases hg k hk with h |h
       ·exact Or.inl h
       ·exact Or.inr (Nat.le_trans hfw.size h))
     have CO:=hid co
     clear co
     generalize hres:(if fullD d L (A+ss.length)=true then ((3:Int),tickD d) else (0,(tickD d).put 1 (wrN d.f1 A ss)))=res
     have h1:(if fullD d L (A+ss.length)=true then (3:Int) else 0)=res.1:=by rw [←hres];split<;>rfl
     have h2:(if fullD d L (A+ss.length)=true then tickD d else (tickD d).put 1 (wrN d.f1 A ss))=res.2:=by rw [←hres];split<;>rfl
     rw [h1,h2]at CO
     clear h1 h2 hres
     go_enter Tryz.func276,Tryz.ntmps276
     go_wp2_with (go_at_call 215;rw [←HW3.out];refine CF.out.mono ?_;rintro e wx ⟨rfl,hwx⟩;obtain rfl:=hwx;clear CF)
     rw [←HW4.out]
     go_quiet (fail)
     go_wp2_with (go_at_call 267;refine (CO.out _).mono ?_;rintro e w9 ⟨x,rfl,hx,hd9,hf9⟩;replace hx:=hid hx;replace hd9:=hid hd9;replace hf9:=hid hf9)
     go_ret
     exact ⟨by rw [←hx.out];rfl,hd9.out,hf9.out⟩
theorem known_cases{f:Int}(h:known f=true):f=0∨f=1:=by
 simp only [known,Bool.or_eq_true,beq_iff_eq]at h;exact h
theorem write_call(p:Nat)(P:Parts)(d:DS)(f at_:Int)(bo:Option Addr)(bn bc:Nat)(ss:List Sec)(w:World)(h:DiskP w p P d)(hop:d.ops<1000000000)
  (hss:∀ x∈ss,x.length=128) (hsl:ss.length≤1000) (hn:bn=ss.length*128) (hb:∀ w',DFrame w w' p P.all→Rd w' bo bn bc ss.flatten) :
  Calls Tryz.prog 276 #[.pointer (some ⟨p,0,none⟩),.int .i64 f,.int .i64 at_,.slice bo bn bc] w fun e w'=>e=.returned (.int .i64 (writeD d f at_ ss).1)∧(∃ P',DiskP w' p P' (writeD d f at_ ss).2∧Grew P w P')∧DFrame w w' p P.all:=by
 by_cases hx:d.off=true∨known f=false
 ·have e:writeD d f at_ ss=(if d.off then 4 else 11,d):=by
   unfold writeD
   rcases hx with h |h
   ·simp [h]
   ·cases d.off<;>simp [h]
  rw [e]
  refine (write_off p P d f at_ bo bn bc w h hx).mono ?_
  rintro e w' ⟨rfl,hb'⟩
  exact ⟨rfl,⟨P,h.later hb',fun k hk=>Or.inl hk⟩,DFrame.below hb'⟩
 ·have ho:d.off=false:=by cases h':d.off;rfl;exact absurd (Or.inl h') hx
  have hk:known f=true:=by cases h':known f;exact absurd (Or.inr h') hx;rfl
  rcases known_cases hk with rfl |rfl
  ·exact write_0 p P d at_ bo bn bc ss w h ho hop hss hsl hn hb
  ·exact write_1 p P d at_ bo bn bc ss w h ho hop hss hsl hn hb
end Dsk
namespace Dsk
open Go.RowKit Go.Maps
def syncD(d:DS)(f:Int):Int×DS:=
 if d.off then (4,d) else if !known f then (11,d) else if d.left=1 then (4,crashD (opsD d) d.keep d.torn) else (0,(tickD d).put f (sureF (d.file f).now))
theorem sync_off(p:Nat)(P:Parts)(d:DS)(f:Int)(w:World)(h:DiskP w p P d)(hx:d.off=true∨known f=false) :
  Calls Tryz.prog 278 #[.pointer (some ⟨p,0,none⟩),.int .i64 f] w fun e w'=>e=.returned (.int .i64 (if d.off then 4 else 11))∧Below w.heap.size w w':=by
 obtain ⟨w3,hw3⟩:∃ w3,w3=(w.alloc (.cells #[.pointer (some ⟨p,0,none⟩)] 103)).alloc (.cells #[.int .i64 f] 3):=⟨_,rfl⟩
 have hb:Below w.heap.size w w3:=by rw [hw3];exact (by repeat (first |with_reducible exact Below.refl _ _ |with_reducible assumption |with_reducible refine Below.drew ?_ |with_reducible refine below_drewN ?_ _ |with_reducible refine Below.alloc ?_ (by simp<;>omega) _ |with_reducible refine Below.setCell ?_ (by simp<;>omega) _))
 have HB:=hid hb
 have c:Calls Tryz.prog 215 #[.pointer (some ⟨p,0,none⟩),.int .i64 f] w3 fun e w'=>e=.returned (.int .i64 (if d.off then 4 else 11))∧w'=w3:=by
  cases ho:d.off
  ·have hk:known f=false:=by rcases hx with h |h;rw [ho]at h;cases h;exact h
   have:=fault_on p P d f _ (h.later hb) ho
   rw [hk]at this;exact this
  ·exact fault_off p P d f _ (h.later hb) ho
 obtain ⟨r,hr,hr0⟩:∃ r:Int,r=(if d.off then 4 else 11)∧(r == 0)=false:=⟨_,rfl,by cases d.off<;>rfl⟩
 rw [←hr]at c ⊢
 have C:=hid c;have HW3:=hid hw3
 clear c hb h hx hr hw3
 go_enter Tryz.func278,Tryz.ntmps278
 go_wp2_with (go_at_call 215;rw [←HW3.out];refine C.out.mono ?_;rintro e wx ⟨rfl,hwx⟩;obtain rfl:=hwx)
 go_ret
 exact ⟨rfl,HB.out⟩
def Reads8(p xd xi:Nat)(i:Int)(W:World):Prop:=W.cell? ⟨xd,0,none⟩=some (.pointer (some ⟨p,0,none⟩))∧W.cell? ⟨xi,0,none⟩=some (.int .i64 i)
theorem sync1_0(p:Nat)(P:Parts)(d:DS)(xd xi:Nat)(w:World)(h:DiskP w p P d)(cd:w.cell? ⟨xd,0,none⟩=some (.pointer (some ⟨p,0,none⟩)))(ci:w.cell? ⟨xi,0,none⟩=some (.int .i64 0))(hxd:xd≠p)(hxi:xi≠p)(hsd:¬P.S0 xd)(hsi:¬P.S0 xi) :
  Calls Tryz.prog 318 #[.pointer (some ⟨xd,0,none⟩),.pointer (some ⟨xi,0,none⟩)] w fun e w'=>∃ x,e=.returned (.int .i64 x)∧(x=0∧(∃ P',DiskP w' p P' (d.put 0 (sureF d.f0.now))∧Grew P w P')∧DFrame w w' p P.all):=by
 have hd:=h.stay (w':=w.drew) (Nat.le_refl _) (fun _ _ _=>rfl)
 have cs:=settle_any p 3 P.k0 P.S0 P.a0 (d.f0.old.length:Int) (some P.m0) d.f0.now w.drew hd.f0.c0 hd.f0.c1 hd.f0.c2 hd.f0.f0 hd.f0.f1 hd.f0.f2 hd.f0.row hd.f0.np hd.f0.ina
 have CS:=hid cs;have H:=hid h
 have hR:Reads8 p xd xi 0 w.drew:=⟨cd,ci⟩
 clear h hd cs
 go_enter Tryz.func318,Tryz.ntmps318
 go_wp2_with fail
 refine wp_region_held_drew (S:=Reads8 p xd xi 0) (by kernel_rfl) hR (fun hHeld=>?_)
 refine ght 0 ?_ (h:=by intro W hSw;obtain ⟨q0,q1⟩:=hSw;go_simp;first |done |with_reducible rfl)
 refine ght 1 ?_ (h:=by intro W hSw;obtain ⟨q0,q1⟩:=hSw;go_simp;first |done |with_reducible rfl)
 refine ght 2 ?_ (h:=by intro W hSw;obtain ⟨q0,q1⟩:=hSw;go_simp;first |done |with_reducible rfl)
 refine ght 3 ?_ (h:=by intro W hSw;obtain ⟨q0,q1⟩:=hSw;go_simp;first |done |with_reducible rfl)
 refine ght 4 ?_ (h:=by intro W hSw;obtain ⟨q0,q1⟩:=hSw;go_simp;first |done |with_reducible rfl)
 refine gh1 5 (fun K hK=>?_)
 go_simp
 refine CS.out.mono ?_;rintro e w2 ⟨rfl,hF2,hfr2⟩;replace hF2:=hid hF2;replace hfr2:=hid hfr2
 refine hK.out _ _ ⟨(World.cell?_of_block (hfr2.out.block xd (lt_cell (w:=w) cd) hxd hsd)).trans cd,(World.cell?_of_block (hfr2.out.block xi (lt_cell (w:=w) ci) hxi hsi)).trans ci⟩ (fun hHeld=>?_)
 clear hK K
 (try simp only [Act.put,sA,sZ,sS])
 refine wpAnyH_done (by kernel_rfl) ?_ _
 go_wp2
 go_ret
 have hfr:=hfr2.out.undrew
 have hok:(d.put 0 (sureF d.f0.now)).Ok:=⟨H.out.ok.r1,H.out.ok.r2,H.out.ok.sum,sureF_ok H.out.ok.ok0.sn,H.out.ok.ok1,H.out.ok.kl,H.out.ok.tn,H.out.ok.lf,H.out.ok.op⟩
 exact ⟨0,rfl,rfl,⟨_,H.out.file0 hF2.out hfr hok,fun k hk=>by rcases hk with (h |h) |h |h;exact Or.inl (Or.inl h);exact Or.inr h.1;exact Or.inl (Or.inr (Or.inl h));exact Or.inl (Or.inr (Or.inr h))⟩,hfr.df.imp (fun _ _ h=>Or.inl h)⟩
theorem sync_0(p:Nat)(P:Parts)(d:DS)(w:World)(h:DiskP w p P d)(ho:d.off=false)(hop:d.ops<1000000000) :
  Calls Tryz.prog 278 #[.pointer (some ⟨p,0,none⟩),.int .i64 0] w fun e w'=>e=.returned (.int .i64 (syncD d 0).1)∧(∃ P',DiskP w' p P' (syncD d 0).2∧Grew P w P')∧DFrame w w' p P.all:=by
 obtain ⟨w3,hw3⟩:∃ w3,w3=(w.alloc (.cells #[.pointer (some ⟨p,0,none⟩)] 103)).alloc (.cells #[.int .i64 0] 3):=⟨_,rfl⟩
 have hb3:Below w.heap.size w w3:=by rw [hw3];exact (by repeat (first |with_reducible exact Below.refl _ _ |with_reducible assumption |with_reducible refine Below.drew ?_ |with_reducible refine below_drewN ?_ _ |with_reducible refine Below.alloc ?_ (by simp<;>omega) _ |with_reducible refine Below.setCell ?_ (by simp<;>omega) _))
 have hpl:=h.f0.plt
 have h3:=h.later hb3
 have cf:=fault_on p P d 0 w3 h3 ho
 rw [show known 0=true from rfl,if_pos rfl]at cf
 have k2:w3.cell? ⟨w.heap.size,0,none⟩=some (.pointer (some ⟨p,0,none⟩)):=by rw [hw3,World.cell?_alloc_past _ _ _ (by simp),World.cell?_alloc_at _ _ _ _ rfl];rfl
 have k3:w3.cell? ⟨w.heap.size+1,0,none⟩=some (.int .i64 0):=by rw [hw3,World.cell?_alloc_at _ _ _ _ (by simp)];rfl
 have CF:=hid cf;have H:=hid h;have H3:=hid h3;have HB:=hid hb3;have HW3:=hid hw3;have K2:=hid k2;have K3:=hid k3
 have hz:w.heap.size≤w3.heap.size:=hb3.size
 have hwd:syncD d 0=if d.left=1 then (4,crashD (opsD d) d.keep d.torn) else (0,(tickD d).put 0 (sureF d.f0.now)):=by
  simp only [syncD,ho];rfl
 rw [hwd]
 clear hwd h h3 hb3 cf hw3
 by_cases hl1:d.left=1
 ·rw [if_pos hl1]
  have co:=hid (operate_crash p P d (.func (.func 318) #[] #[.pointer (some ⟨w.heap.size,0,none⟩),.pointer (some ⟨w.heap.size+1,0,none⟩)]) w3 H3.out ho hl1 hop)
  go_enter Tryz.func278,Tryz.ntmps278
  go_wp2_with (first
   | (go_at_call 215;rw [←HW3.out];refine CF.out.mono ?_;rintro e wx ⟨rfl,hwx⟩;obtain rfl:=hwx;clear CF)
   | (go_at_call 267;refine co.out.mono ?_;rintro e w9 ⟨rfl,⟨P',hd9,hg9⟩,hf9⟩;replace hd9:=hid hd9;replace hg9:=hid hg9;replace hf9:=hid hf9))
  go_ret
  exact ⟨rfl,⟨P',hd9.out,fun k hk=>by rcases hg9.out k hk with h |h;exact Or.inl h;exact Or.inr (Nat.le_trans hz h)⟩,(DFrame.below HB.out).trans (hf9.out.imp (fun _ _ h=>Or.inl h))⟩
 ·rw [if_neg hl1]
  have co:=operate_do p P d 318 #[.pointer (some ⟨w.heap.size,0,none⟩),.pointer (some ⟨w.heap.size+1,0,none⟩)] w3 H3.out hl1 hop (enters_of Tryz.func318 (by kernel_rfl) rfl)
   (fun x w'=>x=0∧(∃ P',DiskP w' p P' ((tickD d).put 0 (sureF d.f0.now))∧Grew P w P')∧DFrame w w' p P.all) (fun w1 h1 hf1=>by
    have hfw:DFrame w w1 p P.all:=(DFrame.below HB.out).trans (hf1.imp (fun _ _ h=>h.elim))
    have cw:=sync1_0 p P (tickD d) w.heap.size (w.heap.size+1) w1 h1 (hf1.cellAt K2.out (by show w.heap.size≠p;omega) (fun h=>h)) (hf1.cellAt K3.out (by show w.heap.size+1≠p;omega) (fun h=>h)) (by omega) (by omega) (fun h=>by have:=H.out.b0 _ h;omega) (fun h=>by have:=H.out.b0 _ h;omega)
    refine cw.mono ?_
    rintro e w2 ⟨x,rfl,hx,⟨P',hd,hg⟩,hf⟩
    refine ⟨x,rfl,hx,⟨P',hd,fun k hk=>?_⟩,hfw.trans (hf.imp (fun _ _ h=>Or.inl h))⟩
    rcases hg k hk with h |h
    ·exact Or.inl h
    ·exact Or.inr (Nat.le_trans hfw.size h))
  have CO:=hid co
  clear co
  go_enter Tryz.func278,Tryz.ntmps278
  go_wp2_with (first
   | (go_at_call 215;rw [←HW3.out];refine CF.out.mono ?_;rintro e wx ⟨rfl,hwx⟩;obtain rfl:=hwx;clear CF)
   | (go_at_call 267;refine CO.out.mono ?_;rintro e w9 ⟨x,rfl,hx,hd9,hf9⟩;replace hx:=hid hx;replace hd9:=hid hd9;replace hf9:=hid hf9))
  go_ret
  exact ⟨by rw [←hx.out];rfl,hd9.out,hf9.out⟩
theorem sync1_1(p:Nat)(P:Parts)(d:DS)(xd xi:Nat)(w:World)(h:DiskP w p P d)(cd:w.cell? ⟨xd,0,none⟩=some (.pointer (some ⟨p,0,none⟩)))(ci:w.cell? ⟨xi,0,none⟩=some (.int .i64 1))(hxd:xd≠p)(hxi:xi≠p)(hsd:¬P.S1 xd)(hsi:¬P.S1 xi) :
  Calls Tryz.prog 318 #[.pointer (some ⟨xd,0,none⟩),.pointer (some ⟨xi,0,none⟩)] w fun e w'=>∃ x,e=.returned (.int .i64 x)∧(x=0∧(∃ P',DiskP w' p P' (d.put 1 (sureF d.f1.now))∧Grew P w P')∧DFrame w w' p P.all):=by
 have hd:=h.stay (w':=w.drew) (Nat.le_refl _) (fun _ _ _=>rfl)
 have cs:=settle_any p 6 P.k1 P.S1 P.a1 (d.f1.old.length:Int) (some P.m1) d.f1.now w.drew hd.f1.c0 hd.f1.c1 hd.f1.c2 hd.f1.f0 hd.f1.f1 hd.f1.f2 hd.f1.row hd.f1.np hd.f1.ina
 have CS:=hid cs;have H:=hid h
 have hR:Reads8 p xd xi 1 w.drew:=⟨cd,ci⟩
 clear h hd cs
 go_enter Tryz.func318,Tryz.ntmps318
 go_wp2_with fail
 refine wp_region_held_drew (S:=Reads8 p xd xi 1) (by kernel_rfl) hR (fun hHeld=>?_)
 refine ght 0 ?_ (h:=by intro W hSw;obtain ⟨q0,q1⟩:=hSw;go_simp;first |done |with_reducible rfl)
 refine ght 1 ?_ (h:=by intro W hSw;obtain ⟨q0,q1⟩:=hSw;go_simp;first |done |with_reducible rfl)
 refine ght 2 ?_ (h:=by intro W hSw;obtain ⟨q0,q1⟩:=hSw;go_simp;first |done |with_reducible rfl)
 refine ght 3 ?_ (h:=by intro W hSw;obtain ⟨q0,q1⟩:=hSw;go_simp;first |done |with_reducible rfl)
 refine ght 4 ?_ (h:=by intro W hSw;obtain ⟨q0,q1⟩:=hSw;go_simp;first |done |with_reducible rfl)
 refine gh1 5 (fun K hK=>?_)
 go_simp
 refine CS.out.mono ?_;rintro e w2 ⟨rfl,hF2,hfr2⟩;replace hF2:=hid hF2;replace hfr2:=hid hfr2
 refine hK.out _ _ ⟨(World.cell?_of_block (hfr2.out.block xd (lt_cell (w:=w) cd) hxd hsd)).trans cd,(World.cell?_of_block (hfr2.out.block xi (lt_cell (w:=w) ci) hxi hsi)).trans ci⟩ (fun hHeld=>?_)
 clear hK K
 (try simp only [Act.put,sA,sZ,sS])
 refine wpAnyH_done (by kernel_rfl) ?_ _
 go_wp2
 go_ret
 have hfr:=hfr2.out.undrew
 have hok:(d.put 1 (sureF d.f1.now)).Ok:=⟨H.out.ok.r1,H.out.ok.r2,H.out.ok.sum,H.out.ok.ok0,sureF_ok H.out.ok.ok1.sn,H.out.ok.kl,H.out.ok.tn,H.out.ok.lf,H.out.ok.op⟩
 exact ⟨0,rfl,rfl,⟨_,H.out.file1 hF2.out hfr hok,fun k hk=>by rcases hk with h |(h |h) |h;exact Or.inl (Or.inl h);exact Or.inl (Or.inr (Or.inl h));exact Or.inr h.1;exact Or.inl (Or.inr (Or.inr h))⟩,hfr.df.imp (fun _ _ h=>Or.inr (Or.inl h))⟩
theorem sync_1(p:Nat)(P:Parts)(d:DS)(w:World)(h:DiskP w p P d)(ho:d.off=false)(hop:d.ops<1000000000) :
  Calls Tryz.prog 278 #[.pointer (some ⟨p,0,none⟩),.int .i64 1] w fun e w'=>e=.returned (.int .i64 (syncD d 1).1)∧(∃ P',DiskP w' p P' (syncD d 1).2∧Grew P w P')∧DFrame w w' p P.all:=by
 obtain ⟨w3,hw3⟩:∃ w3,w3=(w.alloc (.cells #[.pointer (some ⟨p,0,none⟩)] 103)).alloc (.cells #[.int .i64 1] 3):=⟨_,rfl⟩
 have hb3:Below w.heap.size w w3:=by rw [hw3];exact (by repeat (first |with_reducible exact Below.refl _ _ |with_reducible assumption |with_reducible refine Below.drew ?_ |with_reducible refine below_drewN ?_ _ |with_reducible refine Below.alloc ?_ (by simp<;>omega) _ |with_reducible refine Below.setCell ?_ (by simp<;>omega) _))
 have hpl:=h.f0.plt
 have h3:=h.later hb3
 have cf:=fault_on p P d 1 w3 h3 ho
 rw [show known 1=true from rfl,if_pos rfl]at cf
 have k2:w3.cell? ⟨w.heap.size,0,none⟩=some (.pointer (some ⟨p,0,none⟩)):=by rw [hw3,World.cell?_alloc_past _ _ _ (by simp),World.cell?_alloc_at _ _ _ _ rfl];rfl
 have k3:w3.cell? ⟨w.heap.size+1,0,none⟩=some (.int .i64 1):=by rw [hw3,World.cell?_alloc_at _ _ _ _ (by simp)];rfl
 have CF:=hid cf;have H:=hid h;have H3:=hid h3;have HB:=hid hb3;have HW3:=hid hw3;have K2:=hid k2;have K3:=hid k3
 have hz:w.heap.size≤w3.heap.size:=hb3.size
 have hwd:syncD d 1=if d.left=1 then (4,crashD (opsD d) d.keep d.torn) else (0,(tickD d).put 1 (sureF d.f1.now)):=by
  simp only [syncD,ho];rfl
 rw [hwd]
 clear hwd h h3 hb3 cf hw3
 by_cases hl1:d.left=1
 ·rw [if_pos hl1]
  have co:=hid (operate_crash p P d (.func (.func 318) #[] #[.pointer (some ⟨w.heap.size,0,none⟩),.pointer (some ⟨w.heap.size+1,0,none⟩)]) w3 H3.out ho hl1 hop)
  go_enter Tryz.func278,Tryz.ntmps278
  go_wp2_with (first
   | (go_at_call 215;rw [←HW3.out];refine CF.out.mono ?_;rintro e wx ⟨rfl,hwx⟩;obtain rfl:=hwx;clear CF)
   | (go_at_call 267;refine co.out.mono ?_;rintro e w9 ⟨rfl,⟨P',hd9,hg9⟩,hf9⟩;replace hd9:=hid hd9;replace hg9:=hid hg9;replace hf9:=hid hf9))
  go_ret
  exact ⟨rfl,⟨P',hd9.out,fun k hk=>by rcases hg9.out k hk with h |h;exact Or.inl h;exact Or.inr (Nat.le_trans hz h)⟩,(DFrame.below HB.out).trans (hf9.out.imp (fun _ _ h=>Or.inl h))⟩
 ·rw [if_neg hl1]
  have co:=operate_do p P d 318 #[.pointer (some ⟨w.heap.size,0,none⟩),.pointer (some ⟨w.heap.size+1,0,none⟩)] w3 H3.out hl1 hop (enters_of Tryz.func318 (by kernel_rfl) rfl)
   (fun x w'=>x=0∧(∃ P',DiskP w' p P' ((tickD d).put 1 (sureF d.f1.now))∧Grew P w P')∧DFrame w w' p P.all) (fun w1 h1 hf1=>by
    have hfw:DFrame w w1 p P.all:=(DFrame.below HB.out).trans (hf1.imp (fun _ _ h=>h.elim))
    have cw:=sync1_1 p P (tickD d) w.heap.size (w.heap.size+1) w1 h1 (hf1.cellAt K2.out (by show w.heap.size≠p;omega) (fun h=>h)) (hf1.cellAt K3.out (by show w.heap.size+1≠p;omega) (fun h=>h)) (by omega) (by omega) (fun h=>by have:=H.out.b1 _ h;omega) (fun h=>by have:=H.out.b1 _ h;omega)
    refine cw.mono ?_
    rintro e w2 ⟨x,rfl,hx,⟨P',hd,hg⟩,hf⟩
    refine ⟨x,rfl,hx,⟨P',hd,fun k hk=>?_⟩,hfw.trans (hf.imp (fun _ _ h=>Or.inl h))⟩
    rcases hg k hk with h |h
    ·exact Or.inl h
    ·exact Or.inr (Nat.le_trans hfw.size h))
  have CO:=hid co
  clear co
  go_enter Tryz.func278,Tryz.ntmps278
  go_wp2_with (first
   | (go_at_call 215;rw [←HW3.out];refine CF.out.mono ?_;rintro e wx ⟨rfl,hwx⟩;obtain rfl:=hwx;clear CF)
   | (go_at_call 267;refine CO.out.mono ?_;rintro e w9 ⟨x,rfl,hx,hd9,hf9⟩;replace hx:=hid hx;replace hd9:=hid hd9;replace hf9:=hid hf9))
  go_ret
  exact ⟨by rw [←hx.out];rfl,hd9.out,hf9.out⟩
theorem sync_call(p:Nat)(P:Parts)(d:DS)(f:Int)(w:World)(h:DiskP w p P d)(hop:d.ops<1000000000) :
  Calls Tryz.prog 278 #[.pointer (some ⟨p,0,none⟩),.int .i64 f] w fun e w'=>e=.returned (.int .i64 (syncD d f).1)∧(∃ P',DiskP w' p P' (syncD d f).2∧Grew P w P')∧DFrame w w' p P.all:=by
 by_cases hx:d.off=true∨known f=false
 ·have e:syncD d f=(if d.off then 4 else 11,d):=by
   unfold syncD
   rcases hx with h |h
   ·simp [h]
   ·cases d.off<;>simp [h]
  rw [e]
  refine (sync_off p P d f w h hx).mono ?_
  rintro e w' ⟨rfl,hb'⟩
  exact ⟨rfl,⟨P,h.later hb',fun k hk=>Or.inl hk⟩,DFrame.below hb'⟩
 ·have ho:d.off=false:=by cases h':d.off;rfl;exact absurd (Or.inl h') hx
  have hk:known f=true:=by cases h':known f;exact absurd (Or.inr h') hx;rfl
  rcases known_cases hk with rfl |rfl
  ·exact sync_0 p P d w h ho hop
  ·exact sync_1 p P d w h ho hop
end Dsk
namespace Dsk
open Go.RowKit Go.Maps
variable {w:World}
theorem wpList_append_rd{ops:Array Oper}{rest:List Oper}{o:Oper}{a:Act}{Q:Exit→Act→World→Prop}(hgd:o.guard=none)(s x:Operand)
  (ho:o.op=.call { callee:=.builtin .append,args:=#[s,x],argTypes:=#[48,48] }) (B:Nat) (v:Value) (n:Nat) (xs:List Nat) (hs:a.eval s=v) (hown:w.ownsRow B 5 1 v n (bs xs))
  (ao:Option Addr) (m c:Nat) (ys:List Nat) (hx:a.eval x=.slice ao m c) (hr:Rd w ao m c ys) (hb:n+m≤140737488355328) (hB:B≤w.heap.size)
  (h:∀ v' w',w'.ownsRow B 5 1 v' (n+m) (bs (xs++ys))→Below B w w'→wpList Tryz.prog ops Q rest (a.put o.dst v') w'):wpList Tryz.prog ops Q (o::rest) a w:=by
 obtain ⟨i5,hi5,hz0,hz1,hz2⟩:=info_parts Tryz.info5
 obtain ⟨hl,hc,hno,hat⟩:=hr
 cases ao with
 | none=>
  obtain ⟨rfl,rfl⟩:=hno rfl
  obtain rfl:ys = []:=List.eq_nil_of_length_eq_zero hl
  refine wpList_append_own_none hgd s x 48 ho B 5 i5 1 Tryz.underlying48 hi5 v n (bs xs) hs hown hx ?_
  exact h v w (by simpa using hown) (Below.refl _ _)
 | some ad=>
  refine wpList_append_own w hgd s x 48 ho B 5 i5 (.int .u8 0) 1 1 Tryz.underlying48 hi5 hz0 hz1 hz2 rfl (by decide) v n (bs xs) hs hown ad m c (bs ys) hx (by simp [bs,hl]) ?_ (bs_one ys) (by unfold maxLen;omega) (by omega) hB ?_
  ·intro j u hu
   obtain ⟨hj,rfl⟩:=bs_get' ys j u hu
   obtain ⟨b,off,e,hcell⟩:=hat (by omega)
   simp only [Option.some.injEq]at e
   subst e
   rw [Addr.add_lit]
   exact hcell j (by omega)
  ·intro v' w' h1 h2 _
   refine h v' w' (by rw [bs_append];exact h1) ((Below.refl B w).grown h2 hB fun k hk=>(hown.lt k hk).1)
theorem rd_owned{B n:Nat}{v:Value}{xs:List Nat}(h:w.ownsRow B 5 1 v n (bs xs)):∃ ao cap,v=.slice ao n cap∧Rd w ao n cap xs∧∀ a,ao=some a→B≤a.block:=by
 rcases h.2 with ⟨rfl,rfl⟩ | ⟨g,cap,cur,rfl,hB,_⟩
 ·obtain rfl:xs = []:=by have:=h.1;simp [bs]at this;exact this
  exact ⟨none,0,rfl,Rd.nil w,fun a ha=>by cases ha⟩
 ·exact ⟨_,_,rfl,rd_own h,fun a ha=>by cases ha;exact hB⟩
theorem rd_sec{p o:Nat}{S:Nat→Prop}{g cap m i:Nat}{F:FS}(HF:FileAt w p o S (some ⟨g,0,none⟩) cap m F)(sn:∀ x∈F.now,x.length=128)(hi:i<F.now.length):Rd w (some ⟨g,i*128,none⟩) 128 128 (F.now.getD i []):=by
 have hl:(F.now.getD i []).length=128:=by rw [List.getD,List.getElem?_eq_getElem hi];exact sn _ (List.getElem_mem hi)
 refine ⟨hl,Nat.le_refl _,fun h=>(by cases h),fun _=>⟨g,i*128,rfl,fun t ht=>?_⟩⟩
 rw [HF.row.cellAt (i*128+t) (by have:(i+1)*128≤F.now.length*128:=Nat.mul_le_mul_right _ (by omega);omega),secs_get sn i t hi ht,bs_get _ _ (by omega)]
theorem make37(c:Nat)(hc:c≤281474976710656)(w:World):(Instr.makeSlice 48 (.int .i64 0) (.int .i64 (c:Int))).run Tryz.prog w=.ok (.slice (some ⟨w.heap.size,0,none⟩) 0 c) (w.alloc (.cells (Array.replicate c (.int .u8 0)) 5)):=make_any 0 c (Nat.zero_le _) hc w
def readD(d:DS)(f at_ n:Int):List Nat×Int:=
 if d.off then ([],4) else if !known f then ([],11) else if at_<0∨n<0∨((d.file f).now.length:Int) - at_<n then ([],11) else ((((d.file f).now.drop at_.toNat).take n.toNat).flatten,0)
theorem take_step(l:List Sec)(A k n:Nat)(hk:k<n)(h:A+n≤l.length):((l.drop (A+k)).take (n - k)).flatten=l.getD (A+k) []++((l.drop (A+(k+1))).take (n - (k+1))).flatten:=by
 have hlt:A+k<l.length:=by omega
 rw [List.drop_eq_getElem_cons hlt,show n - k=(n - (k+1))+1 by omega,List.take_succ_cons,List.flatten_cons,List.getD,List.getElem?_eq_getElem hlt]
 rfl
theorem read_off(p:Nat)(P:Parts)(d:DS)(f at_ n:Int)(w:World)(h:DiskP w p P d)(hx:d.off=true∨known f=false) :
  Calls Tryz.prog 159 #[.pointer (some ⟨p,0,none⟩),.int .i64 f,.int .i64 at_,.int .i64 n] w fun e w'=>e=.returned (.tuple #[.slice none 0 0,.int .i64 (if d.off then 4 else 11)])∧w'=w:=by
 have c:Calls Tryz.prog 215 #[.pointer (some ⟨p,0,none⟩),.int .i64 f] w fun e w'=>e=.returned (.int .i64 (if d.off then 4 else 11))∧w'=w:=by
  cases ho:d.off
  ·have hk:known f=false:=by rcases hx with h |h;rw [ho]at h;cases h;exact h
   have:=fault_on p P d f _ h ho
   rw [hk]at this;exact this
  ·exact fault_off p P d f _ h ho
 obtain ⟨r,hr,hr0⟩:∃ r:Int,r=(if d.off then 4 else 11)∧(r == 0)=false:=⟨_,rfl,by cases d.off<;>rfl⟩
 rw [←hr]at c ⊢
 have C:=hid c
 clear c h hx hr
 go_enter Tryz.func159,Tryz.ntmps159
 go_wp2_with (go_at_call 215;refine C.out.mono ?_;rintro e wx ⟨rfl,hwx⟩;obtain rfl:=hwx)
 go_ret2
 exact ⟨rfl,rfl⟩
theorem read_0(p:Nat)(P:Parts)(d:DS)(at_ n:Int)(w:World)(h:DiskP w p P d)(ho:d.off=false)(hab : -9223372036854775808≤at_∧at_≤9223372036854775807)(hnb : -9223372036854775808≤n∧n≤9223372036854775807) :
  Calls Tryz.prog 159 #[.pointer (some ⟨p,0,none⟩),.int .i64 0,.int .i64 at_,.int .i64 n] w fun e w'=>∃ ro rc,e=.returned (.tuple #[.slice ro (readD d 0 at_ n).1.length rc,.int .i64 (readD d 0 at_ n).2])∧Rd w' ro (readD d 0 at_ n).1.length rc (readD d 0 at_ n).1∧w'.ownsRow w.heap.size 5 1 (.slice ro (readD d 0 at_ n).1.length rc) (readD d 0 at_ n).1.length (bs (readD d 0 at_ n).1)∧Below w.heap.size w w':=by
 have cf:=fault_on p P d 0 w h ho
 rw [show known 0=true from rfl,if_pos rfl]at cf
 have CF:=hid cf;have H:=hid h
 have c3:=h.f0.c0
 have hr2:=h.ok.r2;have hsum:=h.ok.sum
 obtain ⟨L,hLL⟩:∃ L,L=d.f0.now.length:=⟨_,rfl⟩
 rw [←hLL]at c3
 have hlb:L≤32768:=by omega
 have HLL:=hid hLL
 have hwd:readD d 0 at_ n=if at_<0∨n<0∨(L:Int) - at_<n then ([],11) else (((d.f0.now.drop at_.toNat).take n.toNat).flatten,0):=by
  simp only [readD,ho,hLL];rfl
 rw [hwd]
 clear hwd h cf hLL hsum hr2
 by_cases h1:at_<0
 ·rw [if_pos (Or.inl h1)]
  go_enter Tryz.func159,Tryz.ntmps159
  go_wp2_with (go_at_call 215;refine CF.out.mono ?_;rintro e wx ⟨rfl,hwx⟩;obtain rfl:=hwx.symm;clear CF)
  go_ret2
  exact ⟨none,0,rfl,Rd.nil _,⟨rfl,.inl ⟨rfl,rfl⟩⟩,Below.refl _ _⟩
 ·by_cases h2:n<0
  ·rw [if_pos (Or.inr (Or.inl h2))]
   go_enter Tryz.func159,Tryz.ntmps159
   go_wp2_with (go_at_call 215;refine CF.out.mono ?_;rintro e wx ⟨rfl,hwx⟩;obtain rfl:=hwx.symm;clear CF)
   go_ret2
   exact ⟨none,0,rfl,Rd.nil _,⟨rfl,.inl ⟨rfl,rfl⟩⟩,Below.refl _ _⟩
  ·by_cases h3:(L:Int) - at_<n
   ·rw [if_pos (Or.inr (Or.inr h3))]
    go_enter Tryz.func159,Tryz.ntmps159
    go_wp2_with (go_at_call 215;refine CF.out.mono ?_;rintro e wx ⟨rfl,hwx⟩;obtain rfl:=hwx.symm;clear CF)
    go_ret2
    exact ⟨none,0,rfl,Rd.nil _,⟨rfl,.inl ⟨rfl,rfl⟩⟩,Below.refl _ _⟩
   ·rw [if_neg (by omega)]
    obtain ⟨A,rfl⟩:=Int.eq_ofNat_of_zero_le (show 0≤at_ by omega)
    obtain ⟨N,rfl⟩:=Int.eq_ofNat_of_zero_le (show 0≤n by omega)
    rw [Int.toNat_natCast,Int.toNat_natCast]
    have hAN:A+N≤L:=by omega
    have mk:=make37 (N*128) (by omega)
    have e1:((N*128:Nat):Int)=(N:Int)*128:=by omega
    rw [e1]at mk
    have hpl:=H.out.f0.plt
    obtain ⟨total,htot⟩:∃ total,total=((d.f0.now.drop A).take N).flatten:=⟨_,rfl⟩
    rw [←htot]
    have htl:total.length=N*128:=by
     have:∀ (l:List Sec),(∀ x∈l,x.length=128)→l.flatten.length=l.length*128:=fun l hl=>by have:=secs_length hl;rw [secs,bs_length]at this;exact this
     rw [htot,this _ (fun x hx=>H.out.ok.ok0.sn x (List.mem_of_mem_drop (List.mem_of_mem_take hx))),List.length_take,List.length_drop,←HLL.out,Nat.min_eq_left (by omega)]
    have HTL:=hid htl;have HTO:=hid htot
    have h3':¬((L:Int) - (A:Int)<(N:Int)):=h3
    clear h1 h2 htl htot hab hnb e1
    have hA0:¬((A:Int)<0):=by omega
    have hN0:¬((N:Int)<0):=by omega
    go_enter Tryz.func159,Tryz.ntmps159
    go_wp2_with (go_at_call 215;refine CF.out.mono ?_;rintro e wx ⟨rfl,hwx⟩;obtain rfl:=hwx.symm;clear CF)
    go_loopw [12,13] (fun o c W=>∃ (k:Nat) (ys:List Nat),k≤N∧c=.int .i64 ((A:Int)+(k:Int))∧Hid (ys++((d.f0.now.drop (A+k)).take (N - k)).flatten=total)∧Hid (ys.length=k*128)∧Hid (W.ownsRow w.heap.size 5 1 o (k*128) (bs ys))∧Hid (Below w.heap.size w W)) (fun _ c _=>A+N - (intOf c).toNat)
    case atStart=>exact ⟨0,[],Nat.zero_le _,by simp,hid (by rw [HTO.out];simp),rfl,hid (by have:=World.ownsRow_made (base:=w.heap.size) (e:=5) (size:=1) w (Array.replicate (N*128) (.int .u8 0)) (N*128) (Nat.le_refl _) (by unfold maxLen;omega) (by simp);simpa [bs] using this),hid ((Below.refl _ _).alloc (Nat.le_refl _) _)⟩
    case round=>
     obtain ⟨k,ys,hk,rfl,hys,hyl,hown,hbw⟩:=hrel
     have hd:=H.out.later hbw.out
     have c3':=hd.f0.c0
     rw [←HLL.out]at c3'
     clear c3
     obtain ⟨ro,rc,hv,hrd,hrb⟩:=rd_owned hown.out
     have HRB:=hid hrb
     clear hrb
     subst hv
     by_cases hkN:k<N
     ·have hkN':(A:Int)+(k:Int)<(A:Int)+(N:Int):=by omega
      obtain ⟨g,hg⟩:∃ g,P.a0=some ⟨g,0,none⟩:=by
       obtain ⟨g,_,hv',_⟩:=hd.f0.row.form (by rw [←HLL.out];omega)
       simp only [Value.slice.injEq]at hv'
       exact ⟨g,hv'.1⟩
      have hF:=hd.f0
      rw [hg]at c3' hF
      have hrs:=rd_sec hF H.out.ok.ok0.sn (i:=A+k) (by rw [←HLL.out];omega)
      have HRS:=hid hrs
      have hkL:(A:Int)+(k:Int)<(L:Int):=by omega
      have hAk:((A:Int)+(k:Int)).toNat=A+k:=by omega
      have hz:=hbw.out.size
      clear hd hF hrs hrd hg
      go_wp2_with ((with_reducible refine here_op 61 ?_);refine wpList_append_rd rfl (.tmp 53) (.tmp 60) rfl w.heap.size _ (k*128) ys rfl hown.out (some ⟨g,(A+k)*128,none⟩) 128 128 _ rfl HRS.out (by omega) hz ?_;intro v1 w1 ho1 hb1;replace ho1:=hid ho1;replace hb1:=hid hb1)
      go_roundw
      case measure=>simp [intOf];omega
      case rel=>
      refine ⟨k+1,ys++d.f0.now.getD (A+k) [],by omega,by congr 1,hid ?_,hid ?_,hid ?_,hid (hbw.out.trans hb1.out)⟩
      ·rw [List.append_assoc,←take_step _ A k N hkN (by rw [←HLL.out];omega)];exact hys.out
      ·rw [List.length_append,hyl.out,HRS.out.1];omega
      ·have:=ho1.out;rw [show (k+1)*128=k*128+128 by omega];exact this
     ·have hkE:k=N:=by omega
      subst hkE
      have hkN':¬((A:Int)+(k:Int)<(A:Int)+(k:Int)):=by omega
      have hyT:ys=total:=by have:=hys.out;simpa using this
      subst hyT
      have HRD:=hid hrd
      clear hd hrd
      go_wp2
      go_ret2
      refine ⟨ro,rc,?_,?_,?_,hbw.out⟩
      ·rw [HTL.out];rfl
      ·rw [HTL.out];exact HRD.out
      ·rw [HTL.out];exact hown.out
theorem read_1(p:Nat)(P:Parts)(d:DS)(at_ n:Int)(w:World)(h:DiskP w p P d)(ho:d.off=false)(hab : -9223372036854775808≤at_∧at_≤9223372036854775807)(hnb : -9223372036854775808≤n∧n≤9223372036854775807) :
  Calls Tryz.prog 159 #[.pointer (some ⟨p,0,none⟩),.int .i64 1,.int .i64 at_,.int .i64 n] w fun e w'=>∃ ro rc,e=.returned (.tuple #[.slice ro (readD d 1 at_ n).1.length rc,.int .i64 (readD d 1 at_ n).2])∧Rd w' ro (readD d 1 at_ n).1.length rc (readD d 1 at_ n).1∧w'.ownsRow w.heap.size 5 1 (.slice ro (readD d 1 at_ n).1.length rc) (readD d 1 at_ n).1.length (bs (readD d 1 at_ n).1)∧Below w.heap.size w w':=by
 have cf:=fault_on p P d 1 w h ho
 rw [show known 1=true from rfl,if_pos rfl]at cf
 have CF:=hid cf;have H:=hid h
 have c3:=h.f1.c0
 have hr2:=h.ok.r2;have hsum:=h.ok.sum
 obtain ⟨L,hLL⟩:∃ L,L=d.f1.now.length:=⟨_,rfl⟩
 rw [←hLL]at c3
 have hlb:L≤32768:=by omega
 have HLL:=hid hLL
 have hwd:readD d 1 at_ n=if at_<0∨n<0∨(L:Int) - at_<n then ([],11) else (((d.f1.now.drop at_.toNat).take n.toNat).flatten,0):=by
  simp only [readD,ho,hLL];rfl
 rw [hwd]
 clear hwd h cf hLL hsum hr2
 by_cases h1:at_<0
 ·rw [if_pos (Or.inl h1)]
  go_enter Tryz.func159,Tryz.ntmps159
  go_wp2_with (go_at_call 215;refine CF.out.mono ?_;rintro e wx ⟨rfl,hwx⟩;obtain rfl:=hwx.symm;clear CF)
  go_ret2
  exact ⟨none,0,rfl,Rd.nil _,⟨rfl,.inl ⟨rfl,rfl⟩⟩,Below.refl _ _⟩
 ·by_cases h2:n<0
  ·rw [if_pos (Or.inr (Or.inl h2))]
   go_enter Tryz.func159,Tryz.ntmps159
   go_wp2_with (go_at_call 215;refine CF.out.mono ?_;rintro e wx ⟨rfl,hwx⟩;obtain rfl:=hwx.symm;clear CF)
   go_ret2
   exact ⟨none,0,rfl,Rd.nil _,⟨rfl,.inl ⟨rfl,rfl⟩⟩,Below.refl _ _⟩
  ·by_cases h3:(L:Int) - at_<n
   ·rw [if_pos (Or.inr (Or.inr h3))]
    go_enter Tryz.func159,Tryz.ntmps159
    go_wp2_with (go_at_call 215;refine CF.out.mono ?_;rintro e wx ⟨rfl,hwx⟩;obtain rfl:=hwx.symm;clear CF)
    go_ret2
    exact ⟨none,0,rfl,Rd.nil _,⟨rfl,.inl ⟨rfl,rfl⟩⟩,Below.refl _ _⟩
   ·rw [if_neg (by omega)]
    obtain ⟨A,rfl⟩:=Int.eq_ofNat_of_zero_le (show 0≤at_ by omega)
    obtain ⟨N,rfl⟩:=Int.eq_ofNat_of_zero_le (show 0≤n by omega)
    rw [Int.toNat_natCast,Int.toNat_natCast]
    have hAN:A+N≤L:=by omega
    have mk:=make37 (N*128) (by omega)
    have e1:((N*128:Nat):Int)=(N:Int)*128:=by omega
    rw [e1]at mk
    have hpl:=H.out.f0.plt
    obtain ⟨total,htot⟩:∃ total,total=((d.f1.now.drop A).take N).flatten:=⟨_,rfl⟩
    rw [←htot]
    have htl:total.length=N*128:=by
     have:∀ (l:List Sec),(∀ x∈l,x.length=128)→l.flatten.length=l.length*128:=fun l hl=>by have:=secs_length hl;rw [secs,bs_length]at this;exact this
     rw [htot,this _ (fun x hx=>H.out.ok.ok1.sn x (List.mem_of_mem_drop (List.mem_of_mem_take hx))),List.length_take,List.length_drop,←HLL.out,Nat.min_eq_left (by omega)]
    have HTL:=hid htl;have HTO:=hid htot
    have h3':¬((L:Int) - (A:Int)<(N:Int)):=h3
    clear h1 h2 htl htot hab hnb e1
    have hA0:¬((A:Int)<0):=by omega
    have hN0:¬((N:Int)<0):=by omega
    go_enter Tryz.func159,Tryz.ntmps159
    go_wp2_with (go_at_call 215;refine CF.out.mono ?_;rintro e wx ⟨rfl,hwx⟩;obtain rfl:=hwx.symm;clear CF)
    go_loopw [12,13] (fun o c W=>∃ (k:Nat) (ys:List Nat),k≤N∧c=.int .i64 ((A:Int)+(k:Int))∧Hid (ys++((d.f1.now.drop (A+k)).take (N - k)).flatten=total)∧Hid (ys.length=k*128)∧Hid (W.ownsRow w.heap.size 5 1 o (k*128) (bs ys))∧Hid (Below w.heap.size w W)) (fun _ c _=>A+N - (intOf c).toNat)
    case atStart=>exact ⟨0,[],Nat.zero_le _,by simp,hid (by rw [HTO.out];simp),rfl,hid (by have:=World.ownsRow_made (base:=w.heap.size) (e:=5) (size:=1) w (Array.replicate (N*128) (.int .u8 0)) (N*128) (Nat.le_refl _) (by unfold maxLen;omega) (by simp);simpa [bs] using this),hid ((Below.refl _ _).alloc (Nat.le_refl _) _)⟩
    case round=>
     obtain ⟨k,ys,hk,rfl,hys,hyl,hown,hbw⟩:=hrel
     have hd:=H.out.later hbw.out
     have c3':=hd.f1.c0
     rw [←HLL.out]at c3'
     clear c3
     obtain ⟨ro,rc,hv,hrd,hrb⟩:=rd_owned hown.out
     have HRB:=hid hrb
     clear hrb
     subst hv
     by_cases hkN:k<N
     ·have hkN':(A:Int)+(k:Int)<(A:Int)+(N:Int):=by omega
      obtain ⟨g,hg⟩:∃ g,P.a1=some ⟨g,0,none⟩:=by
       obtain ⟨g,_,hv',_⟩:=hd.f1.row.form (by rw [←HLL.out];omega)
       simp only [Value.slice.injEq]at hv'
       exact ⟨g,hv'.1⟩
      have hF:=hd.f1
      rw [hg]at c3' hF
      have hrs:=rd_sec hF H.out.ok.ok1.sn (i:=A+k) (by rw [←HLL.out];omega)
      have HRS:=hid hrs
      have hkL:(A:Int)+(k:Int)<(L:Int):=by omega
      have hAk:((A:Int)+(k:Int)).toNat=A+k:=by omega
      have hz:=hbw.out.size
      clear hd hF hrs hrd hg
      go_wp2_with ((with_reducible refine here_op 61 ?_);refine wpList_append_rd rfl (.tmp 53) (.tmp 60) rfl w.heap.size _ (k*128) ys rfl hown.out (some ⟨g,(A+k)*128,none⟩) 128 128 _ rfl HRS.out (by omega) hz ?_;intro v1 w1 ho1 hb1;replace ho1:=hid ho1;replace hb1:=hid hb1)
      go_roundw
      case measure=>simp [intOf];omega
      case rel=>
      refine ⟨k+1,ys++d.f1.now.getD (A+k) [],by omega,by congr 1,hid ?_,hid ?_,hid ?_,hid (hbw.out.trans hb1.out)⟩
      ·rw [List.append_assoc,←take_step _ A k N hkN (by rw [←HLL.out];omega)];exact hys.out
      ·rw [List.length_append,hyl.out,HRS.out.1];omega
      ·have:=ho1.out;rw [show (k+1)*128=k*128+128 by omega];exact this
     ·have hkE:k=N:=by omega
      subst hkE
      have hkN':¬((A:Int)+(k:Int)<(A:Int)+(k:Int)):=by omega
      have hyT:ys=total:=by have:=hys.out;simpa using this
      subst hyT
      have HRD:=hid hrd
      clear hd hrd
      go_wp2
      go_ret2
      refine ⟨ro,rc,?_,?_,?_,hbw.out⟩
      ·rw [HTL.out];rfl
      ·rw [HTL.out];exact HRD.out
      ·rw [HTL.out];exact hown.out
theorem read_call(p:Nat)(P:Parts)(d:DS)(f at_ n:Int)(w:World)(h:DiskP w p P d)(hab : -9223372036854775808≤at_∧at_≤9223372036854775807)(hnb : -9223372036854775808≤n∧n≤9223372036854775807) :
  Calls Tryz.prog 159 #[.pointer (some ⟨p,0,none⟩),.int .i64 f,.int .i64 at_,.int .i64 n] w fun e w'=>∃ ro rc,e=.returned (.tuple #[.slice ro (readD d f at_ n).1.length rc,.int .i64 (readD d f at_ n).2])∧Rd w' ro (readD d f at_ n).1.length rc (readD d f at_ n).1∧w'.ownsRow w.heap.size 5 1 (.slice ro (readD d f at_ n).1.length rc) (readD d f at_ n).1.length (bs (readD d f at_ n).1)∧Below w.heap.size w w':=by
 by_cases hx:d.off=true∨known f=false
 ·have e:readD d f at_ n=([],if d.off then 4 else 11):=by
   unfold readD
   rcases hx with h |h
   ·simp [h]
   ·cases d.off<;>simp [h]
  rw [e]
  refine (read_off p P d f at_ n w h hx).mono ?_
  rintro e w' ⟨rfl,rfl⟩
  exact ⟨none,0,rfl,Rd.nil _,⟨rfl,.inl ⟨rfl,rfl⟩⟩,Below.refl _ _⟩
 ·have ho:d.off=false:=by cases h':d.off;rfl;exact absurd (Or.inl h') hx
  have hk:known f=true:=by cases h':known f;exact absurd (Or.inr h') hx;rfl
  rcases known_cases hk with rfl |rfl
  ·exact read_0 p P d at_ n w h ho hab hnb
  ·exact read_1 p P d at_ n w h ho hab hnb
end Dsk
namespace Dsk
open Go.RowKit Go.Maps
def newD(r:Nat):DS:=⟨r,false,0,⟨[],[],[]⟩,⟨[],[],[]⟩,0,[],0⟩
theorem newD_ok(r:Nat)(h1:1≤r)(h2:r≤32768):(newD r).Ok:=by
 have e:(⟨[],[],[]⟩:FS).Ok:=⟨rfl,Nat.le_refl _,fun _ h=>by simp at h,fun _ h=>by simp at h,fun i h=>by simp at h⟩
 exact ⟨h1,h2,by simp [newD],e,e,by simp [newD],by simp [newD],by simp [newD],by simp [newD]⟩
theorem new_yes(r:Nat)(w:World)(h1:1≤r)(h2:r≤32768):Calls Tryz.prog 50 #[.int .i64 (r:Int)] w fun e w'=>e=.returned (.pointer (some ⟨w.heap.size,0,none⟩))∧(∃ P,DiskP w' w.heap.size P (newD r)∧∀ k,P.all k→w.heap.size<k)∧Below w.heap.size w w':=by
 have h1':¬((r:Int)<1):=by omega
 have h2':¬((32768:Int)<(r:Int)):=by omega
 obtain ⟨w1,hw1⟩:∃ w1,w1=w.alloc (.cells #[.int .i64 (r:Int),.bool false,.int .i64 0,.slice none 0 0,.int .i64 0,.map none,.slice none 0 0,.int .i64 0,.map none,.int .i64 0,.slice none 0 0,.int .i64 0] 192):=⟨_,rfl⟩
 have hb1:Below w.heap.size w w1:=by rw [hw1];exact (Below.refl _ _).alloc (Nat.le_refl _) _
 have hc:∀ i,w1.cell? ⟨w.heap.size,i,none⟩=(#[.int .i64 (r:Int),.bool false,.int .i64 0,.slice none 0 0,.int .i64 0,.map none,.slice none 0 0,.int .i64 0,.map none,.int .i64 0,.slice none 0 0,.int .i64 0]:Array Value)[i]?:=fun i=>by rw [hw1,World.cell?_alloc_at _ _ _ _ rfl]
 have hf:∀ i,w1.frozen? ⟨w.heap.size,i,none⟩=false:=fun i=>by rw [hw1,World.frozen?_alloc_at _ _ _ _ rfl]
 have hz1:w1.heap.size=w.heap.size+1:=by rw [hw1];simp
 have cs:=settle_any w.heap.size 3 0 (fun _=>False) none 0 none [] w1 (hc 3) (hc 4) (hc 5) (hf 3) (hf 4) (hf 5) (World.ownsRow_nil _ _ _ _) (fun h=>h) (fun _ h=>by cases h)
 have CS:=hid cs;have HW1:=hid hw1;have HB1:=hid hb1;have HC:=hid hc;have HF:=hid hf;have HZ1:=hid hz1
 clear cs hw1 hb1 hc hf hz1
 go_enter Tryz.func50,Tryz.ntmps50
 go_wp2
 refine wp_loop_rounds 3 ?_
 rw [rounds_succ]
 go_wp2_with (go_at_call 106;rw [←HW1.out];refine CS.out.mono ?_;rintro e w2 ⟨rfl,hF2,hfr2⟩;clear CS;replace hF2:=hid hF2;replace hfr2:=hid hfr2)
 have hc2:∀ i,5<i→w2.cell? ⟨w.heap.size,i,none⟩=w1.cell? ⟨w.heap.size,i,none⟩:=fun i hi=>hfr2.out.cell i (by omega) (by omega) (by omega)
 have hf2:∀ i,w2.frozen? ⟨w.heap.size,i,none⟩=false:=fun i=>(hfr2.out.fz i).trans (HF.out i)
 have cs:=settle_any w.heap.size 6 0 (fun _=>False) none 0 none [] w2 ((hc2 6 (by omega)).trans (HC.out 6)) ((hc2 7 (by omega)).trans (HC.out 7)) ((hc2 8 (by omega)).trans (HC.out 8)) (hf2 6) (hf2 7) (hf2 8) (World.ownsRow_nil _ _ _ _) (fun h=>h) (fun _ h=>by cases h)
 have CS:=hid cs;have HF2:=hid hf2
 clear cs hf2 hc2
 rw [rounds_succ]
 go_wp2_with (go_at_call 106;refine CS.out.mono ?_;rintro e w3 ⟨rfl,hF3,hfr3⟩;clear CS;replace hF3:=hid hF3;replace hfr3:=hid hfr3)
 rw [rounds_succ]
 go_wp2
 go_ret
 have z1:=HZ1.out;have z2:=hfr2.out.size;have z3:=hfr3.out.size
 have c1:∀ i,i<3∨8<i→w3.cell? ⟨w.heap.size,i,none⟩=w1.cell? ⟨w.heap.size,i,none⟩:=fun i hi=>(hfr3.out.cell i (by omega) (by omega) (by omega)).trans (hfr2.out.cell i (by omega) (by omega) (by omega))
 have f3:FileAt w3 w.heap.size 3 (Between (fun _=>False) w1 w2) none 0 w1.heap.size ⟨[],[],[]⟩:=hF2.out.bound.stay (fun k hk hS=>hfr3.out.block k hk (fun e=>by rcases hS with h |h;exact h;omega) (fun h=>h)) (fun i h1 h2=>hfr3.out.cell i (by omega) (by omega) (by omega)) (fun i=>hfr3.out.fz i)
 have f6:FileAt w3 w.heap.size 6 (Between (fun _=>False) w2 w3) none 0 w2.heap.size ⟨[],[],[]⟩:=hF3.out.bound
 refine ⟨rfl,⟨⟨Between (fun _=>False) w1 w2,Between (fun _=>False) w2 w3,fun _=>False,none,none,none,0,0,0,w1.heap.size,w2.heap.size⟩,⟨(c1 0 (by omega)).trans (HC.out 0),(c1 1 (by omega)).trans (HC.out 1),(c1 2 (by omega)).trans (HC.out 2),(c1 9 (by omega)).trans (HC.out 9),(c1 10 (by omega)).trans (HC.out 10),(c1 11 (by omega)).trans (HC.out 11),fun i=>(hfr3.out.fz i).trans (HF2.out i),f3,f6,fun h=>by simp [newD]at h,fun h=>by simp [newD]at h,?_,fun k h=>False.elim h,?_,?_,fun k h=>False.elim h,newD_ok r h1 h2⟩,?_⟩,?_⟩
 ·rintro k (h |h) (h' |h')
  ·exact h
  ·exact h
  ·exact h'
  ·omega
 ·rintro k (h |h)
  ·exact h.elim
  ·omega
 ·rintro k (h |h)
  ·exact h.elim
  ·exact h.2
 ·rintro k ((h |h) |(h |h) |h)
  ·exact h.elim
  ·omega
  ·exact h.elim
  ·omega
  ·exact False.elim h
 ·refine HB1.out.trans ⟨hfr3.out.os.trans hfr2.out.os,hfr3.out.tape.trans hfr2.out.tape,hfr3.out.output.trans hfr2.out.output,Nat.le_trans z2 z3,fun k hk=>?_⟩
  exact (hfr3.out.block k (by omega) (by omega) (fun h=>h)).trans (hfr2.out.block k (by omega) (by omega) (fun h=>h))
end Dsk
namespace Dsk
open Go.RowKit Go.Maps
variable {d:DS} {P:Parts} {p:Nat} {w:World}
theorem all_lt(h:DiskP w p P d){k:Nat}(hk:P.all k):k<w.heap.size:=by
 rcases hk with h1 |h1 |h1
 ·exact h.b0 k h1
 ·exact h.b1 k h1
 ·exact h.bk k h1
theorem p_lt(h:DiskP w p P d):p<w.heap.size:=h.f0.plt
end Dsk
end Go.Proofs.YtfcikkechphmaaaGreatDoor
