/- What Cut does to a disk; no statement of the seat is proved here. -/
import Derived.Test.YtadhdedjdgjboaaGreatDoorH08
import Derived.Test.YtadhdedjdgjboaaGreatDoorH02
set_option maxHeartbeats 16000000
set_option maxRecDepth 20000
namespace Go.Proofs.YtadhdedjdgjboaaGreatDoor
namespace Dsk
open Go.RowKit Go.Maps
def cutD(d:DS)(f n:Int):Int×DS:=
 if d.off then (4,d) else if !known f then (11,d) else if n<0∨((d.file f).now.length:Int)<n then (11,d)
 else if d.left=1 then (4,crashD (opsD d) d.keep d.torn) else (0,(tickD d).put f (cutF (d.file f) n.toNat))
theorem cut_off(p:Nat)(P:Parts)(d:DS)(f n:Int)(w:World)(h:DiskP w p P d)(hx:d.off=true∨known f=false) :
  Calls Tryz.prog 104 #[.pointer (some ⟨p,0,none⟩),.int .i64 f,.int .i64 n] w fun e w'=>e=.returned (.int .i64 (if d.off then 4 else 11))∧Below w.heap.size w w':=by
 obtain ⟨w3,hw3⟩:∃ w3,w3=w.alloc (.cells #[.int .i64 n] 3):=⟨_,rfl⟩
 have hb:Below w.heap.size w w3:=by rw [hw3];exact (by repeat (first |with_reducible exact Below.refl _ _ |with_reducible assumption |with_reducible refine Below.drew ?_ |with_reducible refine below_drewN ?_ _ |with_reducible refine Below.alloc ?_ (by simp<;>omega) _ |with_reducible refine Below.setCell ?_ (by simp<;>omega) _))
 have HB:=hid hb
 have c:Calls Tryz.prog 102 #[.pointer (some ⟨p,0,none⟩),.int .i64 f] w3 fun e w'=>e=.returned (.int .i64 (if d.off then 4 else 11))∧w'=w3:=by
  cases ho:d.off
  ·have hk:known f=false:=by rcases hx with h |h;rw [ho]at h;cases h;exact h
   have:=fault_on p P d f _ (h.later hb) ho
   rw [hk]at this;exact this
  ·exact fault_off p P d f _ (h.later hb) ho
 obtain ⟨r,hr,hr0⟩:∃ r:Int,r=(if d.off then 4 else 11)∧(r == 0)=false:=⟨_,rfl,by cases d.off<;>rfl⟩
 rw [←hr]at c ⊢
 have C:=hid c;have HW3:=hid hw3
 clear c hb h hx hr hw3
 go_enter Tryz.func104,Tryz.ntmps104
 go_wp2_with (go_at_call 102;rw [←HW3.out];refine C.out.mono ?_;rintro e wx ⟨rfl,hwx⟩;obtain rfl:=hwx)
 go_ret
 exact ⟨rfl,HB.out⟩
theorem cutd1_0(p:Nat)(P:Parts)(d:DS)(xf xn n:Nat)(w:World)(h:DiskP w p P d)(cf:w.cell? ⟨xf,0,none⟩=some (.pointer (some ⟨p,3,none⟩)))(cn:w.cell? ⟨xn,0,none⟩=some (.int .i64 (n:Int)))(hn:n≤d.f0.now.length) :
  Calls Tryz.prog 129 #[.pointer (some ⟨xf,0,none⟩),.pointer (some ⟨xn,0,none⟩)] w fun e w'=>∃ x,e=.returned (.int .i64 x)∧(x=0∧(∃ P',DiskP w' p P' (d.put 0 (cutF d.f0 n))∧Grew P w P')∧DFrame w w' p P.all):=by
 have cs:=cut_any p 3 P.k0 P.m0 n P.S0 P.a0 d.f0 w h.f0 h.ok.ok0 hn
 have CS:=hid cs;have H:=hid h
 clear h cs
 go_enter Tryz.func129,Tryz.ntmps129
 go_wp2_with (go_at_call 130;refine CS.out.mono ?_;rintro e w2 ⟨rfl,hF2,hfr2⟩;replace hF2:=hid hF2;replace hfr2:=hid hfr2)
 go_ret
 have hfr:=hfr2.out
 have hlen:=cutF_now d.f0 n hn
 have hok:(d.put 0 (cutF d.f0 n)).Ok:=⟨H.out.ok.r1,H.out.ok.r2,by have:=H.out.ok.sum;show (cutF d.f0 n).now.length+d.f1.now.length≤d.room;omega,cutF_ok H.out.ok.ok0 hn,H.out.ok.ok1,H.out.ok.kl,H.out.ok.tn,H.out.ok.lf,H.out.ok.op⟩
 exact ⟨0,rfl,rfl,⟨_,H.out.file0 hF2.out hfr hok,fun k hk=>by rcases hk with (h |h) |h |h;exact Or.inl (Or.inl h);exact Or.inr h.1;exact Or.inl (Or.inr (Or.inl h));exact Or.inl (Or.inr (Or.inr h))⟩,hfr.df.imp (fun _ _ h=>Or.inl h)⟩
theorem cutd_0(p:Nat)(P:Parts)(d:DS)(n:Int)(w:World)(h:DiskP w p P d)(ho:d.off=false)(hop:d.ops<1000000000) :
  Calls Tryz.prog 104 #[.pointer (some ⟨p,0,none⟩),.int .i64 0,.int .i64 n] w fun e w'=>e=.returned (.int .i64 (cutD d 0 n).1)∧(∃ P',DiskP w' p P' (cutD d 0 n).2∧Grew P w P')∧DFrame w w' p P.all:=by
 obtain ⟨w3,hw3⟩:∃ w3,w3=w.alloc (.cells #[.int .i64 n] 3):=⟨_,rfl⟩
 have hb3:Below w.heap.size w w3:=by rw [hw3];exact (by repeat (first |with_reducible exact Below.refl _ _ |with_reducible assumption |with_reducible refine Below.drew ?_ |with_reducible refine below_drewN ?_ _ |with_reducible refine Below.alloc ?_ (by simp<;>omega) _ |with_reducible refine Below.setCell ?_ (by simp<;>omega) _))
 have hpl:=h.f0.plt
 have h3:=h.later hb3
 have cf:=fault_on p P d 0 w3 h3 ho
 rw [show known 0=true from rfl,if_pos rfl]at cf
 have k5:w3.cell? ⟨w.heap.size,0,none⟩=some (.int .i64 n):=by rw [hw3,World.cell?_alloc_at _ _ _ _ rfl];rfl
 have z3:w3.heap.size=w.heap.size+1:=by rw [hw3];simp
 obtain ⟨w4,hw4⟩:∃ w4,w4=w3.alloc (.cells #[.pointer (some ⟨p,3,none⟩)] 108):=⟨_,rfl⟩
 have hb4:Below w3.heap.size w3 w4:=by rw [hw4];exact (Below.refl _ _).alloc (Nat.le_refl _) _
 have h4:=h3.later hb4
 have k5':=keep_old hb4 k5
 have k8:w4.cell? ⟨w3.heap.size,0,none⟩=some (.pointer (some ⟨p,3,none⟩)):=by rw [hw4,World.cell?_alloc_at _ _ _ _ rfl];rfl
 have c3:=h4.f0.c0
 have CF:=hid cf;have H:=hid h;have H4:=hid h4;have HB:=hid (gt hb3 hb4);have HW3:=hid hw3;have HW4:=hid hw4;have Z3:=hid z3
 have hr2:=h.ok.r2;have hsum:=h.ok.sum
 have hfile:d.file 0=d.f0:=rfl
 have K5:=hid k5';have K8:=hid k8
 clear h h3 h4 hb3 hb4 cf z3 hw3 hw4
 obtain ⟨L,hLL⟩:∃ L,L=d.f0.now.length:=⟨_,rfl⟩
 rw [←hLL]at c3
 have hlb:L≤32768:=by omega
 have HLL:=hid hLL
 have hwd:cutD d 0 n=if n<0∨(L:Int)<n then (11,d) else if d.left=1 then (4,crashD (opsD d) d.keep d.torn) else (0,(tickD d).put 0 (cutF d.f0 n.toNat)):=by
  simp only [cutD,ho,hfile,←hLL];rfl
 rw [hwd]
 clear hwd hLL hfile
 by_cases hneg:n<0
 ·rw [if_pos (Or.inl hneg)]
  go_enter Tryz.func104,Tryz.ntmps104
  go_wp2_with (go_at_call 102;rw [←HW3.out];refine CF.out.mono ?_;rintro e wx ⟨rfl,hwx⟩;obtain rfl:=hwx;clear CF)
  rw [←HW4.out]
  go_quiet (fail)
  go_wp2
  go_ret
  exact ⟨rfl,⟨P,H4.out.drawn nq,fun k hk=>Or.inl hk⟩,(DFrame.below HB.out).drawn nq⟩
 ·have hneg':decide (n<0)=false:=by simp;omega
  by_cases hbig:(L:Int)<n
  ·rw [if_pos (Or.inr hbig)]
   go_enter Tryz.func104,Tryz.ntmps104
   go_wp2_with (go_at_call 102;rw [←HW3.out];refine CF.out.mono ?_;rintro e wx ⟨rfl,hwx⟩;obtain rfl:=hwx;clear CF)
   rw [←HW4.out]
   go_quiet (fail)
   go_wp2
   go_ret
   exact ⟨rfl,⟨P,H4.out.drawn nq,fun k hk=>Or.inl hk⟩,(DFrame.below HB.out).drawn nq⟩
  ·have hbig':decide ((L:Int)<n)=false:=by simp;omega
   rw [if_neg (by omega)]
   have hz:w.heap.size≤w4.heap.size:=HB.out.size
   by_cases hl1:d.left=1
   ·rw [if_pos hl1]
    have co:=fun k=>operate_crash p P d (.func (.func 129) #[] #[.pointer (some ⟨w3.heap.size,0,none⟩),.pointer (some ⟨w.heap.size,0,none⟩)]) (w4.drewN k) (H4.out.drawn k) ho hl1 hop
    have CO:=hid co
    clear co
    go_enter Tryz.func104,Tryz.ntmps104
    go_wp2_with (go_at_call 102;rw [←HW3.out];refine CF.out.mono ?_;rintro e wx ⟨rfl,hwx⟩;obtain rfl:=hwx;clear CF)
    rw [←HW4.out]
    go_quiet (fail)
    go_wp2_with (go_at_call 128;refine (CO.out _).mono ?_;rintro e w9 ⟨rfl,⟨P',hd9,hg9⟩,hf9⟩;replace hd9:=hid hd9;replace hg9:=hid hg9;replace hf9:=hid hf9)
    go_ret
    exact ⟨rfl,⟨P',hd9.out,fun k hk=>by rcases hg9.out k hk with h |h;exact Or.inl h;exact Or.inr (Nat.le_trans hz h)⟩,((DFrame.below HB.out).drawn nq).trans (hf9.out.imp (fun _ _ h=>Or.inl h))⟩
   ·rw [if_neg hl1]
    obtain ⟨A,rfl⟩:=Int.eq_ofNat_of_zero_le (show 0≤n by omega)
    rw [Int.toNat_natCast]
    have hAL:A≤d.f0.now.length:=by rw [←HLL.out];omega
    have co:=fun k=>operate_do p P d 129 #[.pointer (some ⟨w3.heap.size,0,none⟩),.pointer (some ⟨w.heap.size,0,none⟩)] (w4.drewN k) (H4.out.drawn k) hl1 hop (enters_of Tryz.func129 (by kernel_rfl) rfl)
     (fun x w'=>x=0∧(∃ P',DiskP w' p P' ((tickD d).put 0 (cutF d.f0 A))∧Grew P w P')∧DFrame w w' p P.all) (fun w1 h1 hf1=>by
      have hz3:w.heap.size+1=w3.heap.size:=Z3.out.symm
      have hfw:DFrame w w1 p P.all:=((DFrame.below HB.out).drawn k).trans (hf1.imp (fun _ _ h=>h.elim))
      have cw:=cutd1_0 p P (tickD d) w3.heap.size w.heap.size A w1 h1
       (hf1.cellAt (w:=w4.drewN k) K8.out (by show w3.heap.size≠p;omega) (fun h=>h)) (hf1.cellAt (w:=w4.drewN k) K5.out (by show w.heap.size≠p;omega) (fun h=>h)) hAL
      refine cw.mono ?_
      rintro e w2 ⟨x,rfl,hx,⟨P',hd,hg⟩,hf⟩
      refine ⟨x,rfl,hx,⟨P',hd,fun k hk=>?_⟩,hfw.trans (hf.imp (fun _ _ h=>Or.inl h))⟩
      rcases hg k hk with h |h
      ·exact Or.inl h
      ·exact Or.inr (Nat.le_trans hfw.size h))
    have CO:=hid co
    clear co
    go_enter Tryz.func104,Tryz.ntmps104
    go_wp2_with (go_at_call 102;rw [←HW3.out];refine CF.out.mono ?_;rintro e wx ⟨rfl,hwx⟩;obtain rfl:=hwx;clear CF)
    rw [←HW4.out]
    go_quiet (fail)
    go_wp2_with (go_at_call 128;refine (CO.out _).mono ?_;rintro e w9 ⟨x,rfl,hx,hd9,hf9⟩;replace hx:=hid hx;replace hd9:=hid hd9;replace hf9:=hid hf9)
    go_ret
    exact ⟨by rw [←hx.out];rfl,hd9.out,hf9.out⟩
theorem cutd1_1(p:Nat)(P:Parts)(d:DS)(xf xn n:Nat)(w:World)(h:DiskP w p P d)(cf:w.cell? ⟨xf,0,none⟩=some (.pointer (some ⟨p,6,none⟩)))(cn:w.cell? ⟨xn,0,none⟩=some (.int .i64 (n:Int)))(hn:n≤d.f1.now.length) :
  Calls Tryz.prog 129 #[.pointer (some ⟨xf,0,none⟩),.pointer (some ⟨xn,0,none⟩)] w fun e w'=>∃ x,e=.returned (.int .i64 x)∧(x=0∧(∃ P',DiskP w' p P' (d.put 1 (cutF d.f1 n))∧Grew P w P')∧DFrame w w' p P.all):=by
 have cs:=cut_any p 6 P.k1 P.m1 n P.S1 P.a1 d.f1 w h.f1 h.ok.ok1 hn
 have CS:=hid cs;have H:=hid h
 clear h cs
 go_enter Tryz.func129,Tryz.ntmps129
 go_wp2_with (go_at_call 130;refine CS.out.mono ?_;rintro e w2 ⟨rfl,hF2,hfr2⟩;replace hF2:=hid hF2;replace hfr2:=hid hfr2)
 go_ret
 have hfr:=hfr2.out
 have hlen:=cutF_now d.f1 n hn
 have hok:(d.put 1 (cutF d.f1 n)).Ok:=⟨H.out.ok.r1,H.out.ok.r2,by have:=H.out.ok.sum;show d.f0.now.length+(cutF d.f1 n).now.length≤d.room;omega,H.out.ok.ok0,cutF_ok H.out.ok.ok1 hn,H.out.ok.kl,H.out.ok.tn,H.out.ok.lf,H.out.ok.op⟩
 exact ⟨0,rfl,rfl,⟨_,H.out.file1 hF2.out hfr hok,fun k hk=>by rcases hk with h |(h |h) |h;exact Or.inl (Or.inl h);exact Or.inl (Or.inr (Or.inl h));exact Or.inr h.1;exact Or.inl (Or.inr (Or.inr h))⟩,hfr.df.imp (fun _ _ h=>Or.inr (Or.inl h))⟩
theorem cutd_1(p:Nat)(P:Parts)(d:DS)(n:Int)(w:World)(h:DiskP w p P d)(ho:d.off=false)(hop:d.ops<1000000000) :
  Calls Tryz.prog 104 #[.pointer (some ⟨p,0,none⟩),.int .i64 1,.int .i64 n] w fun e w'=>e=.returned (.int .i64 (cutD d 1 n).1)∧(∃ P',DiskP w' p P' (cutD d 1 n).2∧Grew P w P')∧DFrame w w' p P.all:=by
 obtain ⟨w3,hw3⟩:∃ w3,w3=w.alloc (.cells #[.int .i64 n] 3):=⟨_,rfl⟩
 have hb3:Below w.heap.size w w3:=by rw [hw3];exact (by repeat (first |with_reducible exact Below.refl _ _ |with_reducible assumption |with_reducible refine Below.drew ?_ |with_reducible refine below_drewN ?_ _ |with_reducible refine Below.alloc ?_ (by simp<;>omega) _ |with_reducible refine Below.setCell ?_ (by simp<;>omega) _))
 have hpl:=h.f0.plt
 have h3:=h.later hb3
 have cf:=fault_on p P d 1 w3 h3 ho
 rw [show known 1=true from rfl,if_pos rfl]at cf
 have k5:w3.cell? ⟨w.heap.size,0,none⟩=some (.int .i64 n):=by rw [hw3,World.cell?_alloc_at _ _ _ _ rfl];rfl
 have z3:w3.heap.size=w.heap.size+1:=by rw [hw3];simp
 obtain ⟨w4,hw4⟩:∃ w4,w4=w3.alloc (.cells #[.pointer (some ⟨p,6,none⟩)] 108):=⟨_,rfl⟩
 have hb4:Below w3.heap.size w3 w4:=by rw [hw4];exact (Below.refl _ _).alloc (Nat.le_refl _) _
 have h4:=h3.later hb4
 have k5':=keep_old hb4 k5
 have k8:w4.cell? ⟨w3.heap.size,0,none⟩=some (.pointer (some ⟨p,6,none⟩)):=by rw [hw4,World.cell?_alloc_at _ _ _ _ rfl];rfl
 have c3:=h4.f1.c0
 have CF:=hid cf;have H:=hid h;have H4:=hid h4;have HB:=hid (gt hb3 hb4);have HW3:=hid hw3;have HW4:=hid hw4;have Z3:=hid z3
 have hr2:=h.ok.r2;have hsum:=h.ok.sum
 have hfile:d.file 1=d.f1:=rfl
 have K5:=hid k5';have K8:=hid k8
 clear h h3 h4 hb3 hb4 cf z3 hw3 hw4
 obtain ⟨L,hLL⟩:∃ L,L=d.f1.now.length:=⟨_,rfl⟩
 rw [←hLL]at c3
 have hlb:L≤32768:=by omega
 have HLL:=hid hLL
 have hwd:cutD d 1 n=if n<0∨(L:Int)<n then (11,d) else if d.left=1 then (4,crashD (opsD d) d.keep d.torn) else (0,(tickD d).put 1 (cutF d.f1 n.toNat)):=by
  simp only [cutD,ho,hfile,←hLL];rfl
 rw [hwd]
 clear hwd hLL hfile
 by_cases hneg:n<0
 ·rw [if_pos (Or.inl hneg)]
  go_enter Tryz.func104,Tryz.ntmps104
  go_wp2_with (go_at_call 102;rw [←HW3.out];refine CF.out.mono ?_;rintro e wx ⟨rfl,hwx⟩;obtain rfl:=hwx;clear CF)
  rw [←HW4.out]
  go_quiet (fail)
  go_wp2
  go_ret
  exact ⟨rfl,⟨P,H4.out.drawn nq,fun k hk=>Or.inl hk⟩,(DFrame.below HB.out).drawn nq⟩
 ·have hneg':decide (n<0)=false:=by simp;omega
  by_cases hbig:(L:Int)<n
  ·rw [if_pos (Or.inr hbig)]
   go_enter Tryz.func104,Tryz.ntmps104
   go_wp2_with (go_at_call 102;rw [←HW3.out];refine CF.out.mono ?_;rintro e wx ⟨rfl,hwx⟩;obtain rfl:=hwx;clear CF)
   rw [←HW4.out]
   go_quiet (fail)
   go_wp2
   go_ret
   exact ⟨rfl,⟨P,H4.out.drawn nq,fun k hk=>Or.inl hk⟩,(DFrame.below HB.out).drawn nq⟩
  ·have hbig':decide ((L:Int)<n)=false:=by simp;omega
   rw [if_neg (by omega)]
   have hz:w.heap.size≤w4.heap.size:=HB.out.size
   by_cases hl1:d.left=1
   ·rw [if_pos hl1]
    have co:=fun k=>operate_crash p P d (.func (.func 129) #[] #[.pointer (some ⟨w3.heap.size,0,none⟩),.pointer (some ⟨w.heap.size,0,none⟩)]) (w4.drewN k) (H4.out.drawn k) ho hl1 hop
    have CO:=hid co
    clear co
    go_enter Tryz.func104,Tryz.ntmps104
    go_wp2_with (go_at_call 102;rw [←HW3.out];refine CF.out.mono ?_;rintro e wx ⟨rfl,hwx⟩;obtain rfl:=hwx;clear CF)
    rw [←HW4.out]
    go_quiet (fail)
    go_wp2_with (go_at_call 128;refine (CO.out _).mono ?_;rintro e w9 ⟨rfl,⟨P',hd9,hg9⟩,hf9⟩;replace hd9:=hid hd9;replace hg9:=hid hg9;replace hf9:=hid hf9)
    go_ret
    exact ⟨rfl,⟨P',hd9.out,fun k hk=>by rcases hg9.out k hk with h |h;exact Or.inl h;exact Or.inr (Nat.le_trans hz h)⟩,((DFrame.below HB.out).drawn nq).trans (hf9.out.imp (fun _ _ h=>Or.inl h))⟩
   ·rw [if_neg hl1]
    obtain ⟨A,rfl⟩:=Int.eq_ofNat_of_zero_le (show 0≤n by omega)
    rw [Int.toNat_natCast]
    have hAL:A≤d.f1.now.length:=by rw [←HLL.out];omega
    have co:=fun k=>operate_do p P d 129 #[.pointer (some ⟨w3.heap.size,0,none⟩),.pointer (some ⟨w.heap.size,0,none⟩)] (w4.drewN k) (H4.out.drawn k) hl1 hop (enters_of Tryz.func129 (by kernel_rfl) rfl)
     (fun x w'=>x=0∧(∃ P',DiskP w' p P' ((tickD d).put 1 (cutF d.f1 A))∧Grew P w P')∧DFrame w w' p P.all) (fun w1 h1 hf1=>by
      have hz3:w.heap.size+1=w3.heap.size:=Z3.out.symm
      have hfw:DFrame w w1 p P.all:=((DFrame.below HB.out).drawn k).trans (hf1.imp (fun _ _ h=>h.elim))
      have cw:=cutd1_1 p P (tickD d) w3.heap.size w.heap.size A w1 h1
       (hf1.cellAt (w:=w4.drewN k) K8.out (by show w3.heap.size≠p;omega) (fun h=>h)) (hf1.cellAt (w:=w4.drewN k) K5.out (by show w.heap.size≠p;omega) (fun h=>h)) hAL
      refine cw.mono ?_
      rintro e w2 ⟨x,rfl,hx,⟨P',hd,hg⟩,hf⟩
      refine ⟨x,rfl,hx,⟨P',hd,fun k hk=>?_⟩,hfw.trans (hf.imp (fun _ _ h=>Or.inl h))⟩
      rcases hg k hk with h |h
      ·exact Or.inl h
      ·exact Or.inr (Nat.le_trans hfw.size h))
    have CO:=hid co
    clear co
    go_enter Tryz.func104,Tryz.ntmps104
    go_wp2_with (go_at_call 102;rw [←HW3.out];refine CF.out.mono ?_;rintro e wx ⟨rfl,hwx⟩;obtain rfl:=hwx;clear CF)
    rw [←HW4.out]
    go_quiet (fail)
    go_wp2_with (go_at_call 128;refine (CO.out _).mono ?_;rintro e w9 ⟨x,rfl,hx,hd9,hf9⟩;replace hx:=hid hx;replace hd9:=hid hd9;replace hf9:=hid hf9)
    go_ret
    exact ⟨by rw [←hx.out];rfl,hd9.out,hf9.out⟩
theorem cut_call(p:Nat)(P:Parts)(d:DS)(f n:Int)(w:World)(h:DiskP w p P d)(hop:d.ops<1000000000) :
  Calls Tryz.prog 104 #[.pointer (some ⟨p,0,none⟩),.int .i64 f,.int .i64 n] w fun e w'=>e=.returned (.int .i64 (cutD d f n).1)∧(∃ P',DiskP w' p P' (cutD d f n).2∧Grew P w P')∧DFrame w w' p P.all:=by
 by_cases hx:d.off=true∨known f=false
 ·have e:cutD d f n=(if d.off then 4 else 11,d):=by
   unfold cutD
   rcases hx with h |h
   ·simp [h]
   ·cases d.off<;>simp [h]
  rw [e]
  refine (cut_off p P d f n w h hx).mono ?_
  rintro e w' ⟨rfl,hb'⟩
  exact ⟨rfl,⟨P,h.later hb',fun k hk=>Or.inl hk⟩,DFrame.below hb'⟩
 ·have ho:d.off=false:=by cases h':d.off;rfl;exact absurd (Or.inl h') hx
  have hk:known f=true:=by cases h':known f;exact absurd (Or.inr h') hx;rfl
  rcases known_cases hk with rfl |rfl
  ·exact cutd_0 p P d n w h ho hop
  ·exact cutd_1 p P d n w h ho hop
end Dsk
namespace Dsk
open Go.RowKit Go.Maps
end Dsk
end Go.Proofs.YtadhdedjdgjboaaGreatDoor
