/- The list of free pages, as the program tells it; no statement of the seat is proved here. -/
import Derived.Test.YtgjgkpnjchflaaaGreatDoorH36
import Derived.WalkMore
import Derived.Deep.LoopGhost
set_option maxHeartbeats 16000000
set_option maxRecDepth 20000
namespace Go.Proofs.YtgjgkpnjchflaaaGreatDoor
section
open Go.RowKit Go.Maps
open Dsk (gt hid undrew keep_old keep_cell lt_cell Rd)
open Cch (Fr wpAnyK wpAnyK_done wp_region_K)
open Jrn (Pv2 Row5 numAt RB fr_two trunkN rootN)
section
variable {arm:Prop} {room croom K:Nat} {p q:Nat} {R:Nat→Prop} {t:RS} {w:World}
def BX2(b:Nat)(n:Int)(g cap:Nat)(W:World):Prop:=W.cell? ⟨b,0,none⟩=some (.int .i64 n)∧W.cell? ⟨b,1,none⟩=some (.slice (some ⟨g,0,none⟩) 512 cap)
theorem list_any(hb g cap f c B0:Nat)(ws:List Nat)(tr:List (Nat×List Nat))(h:PrgAt arm room croom K w p q R t)(hh:HeapAt w hb p)(hR:R hb)(hr:Row5 w B0 g cap (rootN f c ws))(hf:f<4294967296)(hc4:c<4294967296)(hch:Chain8 t.pages f tr)(hc:(flat tr).length=c)(hn:tr.length<t.pages.length)(hbn:t.pages.length≤4000)(hcb:c≤4000)(hK:K+tr.length≤800000) :
  Calls Tryz.prog 32 #[.pointer (some ⟨hb,0,none⟩),Pv2 1 g 0 cap] w fun e w'=>∃ ao cp,e=.returned (.tuple #[.slice ao c cp,.int .i64 0])∧AO arm room croom (K+tr.length) p q R t w.heap.size w (.slice ao c cp) (flat tr) w':=by
 have HR:=hid hR;have HH:=hid hh
 have B1:=hid (show Below w.heap.size w (w.alloc (.cells #[.int .i64 1,.slice (some ⟨g,0,none⟩) 512 cap] 83)) from Below.alloc (Below.refl _ _) (Nat.le_refl _) _)
 have HX:=hid (RB.new 83 w 1 (some ⟨g,0,none⟩) 512 cap)
 have RW:=hid (hr.keep B1.out)
 have CF:=hid (fun W (hW:Below (w.alloc (.cells #[.int .i64 1,.slice (some ⟨g,0,none⟩) 512 cap] 83)).heap.size (w.alloc (.cells #[.int .i64 1,.slice (some ⟨g,0,none⟩) 512 cap] 83)) W)=>Jrn.first_any 1 g 0 cap (rootN f c ws) W (RW.out.keep hW).rd (Jrn.rootN_bytes _ _ _))
 have CC:=hid (fun W (hW:Below (w.alloc (.cells #[.int .i64 1,.slice (some ⟨g,0,none⟩) 512 cap] 83)).heap.size (w.alloc (.cells #[.int .i64 1,.slice (some ⟨g,0,none⟩) 512 cap] 83)) W)=>Jrn.count_any 1 g 0 cap (rootN f c ws) W (RW.out.keep hW).rd (Jrn.rootN_bytes _ _ _))
 rw [Jrn.root_first _ _ _ hf]at CF
 rw [Jrn.root_count _ _ _ hc4]at CC
 obtain ⟨T,hT⟩:∃ T,T=tr.length:=⟨_,rfl⟩
 rw [←hT]at hn hK ⊢
 have HTT:=hid hT
 clear hT
 have H:=hid h;have HC:=hid hch;have HL:=hid hc;have HN:=hid hn;have HBN:=hid hbn;have HKK:=hid hK
 obtain ⟨W1,hW1⟩:∃ W1,W1=w.alloc (.cells #[.int .i64 1,.slice (some ⟨g,0,none⟩) 512 cap] 83):=⟨_,rfl⟩
 rw [←hW1]at B1 HX RW CF CC
 have HW1:=hid hW1
 have hs0:BX2 w.heap.size 1 g cap W1.drew:=⟨HX.out.cells.1,HX.out.cells.2.1⟩
 clear h hh hR hr hf hch hc hn hbn hK hW1
 unfold Pv2 at *
 go_enter Tryz.func32,Tryz.ntmps32
 go_upto_region 2 with fail
 go_step3
 go_upto_region 2 with fail
 rw [←HW1.out]
 refine wp_region_K (S:=fun W=>BX2 w.heap.size 1 g cap W∧Below W1.heap.size W1 W) (fun _=>false) (by kernel_rfl) ⟨hs0,(Below.refl _ _).drew⟩ (fun hHeld=>?_)
 refine gkt 0 ?_ (h:=by intro W hSw;obtain ⟨⟨k0,k1⟩,_⟩:=hSw;go_simp;first |done |with_reducible rfl)
 refine gkt 2 ?_ (h:=by intro W hSw;obtain ⟨⟨k0,k1⟩,_⟩:=hSw;go_simp;first |done |with_reducible rfl)
 refine gk1 1 (fun K hK=>?_)
 go_simp
 go_at_call 64;refine (CF.out W1.drew (Below.refl _ _).drew).mono ?_;rintro e w2 ⟨rfl,hb2⟩;have B2:=hid (show Below W1.heap.size W1 w2 from undrew hb2);have hR:BX2 w.heap.size 1 g cap w2∧Below W1.heap.size W1 w2:=⟨⟨keep_old B2.out HX.out.cells.1,keep_old B2.out HX.out.cells.2.1⟩,B2.out⟩;clear hb2
 refine hK.out _ _ hR (fun hHeld=>?_)
 clear hK K
 (try simp only [Act.put,sA,sZ,sS])
 refine gk1 3 (fun K hK=>?_)
 go_simp
 go_at_call 33;refine (CC.out w2 B2.out).mono ?_;rintro e w3 ⟨rfl,hb3⟩;have B3:=hid (gt B2.out hb3);have hR:BX2 w.heap.size 1 g cap w3∧Below W1.heap.size W1 w3:=⟨⟨keep_old B3.out HX.out.cells.1,keep_old B3.out HX.out.cells.2.1⟩,B3.out⟩;clear hb3
 refine hK.out _ _ hR (fun hHeld=>?_)
 clear hK K
 (try simp only [Act.put,sA,sZ,sS])
 refine gkp 4 ?_
 refine gkp 5 ?_
 refine wpAnyK_done (by kernel_rfl) ?_ _
 clear hHeld hR hs0
 have B4:=hid (gt B1.out B3.out)
 have A0:=hid (show AO arm room croom K p q R t w.heap.size w (.slice none 0 0) [] w3 from ⟨(H.out.keep B4.out).more (Below.refl _ _) (fun b hb=>by rcases hb with hb |hb;exact Or.inl hb;cases hb),⟨rfl,.inl ⟨rfl,rfl⟩⟩,fun b hb=>(by cases hb),Rok.of_below B4.out⟩)
 have CPg:=hid (prg_pages (H.out.keep B4.out))
 have c0:=(HH.out.keep B4.out).cell
 obtain ⟨N,hN⟩:∃ N,N=t.pages.length:=⟨_,rfl⟩
 rw [←hN]at HN HBN CPg
 have HNE:=hid hN
 clear hN
 go_wp2
 go_step3
 go_wp2_with (go_at_call 10;refine CPg.out.mono ?_;rintro e w4 ⟨rfl,hb4⟩;have A4:=hid (A0.out.below hb4);clear hb4)
 clear c0
 clear CPg CC CF
 go_loopg [6,7,24] (T+1) (fun k v6 v7 v24 W=>∃ (i nx:Nat) (ao:Option Addr) (cp m:Nat),i+k=T+1∧i≤T∧v24=.int .i64 (i:Int)∧v7=.int .i64 (nx:Int)∧v6=.slice ao m cp∧Hid (m=(flat (tr.take i)).length)∧Hid (Chain8 t.pages nx (tr.drop i))∧Hid (AO arm room croom (K+i) p q R t w.heap.size w (.slice ao m cp) (flat (tr.take i)) W))
 case atStart=>exact ⟨0,f,none,0,0,by omega,by omega,rfl,rfl,rfl,hid rfl,HC,A4⟩
 case round=>
  obtain ⟨gk0,hgk0⟩:∃ g,g=gk:=⟨_,rfl⟩
  obtain ⟨i,nx,ao,cp,m,hik,hiT,rfl,rfl,rfl,HM,HCH,A5⟩:=hrel
  rw [←hgk0]at hik
  clear A0 A4
  cases hd:tr.drop i with
  | nil=>
   have hi:i=T:=by have:=congrArg List.length hd;rw [List.length_drop,List.length_nil,←HTT.out]at this;omega
   have hc5:=HCH.out
   rw [hd]at hc5
   have hnx:nx=0:=hc5
   subst hnx
   have hlt:(i:Int)<(N:Int):=by have:=HN.out;omega
   have hfl:flat (tr.take i)=flat tr:=by rw [hi,HTT.out,List.take_length]
   have HFL:=hid hfl
   have HI:=hid hi
   clear hc5 hd hfl
   go_wp2
   rw [Exit.noGoto_ret]
   go_ret2
   have hm:m=c:=by have:=HM.out;rw [HFL.out,HL.out]at this;exact this
   subst hm
   refine ⟨ao,cp,rfl,?_⟩
   have:=A5.out
   rw [HFL.out,HI.out]at this
   exact this
  | cons x r=>
   have hi:i<T:=by have:=congrArg List.length hd;rw [List.length_drop,List.length_cons,←HTT.out]at this;omega
   have hc5:=HCH.out
   rw [hd]at hc5
   obtain ⟨hx0,hx1,hx2,hx3,hx4,nx2,hx5,hx6,hx7⟩:=hc5
   have hlt:(i:Int)<(N:Int):=by have:=HN.out;omega
   have hne:¬(nx:Int)=0:=by omega
   obtain ⟨j,hj⟩:∃ j,nx=j+1:=⟨nx - 1,by omega⟩
   rw [←hx0,hj,Nat.add_sub_cancel]at hx6
   have hh5:=HH.out.rok A5.out.k HR.out
   have CT:=hid (trunk_yes (K:=K+i) (R:=Own2 R (.slice ao m cp)) hb j nx2 x.2 A5.out.p hh5 (by omega) (by omega) hx6 hx3 (by have:=HKK.out;omega))
   rw [←hj]at CT
   have H5:=hid hh5;have HX2:=hid hx2;have HX3:=hid hx3;have HX4:=hid hx4;have HX5:=hid hx5;have HX7:=hid hx7;have HD:=hid hd;have HX0:=hid hx0
   have hnb:nx<4294967296:=by have:=HBN.out;have:=HNE.out;omega
   clear hx0 hx1 hx2 hx3 hx4 hx5 hx6 hx7 hj hh5 hd
   unfold Pv2 at CT
   go_upto_region 10 with (go_at_call 65;refine CT.out.mono ?_;rintro e w6 ⟨g6,cap6,rfl,hr6,hg6,hP6,hok6⟩;have R6:=hid hr6;have G6:=hid hg6;have P6:=hid hP6;have K6:=hid hok6;clear hr6 hg6 hP6 hok6)
   have KR6:Hid (Rok R w w6):=hid (A5.out.k.then K6.out (fun b hb=>Or.inl hb))
   have A6:Hid (AO arm room croom (K+i+1) p q (Plus R g6) t w.heap.size w6 (.slice ao m cp) (flat (tr.take i)) w6):=hid ⟨P6.out.less (fun b hb=>by rcases hb with (hb |hb) |hb;exact Or.inl (Or.inl hb);exact Or.inr hb;exact Or.inl (Or.inr hb)),own_fr A5.out.o K6.out (fun k hk e=>e.1 (Or.inr hk)),fun b hb hQ=>(by rcases hQ with hQ |rfl;exact A5.out.s b hb hQ;have h1:=(rr_blk A5.out.o hb).2;have h2:=G6.out;omega),Rok.of_below (Below.refl _ _)⟩
   obtain ⟨W7,hW7⟩:∃ W7,W7=w6.alloc (.cells #[.int .i64 (nx:Int),.slice (some ⟨g6,0,none⟩) 512 cap6] 118):=⟨_,rfl⟩
   have HW7:=hid hW7
   have B7:=hid (show Below w6.heap.size w6 W7 by rw [hW7];exact Below.alloc (Below.refl _ _) (Nat.le_refl _) _)
   have X7:=hid (show RB 118 W7 w6.heap.size (nx:Int) (some ⟨g6,0,none⟩) 512 cap6 by rw [hW7];exact RB.new _ _ _ _ _ _)
   have A7:=hid (A6.out.widen (Q':=Plus (Plus R g6) w6.heap.size) B7.out (fun b hb=>by rcases hb with hb |rfl;exact Or.inl hb;exact Or.inr ⟨Nat.le_refl _,X7.out.lt⟩))
   have R7:=hid (R6.out.keep B7.out)
   have hft:(flat tr).length=(flat (tr.take i)).length+(1+x.2.length+(flat r).length):=by
    conv=>lhs;rw [←List.take_append_drop i tr,HD.out]
    rw [flat_append,flat_cons];simp;omega
   have HFT:=hid hft
   have hmb:m+1+x.2.length≤c:=by have:=HM.out;have:=HL.out;omega
   have hce:flat (tr.take (i+1))=flat (tr.take i)++(nx::x.2):=by
    have e1:tr[i]? = some x:=by have:=congrArg (·[0]?) HD.out;simpa using this
    rw [List.take_add_one,e1,flat_append,HX0.out];simp [flat]
   have HCE:=hid hce
   clear hft hce
   clear hW7 A6
   rw [←HW7.out]
   have SR:=hid (lit_src W7 [.int .i64 (nx:Int)] 3 (by intro x hx;simp at hx;subst hx;rfl))
   have B8:=hid (show Below W7.heap.size W7 (W7.alloc (.cells #[.int .i64 (nx:Int)] 3)) from Below.alloc (Below.refl _ _) (Nat.le_refl _) _)
   have A8:=hid (A7.out.below B8.out)
   have hw7:w.heap.size≤(W7.alloc (.cells #[.int .i64 (nx:Int)] 3)).heap.size:=Nat.le_trans (Nat.le_trans KR6.out.size B7.out.size) B8.out.size
   have HZ7:=hid hw7
   have HX9:Hid (∀ W,AO arm room croom (K+i+1) p q (Plus (Plus R g6) w6.heap.size) t w.heap.size W7 (.slice ao m cp) (flat (tr.take i)) W→True):=hid (fun _ _=>trivial)
   have CLv:=hid (fun W=>Jrn.leaves_any (nx:Int) g6 cap6 W)
   unfold Pv2 Jrn.rowV Jrn.rowC at CLv
   have CS6:=hid (fun W (hr:Row5 W wr.heap.size g6 cap6 (trunkN nx2 x.2))=>Jrn.size_any (nx:Int) g6 0 cap6 _ W hr.rd (Jrn.trunkN_bytes _ _))
   rw [Jrn.trunk_size nx2 x.2 (by have:=HX3.out;omega)]at CS6
   unfold Pv2 at CS6
   go_upto_region 13 with (first
    | ((with_reducible refine Dsk.here_op 41 ?_);refine Cch.wpList_app rfl (.tmp 38) (.tmp 40) el41 rfl (.slice ao m cp) m _ rfl (by have:=A8.out.o;rw [←HM.out]at this;exact rr_base this (Nat.zero_le _)) (some ⟨W7.heap.size,0,none⟩) 1 1 [.int .i64 (nx:Int)] rfl SR.out (by omega) ?_;intro a9 c9 w9 ho9 hg9 ha9;have A9:=hid (A8.out.app hw7 HM.out ho9 hg9 ha9);have X9:=hid (show RB 118 w9 w6.heap.size (nx:Int) (some ⟨g6,0,none⟩) 512 cap6 from (A9.out.k.at_ (Or.inr rfl) X7.out.lt).trans X7.out);have R9:=hid (R7.out.fr A9.out.k (fun e=>e.1 (Or.inl (Or.inr rfl))));obtain ⟨x0,x1,x2,x3⟩:=X9.out.cells;clear ho9 hg9 ha9)
    | (go_at_call 66;refine (CLv.out w9).mono ?_;rintro e w10 ⟨rfl,hb10⟩;have B10:=hid hb10;obtain ⟨W11,hW11⟩:∃ W11,W11=w10.alloc (.cells #[.func (.func 69) #[.agg #[.int .i64 (nx:Int),.slice (some ⟨g6,0,none⟩) 512 cap6]] #[],.func (.func 87) #[.agg #[.int .i64 (nx:Int),.slice (some ⟨g6,0,none⟩) 512 cap6]] #[],.int .i64 8,.int .i64 4,.int .i64 126] 110):=⟨_,rfl⟩;have HW11:=hid hW11;have B11:=hid (show Below w10.heap.size w10 W11 by rw [hW11];exact Below.alloc (Below.refl _ _) (Nat.le_refl _) _);have Y11:=hid (show Jrn.RowB W11 w10.heap.size (Pv2 (nx:Int) g6 0 cap6) 8 4 126 by rw [hW11];exact heap_alloc_new _ _);obtain ⟨x0,x1,x2,x3⟩:=(RB.keep (W':=w10.alloc (.cells #[.func (.func 69) #[.agg #[.int .i64 (nx:Int),.slice (some ⟨g6,0,none⟩) 512 cap6]] #[],.func (.func 87) #[.agg #[.int .i64 (nx:Int),.slice (some ⟨g6,0,none⟩) 512 cap6]] #[],.int .i64 8,.int .i64 4,.int .i64 126] 110)) (X9.out.keep hb10) (Below.alloc (Below.refl _ _) (Nat.le_refl _) _)).cells;have X11:=hid ((X9.out.keep hb10).keep B11.out);have R11:=hid ((R9.out.keep hb10).keep B11.out);have A11:=hid ((A9.out.below hb10).widen (Q':=Plus (Plus (Plus R g6) w6.heap.size) w10.heap.size) B11.out (fun b hb=>by rcases hb with hb | rfl;exact Or.inl hb;exact Or.inr ⟨Nat.le_refl _,(Array.getElem?_eq_some_iff.1 Y11.out).1⟩));clear hb10 hW11)
    | (go_at_call 67;rw [←HW11.out];refine (CS6.out W11 R11.out).mono ?_;rintro e w12 ⟨rfl,hb12⟩;have B12:=hid hb12;clear hb12))
   have A12:=hid (A11.out.below B12.out);have R12:=hid (R11.out.keep B12.out)
   have KR:Hid (Rok R w W11):=hid (((((KR6.out.below B7.out).then A9.out.k (fun b hb=>Or.inl (Or.inl hb))).below B10.out)).below B11.out)
   have HBG:=hid (show w.heap.size≤W11.heap.size from KR.out.size)
   have HLB:=hid HX3.out
   obtain ⟨L,hL⟩:∃ L,L=x.2.length:=⟨_,rfl⟩
   rw [←hL]at hmb ⊢
   have HLL:=hid hL
   have e0:((flat (tr.take i))++nx::x.2.take 0)=flat (tr.take i)++[nx]:=by simp
   have E0:=hid e0
   clear hL A7 A8 A9 A11 R6 R7 R9 B8 CT CLv CS6 HX9 x0 x1 x2 x3 e0
   go_loopg [6,46] L (fun k v6 v46 W=>∃ (j:Nat) (ao:Option Addr) (cp mm:Nat),j+k=L∧j≤L∧v46=.int .i64 (j:Int)∧v6=.slice ao mm cp∧Hid (mm=(flat (tr.take i)++nx::x.2.take j).length)∧Hid (AO arm room croom (K+i+1) p q (Plus (Plus (Plus R g6) w6.heap.size) w10.heap.size) t w.heap.size W11 (.slice ao mm cp) (flat (tr.take i)++nx::x.2.take j) W))
   case atStart=>exact ⟨0,a9,c9,m+1,by omega,by omega,rfl,rfl,hid (by rw [E0.out,List.length_append,←HM.out];rfl),hid (by rw [E0.out];exact A12.out)⟩
   case round=>
    obtain ⟨j,ao2,cp2,mm,hjk,hjL,rfl,rfl,HMM,A13⟩:=hrel
    clear A12
    have Y13:=hid (show Jrn.RowB wr (w10.heap.size) (Pv2 (nx:Int) g6 0 cap6) 8 4 126 from (A13.out.k.at_ (Or.inr rfl) (Array.getElem?_eq_some_iff.1 Y11.out).1).trans Y11.out)
    have X13:=hid (show RB 118 wr w6.heap.size (nx:Int) (some ⟨g6,0,none⟩) 512 cap6 from (A13.out.k.at_ (Or.inl (Or.inr rfl)) X11.out.lt).trans X11.out)
    have R13:=hid (R11.out.fr A13.out.k (fun e=>e.1 (Or.inl (Or.inl (Or.inr rfl)))))
    by_cases hjl:j<L
    ·have hjl':(j:Int)<(L:Int):=by omega
     obtain ⟨y0,y1,y2,y3,y4⟩:=Y13.out.cells
     have hy:=HX4.out (x.2.getD j 0) (by rw [List.getD,List.getElem?_eq_getElem (by rw [←HLL.out];exact hjl)];exact List.getElem_mem _)
     have CR:=hid (Jrn.rget_yes (nx:Int) g6 cap6 _ 8 4 126 j wr R13.out.rd (Jrn.trunkN_bytes _ _) (by omega) (by omega) (by have:=HLB.out;have:=HLL.out;omega) (by omega))
     rw [Jrn.trunk_leaf nx2 x.2 j (by rw [←HLL.out];exact hjl) (by have:=HBN.out;have:=HNE.out;omega),Jrn.wrap_small _ (by have:=HBN.out;have:=HNE.out;omega)]at CR
     have CH:=hid (fun W (hW:Below wr.heap.size wr W)=>has_any8 hb ((x.2.getD j 0:Nat):Int) (A13.out.p.keep hW) ((HH.out.rok (KR.out.then A13.out.k (fun b hb=>Or.inl (Or.inl (Or.inl hb)))) HR.out).keep hW))
     rw [show (decide (1<((x.2.getD j 0:Nat):Int))&&decide (((x.2.getD j 0:Nat):Int)≤(t.pages.length:Int)))=true by rw [decide_eq_true (by omega),decide_eq_true (by omega)];rfl]at CH
     have htk:x.2.take (j+1)=x.2.take j++[x.2.getD j 0]:=by
      rw [List.take_add_one,List.getD,List.getElem?_eq_getElem (by rw [←HLL.out];exact hjl)];rfl
     have HTK:=hid htk
     have hmm:mm≤5000:=by have h1:=HMM.out;rw [List.length_append,List.length_cons,List.length_take]at h1;have:=HM.out;omega
     clear htk hy
     generalize x.2.getD j 0=lf at *
     unfold Jrn.rowV Jrn.rowC Pv2 at CR
     unfold Pv2 at y0 y1
     go_wp2_with (first
      | (go_at_call 56;refine CR.out.mono ?_;rintro e w14 ⟨rfl,hb14⟩;have B14:=hid hb14;clear hb14)
      | (go_at_call 37;refine (CH.out w14 B14.out).mono ?_;rintro e w15 ⟨rfl,hb15⟩;have B15:=hid (gt B14.out hb15);have A15:=hid ((A13.out.below B15.out).below (Below.alloc (Below.refl _ _) (Nat.le_refl _) (.cells #[.int .i64 (lf:Int)] 3)));have SR2:=hid (lit_src w15 [.int .i64 (lf:Int)] 3 (by intro x hx;simp at hx;subst hx;rfl));have hz15:=hid (show w.heap.size≤(w15.alloc (.cells #[.int .i64 (lf:Int)] 3)).heap.size from (by have h1:=A15.out.k.size;have h2:=HBG.out;omega));clear hb15)
      | ((with_reducible refine Dsk.here_op 62 ?_);refine Cch.wpList_app rfl (.tmp 59) (.tmp 61) el41 rfl (.slice ao2 mm cp2) mm _ rfl (by have:=A15.out.o;rw [←HMM.out]at this;exact rr_base this (Nat.zero_le _)) (some ⟨w15.heap.size,0,none⟩) 1 1 [.int .i64 (lf:Int)] rfl SR2.out (by omega) ?_;intro a16 c16 w16 ho16 hg16 ha16;have A16:=hid (A15.out.app hz15.out HMM.out ho16 hg16 ha16);clear ho16 hg16 ha16))
     go_roundg (gk - 1)
     case measure=>omega
     case rel=>
      refine ⟨j+1,a16,c16,mm+1,by omega,by omega,by go_num,rfl,hid ?_,hid ?_⟩
      ·rw [HTK.out,List.length_append,List.length_cons,List.length_append,HMM.out,List.length_append,List.length_cons];simp;omega
      ·have:=A16.out
       rw [List.append_assoc,List.cons_append,←HTK.out]at this
       exact this
    ·obtain rfl:j=L:=by omega
     have hjl':¬(j:Int)<(j:Int):=by omega
     have hfl:flat (tr.take i)++nx::x.2.take j=flat (tr.take (i+1)):=by rw [HCE.out,HLL.out,List.take_length]
     have hmc:¬(c:Int)<(mm:Int):=by
      have h1:=HMM.out
      rw [hfl,HCE.out,List.length_append,List.length_cons]at h1
      have:=HM.out;have:=HLL.out;omega
     have HFL:=hid hfl
     obtain ⟨x0,x1,x2,x3⟩:=X13.out.cells
     have CN:=hid (Jrn.next_any (nx:Int) g6 0 cap6 _ wr R13.out.rd (Jrn.trunkN_bytes _ _))
     rw [Jrn.trunk_next nx2 x.2 HX5.out]at CN
     unfold Pv2 at CN
     have hdr:tr.drop (i+1)=r:=by have:=congrArg (List.drop 1) HD.out;rw [List.drop_drop]at this;simpa using this
     have HDR:=hid hdr
     clear hfl hdr
     go_wp2_with (go_at_call 68;refine CN.out.mono ?_;rintro e w17 ⟨rfl,hb17⟩;have B17:=hid hb17;clear hb17)
     go_roundg (gk0 - 1)
     case measure=>omega
     case rel=>
      have hib:i≤100000:=by have:=HN.out;have:=HBN.out;omega
      refine ⟨i+1,nx2,ao2,cp2,mm,by omega,by omega,(by rw [IntWalk.wrap64_in ((i:Int)+1) ⟨by omega,by omega⟩];simp),rfl,rfl,hid ?_,hid ?_,hid ?_⟩
      ·rw [←HFL.out];exact HMM.out
      ·rw [HDR.out];exact HX7.out
      ·have:=(A13.out.below B17.out).narrow (Q:=R) (fun b hb=>Or.inl (Or.inl (Or.inl hb))) KR.out
       rw [HFL.out]at this
       exact this
end
end
end Go.Proofs.YtgjgkpnjchflaaaGreatDoor
