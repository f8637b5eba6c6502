/- Pages are taken, and bytes are laid into them; no statement of the seat is proved here. -/
import Derived.Test.YtneemfbnjkcflaaGreatDoorB37
import Derived.Test.YtneemfbnjkcflaaGreatDoorB36
import Derived.Lib.AppendZerosOnto
set_option maxHeartbeats 16000000
set_option maxRecDepth 20000
namespace Go.Proofs.YtneemfbnjkcflaaGreatDoor
namespace Spl
open Go.RowKit Go.Maps
open Dsk (gt hid undrew keep_old keep_cell lt_cell)
open Jrn (Rd bs bs_length bs_one bs_get bs_get' bs_append rd_own Row5 putN numAt rootN)
open Cch (Fr hd_cell hd_frozen blk_set wpAnyK wpAnyK_done wp_region_K)
def ivs(l:List Int):List Value:=l.map (fun z=>Value.int .i64 z)
theorem ivs_get(l:List Int)(k:Nat)(h:k<l.length):(ivs l)[k]? = some (.int .i64 (l.getD k 0)):=by simp [ivs,List.getElem?_map,List.getElem?_eq_getElem h,List.getD]
def RowI(W:World)(g:Nat)(l:List Int):Prop:=W.heap[g]? = some (.cells (ivs l).toArray 3 (0,0))
variable {l:List Int} {g i:Nat} {W:World}
theorem RowI.set{v:Int}(h:RowI W g l):RowI (W.setCell ⟨g,i,none⟩ (.int .i64 v)) g (l.set i v):=by
 unfold RowI
 rw [blk_set h]
 simp [ivs]
theorem RowI.cell(h:RowI W g l)(hi:i<l.length):W.cell? ⟨g,i,none⟩=some (.int .i64 (l.getD i 0)):=by rw [hd_cell h,ivs_get l i hi]
theorem RowI.lt(h:RowI W g l):g<W.heap.size:=(Array.getElem?_eq_some_iff.1 h).1
theorem RowI.rok{R:Nat→Prop}{W':World}(h:RowI W g l)(hk:Rok R W W')(hg:R g):RowI W' g l:=(hk.at_ hg h.lt).trans h
def growN(t:RS):Nat→RS
 | 0=>t
 | k+1=>(growN t k).grow
theorem growN_now(t:RS)(k:Nat):(growN t k).now=t.now++List.replicate k zeros:=by
 induction k with
 | zero=>simp [growN]
 | succ k ih=>show (growN t k).now++[zeros]=_;rw [ih,List.append_assoc,←List.replicate_succ']
theorem growN_len(t:RS)(k:Nat):(growN t k).now.length=t.now.length+k:=by rw [growN_now];simp
theorem growN_busy(t:RS)(k:Nat):(growN t k).busy=t.busy:=by
 induction k with
 | zero=>rfl
 | succ k ih=>exact ih
theorem growN_root(t:RS)(k:Nat)(h:0<t.now.length):(growN t k).now.getD 0 []=t.now.getD 0 []:=by
 rw [growN_now];simp only [List.getD];rw [List.getElem?_append_left h]
theorem growN_sure(t:RS)(k:Nat):(growN t k).sure=t.sure∧(growN t k).n=t.n:=by
 induction k with
 | zero=>exact ⟨rfl,rfl⟩
 | succ k ih=>exact ih
theorem make28c(n:Nat)(hn:n≤1000000)(w:World):(Instr.makeSlice 28 (.int .i64 (n:Int)) (.int .i64 (n:Int))).run Tryz.prog w=.ok (.slice (some ⟨w.heap.size,0,none⟩) n n) (w.alloc (.cells (Array.replicate n (.int .i64 0)) 3)):=by
 obtain ⟨i,hi,hz0,hz1,hz2⟩:=info_parts Cch.info3
 have hr:=run_make (P:=Tryz.prog) w 28 3 i (.int .i64 0) Tryz.underlying28 hi hz0 .i64 .i64 n n (by omega) (by omega) (by rw [hz2];omega) (by omega)
 simp only [Int.toNat_natCast,hz1,Nat.mul_one]at hr
 rw [hr,show Array.replicate n (Value.int .i64 0)=(List.replicate n (Value.int .i64 0)).toArray by simp,←toList_madeCells_one,Array.toArray_toList]
 rfl
def newL(N c:Nat):List Int:=(List.range c).map (fun j=>((N+1+j:Nat):Int))
theorem newL_len(N c:Nat):(newL N c).length=c:=by simp [newL]
theorem newL_get(N c:Nat){k:Nat}(h:k<c):(newL N c).getD k 0=((N+1+k:Nat):Int):=by simp [newL,List.getD,List.getElem?_map,List.getElem?_range h]
section
variable {arm:Prop} {room croom K:Nat} {p q:Nat} {R:Nat→Prop} {t:RS} {w:World}
theorem take_all(hb c:Nat)(ws:List Nat)(h:PrgAt arm room croom K w p q R t)(hh:HeapAt w hb p)(hR:R hb)(hx:t.now.getD 0 []=rootN 0 0 ws)(hbz:t.busy=true)(hn:0<t.now.length)(hn4:t.now.length+c≤4000)(hK:K+2*c≤500000) :
  Calls Tryz.prog 25 #[.pointer (some ⟨hb,0,none⟩),.int .i64 (c:Int)] w fun e w'=>∃ g,e=.returned (.tuple #[.slice (some ⟨g,0,none⟩) c c,.int .i64 0])∧RowI w' g (newL t.now.length c)∧w.heap.size≤g∧PrgAt arm room croom (K+2*c) w' p q (Plus R g) (growN t c)∧Rok R w w':=by
 obtain ⟨NN,hNN⟩:∃ NN,NN=Array.replicate c (Value.int .i64 0):=⟨_,rfl⟩
 have mk:∀ W,(Instr.makeSlice 28 (.int .i64 (c:Int)) (.int .i64 (c:Int))).run Tryz.prog W=.ok (.slice (some ⟨W.heap.size,0,none⟩) c c) (W.alloc (.cells NN 3)):=fun W=>by rw [hNN];exact make28c c (by omega) W
 obtain ⟨W1,hW1⟩:∃ W1,W1=w.alloc (.cells NN 3):=⟨_,rfl⟩
 obtain ⟨g,hg⟩:∃ g,g=w.heap.size:=⟨_,rfl⟩
 have B1:Below w.heap.size w W1:=by rw [hW1];exact Below.alloc (Below.refl _ _) (Nat.le_refl _) _
 have R1:Hid (RowI W1 g (List.replicate c 0)):=hid (by
  unfold RowI
  rw [hW1,hg,heap_alloc_new,hNN]
  unfold ivs
  rw [List.map_replicate,←List.toArray_replicate])
 have P1:=hid (h.new B1 (g:=g) (by omega) (by rw [hW1,hg];simp))
 have H1:=hid (hh.keep B1)
 have BB:=hid B1
 have HLT:=hid (h.lt hR)
 have HG:=hid hg;have HR:=hid hR;have HX:=hid hx;have HBZ:=hid hbz
 clear hNN h hh hR hx hbz B1
 go_enter Tryz.func25,Tryz.ntmps25
 go_upto_region 2 with fail
 rw [←hW1,←hg]
 clear hW1 hg mk
 go_wp2
 go_loopw [14] (fun cc W=>∃ (i:Nat) (xs:List Int),i≤c∧cc=.int .i64 (i:Int)∧Hid (RowI W g xs)∧Hid (xs.length=c∧∀ k,k<i→xs.getD k 0=((t.now.length+1+k:Nat):Int))∧Hid (PrgAt arm room croom (K+2*i) W p q (Plus R g) (growN t i)∧HeapAt W hb p∧Rok R w W)) (fun cc _=>c - (Lib.intOf cc).toNat)
 case atStart=>exact ⟨0,_,by omega,rfl,R1,hid ⟨List.length_replicate ..,fun k hk=>by omega⟩,hid ⟨P1.out,H1.out,Rok.of_below BB.out⟩⟩
 case round=>
  obtain ⟨i,xs,hi,rfl,RR,E,PP⟩:=hrel
  by_cases hiL:i<c
  ·have hiI:(i:Int)<(c:Int):=by omega
   have CT:=hid (Take_grow hb ws PP.out.1 PP.out.2.1 (Or.inl HR.out) (by rw [growN_root t i hn];exact HX.out) (by rw [growN_busy];exact HBZ.out) (by rw [growN_len];omega) (by rw [growN_len];omega) (by omega))
   rw [growN_len]at CT
   obtain ⟨V,hV⟩:∃ V:Int,V=((t.now.length+i+1:Nat):Int):=⟨_,rfl⟩
   rw [←hV]at CT
   have HV:=hid hV
   clear hV R1 P1 H1
   go_upto_region 8 with (go_at_call 52;refine CT.out.mono ?_;rintro e w2 ⟨rfl,hp2,hk2⟩;have P2:=hid hp2;have K2:=hid hk2;have R2:=hid (RowI.rok RR.out hk2 (Or.inr rfl));clear hp2 hk2)
   have c0:=R2.out.cell (i:=i) (by rw [E.out.1];exact hiL)
   have f0:w2.frozen? ⟨g,i,none⟩=false:=hd_frozen R2.out i
   go_wp2
   have F3:Fr (fun k=>k=g) w2 (w2.setCell ⟨g,i,none⟩ (.int .i64 V)):=⟨rfl,rfl,rfl,by simp,fun k _ hk=>heap_setCell_other _ _ _ _ hk⟩
   refine ⟨⟨i+1,xs.set i V,by omega,by go_num,hid R2.out.set,hid ⟨by rw [List.length_set];exact E.out.1,fun k hk=>?_⟩,hid ⟨?_,?_,?_⟩⟩,by simp [Lib.intOf];omega⟩
   ·by_cases hki:k=i
    ·subst hki
     rw [List.getD,List.getElem?_set_self (by rw [E.out.1];omega)]
     show V=_
     rw [HV.out];omega
    ·rw [List.getD,List.getElem?_set_ne (fun e=>hki e.symm)]
     exact E.out.2 k (by omega)
   ·exact P2.out.mine (fr_imp F3 (fun b hb=>Or.inr hb))
   ·refine (PP.out.2.1.rok K2.out (Or.inl HR.out)).fr F3 (fun e=>?_)
    have h1:=HLT.out;have h2:=HG.out;omega
   ·exact (PP.out.2.2.then K2.out (fun b hb=>Or.inl hb)).mine F3 (fun b hb=>by have:=HG.out;omega)
  ·obtain rfl:i=c:=by omega
   have hxs:xs=newL t.now.length i:=by
    apply List.ext_getElem (by rw [E.out.1,newL_len])
    intro k h1 h2
    have h3:=E.out.2 k (by rw [E.out.1]at h1;exact h1)
    rw [←newL_get _ i (by rw [E.out.1]at h1;exact h1),List.getD,List.getD,List.getElem?_eq_getElem h1,List.getElem?_eq_getElem h2]at h3
    exact h3
   have HX:=hid hxs
   clear hxs
   go_wp2
   go_ret2
   have hr:=RR.out
   rw [HX.out]at hr
   exact ⟨g,rfl,hr,by rw [HG.out];exact Nat.le_refl _,PP.out.1,PP.out.2.2⟩
def chunk(xs:List Nat)(i:Nat):List Nat:=(xs.drop (508*i)).take 508
def nxO(N c i:Nat):Nat:=if i+1<c then N+1+(i+1) else 0
def layT(t:RS)(N c:Nat)(xs:List Nat):Nat→RS
 | 0=>t
 | i+1=>(layT t N c xs i).put (N+i) (linkB (nxO N c i) (chunk xs i))
theorem layT_len(t:RS)(N c:Nat)(xs:List Nat)(i:Nat):(layT t N c xs i).now.length=t.now.length:=by
 induction i with
 | zero=>rfl
 | succ i ih=>show ((layT t N c xs i).now.set _ _).length=_;rw [List.length_set,ih]
theorem layT_busy(t:RS)(N c:Nat)(xs:List Nat)(i:Nat):(layT t N c xs i).busy=t.busy:=by
 induction i with
 | zero=>rfl
 | succ i ih=>exact ih
variable {xs:List Nat} {n cap:Nat} {w W:World}
theorem rd_blk{b o:Nat}(h:Rd w (some ⟨b,o,none⟩) n cap xs)(hW:W.heap[b]? = w.heap[b]?):Rd W (some ⟨b,o,none⟩) n cap xs:=by
 obtain ⟨h1,h2,h3,h4⟩:=h
 refine ⟨h1,h2,h3,fun hp=>?_⟩
 obtain ⟨b',o',e,hc⟩:=h4 hp
 cases e
 exact ⟨b,o,rfl,fun t ht=>by rw [World.cell?_of_block hW];exact hc t ht⟩
theorem rd_blk2{ao:Option Addr}{g:Nat}(h:Rd w ao n cap xs)(ha:∀ a,ao=some a→a.block=g)(hW:W.heap[g]? = w.heap[g]?):Rd W ao n cap xs:=by
 obtain ⟨h1,h2,h3,h4⟩:=h
 refine ⟨h1,h2,h3,fun hp=>?_⟩
 obtain ⟨b',o',rfl,hc⟩:=h4 hp
 obtain rfl:=ha _ rfl
 exact ⟨b',o',rfl,fun t ht=>by rw [World.cell?_of_block (a:=⟨b',o'+t,none⟩) hW];exact hc t ht⟩
theorem lay_all(hb c N bb bo m g:Nat)(xs:List Nat)(h:PrgAt arm room croom K w p q R t)(hh:HeapAt w hb p)(hR:R hb)(hRb:R bb)(hRg:R g)(hrow:RowI w g (newL N c))(hrd:Rd w (some ⟨bb,bo,none⟩) m m xs)(hx:∀ x∈xs,x<256)(hbz:t.busy=true)(hlen:t.now.length=N+c)(hm1:508*c<m+508)(hm2:m≤508*c)(hc:1≤c)(hc2:c≤1000)(hN4:N+c≤4000)(hK:K+c≤500000) :
  Calls Tryz.prog 26 #[.pointer (some ⟨hb,0,none⟩),.slice (some ⟨g,0,none⟩) c c,.slice (some ⟨bb,bo,none⟩) m m] w fun e w'=>e=.returned (.int .i64 0)∧PrgAt arm room croom (K+c) w' p q R (layT t N c xs c)∧Rok R w w':=by
 have hxl:=hrd.1
 have HP:=hid h;have HH:=hid hh;have HR:=hid hR;have HRb:=hid hRb;have HRg:=hid hRg;have HRow:=hid hrow;have HRd:=hid hrd;have HX:=hid hx;have HBZ:=hid hbz;have HL:=hid hlen;have HXL:=hid hxl
 have HBB:=hid (h.lt hRb);have HHB:=hid (h.lt hR)
 clear h hh hR hRb hRg hrow hrd hx hbz hlen hxl
 go_enter Tryz.func26,Tryz.ntmps26
 go_wp2
 go_loopw [2,13] (fun bv cc W=>∃ (i l:Nat) (ao:Option Addr),i≤c∧cc=.int .i64 (i:Int)∧bv=.slice ao l l∧(i<c→l=m - 508*i∧∃ o,ao=some ⟨bb,o,none⟩∧Hid (Rd W (some ⟨bb,o,none⟩) l l (xs.drop (508*i))))∧Hid (PrgAt arm room croom (K+i) W p q R (layT t N c xs i)∧HeapAt W hb p∧Rok R w W)) (fun _ cc _=>c - (Lib.intOf cc).toNat)
 case atStart=>exact ⟨0,m,some ⟨bb,bo,none⟩,by omega,rfl,rfl,fun _=>⟨by omega,bo,rfl,HRd⟩,hid ⟨HP.out,HH.out,Rok.of_below (Below.refl _ _)⟩⟩
 case round=>
  obtain ⟨i,l,ao,hi,rfl,rfl,hif,PP⟩:=hrel
  by_cases hiL:i<c
  ·obtain ⟨hl,oo,rfl,RR⟩:=hif hiL
   have hl1:1≤l:=by omega
   have hl2:l≤1000000:=by omega
   have HLm:=hid hl
   have HLB:=hid (show w.heap.size≤wr.heap.size from PP.out.2.2.size)
   have hiI:(i:Int)<(c:Int):=by omega
   have R1:=HRow.out.rok PP.out.2.2 HRg.out
   have c0:=R1.cell (i:=i) (by rw [newL_len];exact hiL)
   rw [newL_get N c hiL]at c0
   obtain ⟨V,hV⟩:∃ V:Int,V=((N+i+1:Nat):Int):=⟨_,rfl⟩
   rw [show N+1+i=N+i+1 by omega,←hV]at c0
   have HV:=hid hV
   obtain ⟨nx,hnx⟩:∃ nx:Nat,nx=nxO N c i:=⟨_,rfl⟩
   have HNX:=hid hnx
   have hnb:nx<4294967296:=by rw [hnx];unfold nxO;split<;>omega
   obtain ⟨W1,hW1⟩:∃ W1,W1=wr.alloc (.cells #[.int .i64 V,.int .i64 (nx:Int),.slice none 0 0] 65):=⟨_,rfl⟩
   clear hV hif hl
   by_cases hlast:i+1<c
   ·have hl3:(i:Int)+1<(c:Int):=by omega
    have c1:=R1.cell (i:=i+1) (by rw [newL_len];exact hlast)
    rw [newL_get N c hlast,show N+1+(i+1)=nx by rw [hnx];unfold nxO;rw [if_pos hlast]]at c1
    replace c1:=keep_old (show Below wr.heap.size wr (wr.alloc (.cells #[.int .i64 V,.int .i64 0,.slice none 0 0] 65)) from Below.alloc (Below.refl _ _) (Nat.le_refl _) _) c1
    clear hnx R1
    go_upto_region 7 with fail
    rw [←hW1]
    have B1:Hid (Below wr.heap.size wr W1):=hid (by rw [hW1];exact Below.alloc (Below.refl _ _) (Nat.le_refl _) _)
    have L1:Hid (LB W1 wr.heap.size V (nx:Int) none 0 0):=hid (by rw [hW1];exact LB.new wr V (nx:Int) none 0 0)
    have P1:=hid (PP.out.1.new B1.out (g:=wr.heap.size) (Nat.le_refl _) (by rw [hW1];simp))
    have H1:=hid (PP.out.2.1.keep B1.out)
    have RD:=RR.out.keep B1.out
    clear hW1 RR
    have CUT:=hid (cut_rd bb oo l 508 _ W1 RD (by omega) (by omega) (by omega))
    rw [show ((508:Nat):Int)=508 from rfl]at CUT
    clear RD
    obtain ⟨lb,hlb⟩:∃ lb,lb=wr.heap.size:=⟨_,rfl⟩
    rw [←hlb]
    rw [←hlb]at L1 P1 HLB
    have HLBE:=hid hlb
    clear hlb
    go_upto_region 8 with (go_at_call 32;refine CUT.out.mono ?_;rintro e w2 ⟨ao2,rfl,hp2,hb2,hk2,hB2⟩;have P2:=hid hp2;have Q2:=hid hb2;have A2:=hid hk2;have B2:=hid hB2;have L2:=hid (L1.out.keep hB2);obtain ⟨x0,x1,x2,x3,x4,x5⟩:=L2.out.cells;clear hp2 hb2 hk2 hB2 CUT)
    obtain ⟨W3,hW3⟩:∃ W3,W3=w2.setCell ⟨lb,2,none⟩ (.slice (some ⟨bb,oo,none⟩) (min 508 l) (min 508 l)):=⟨_,rfl⟩
    rw [←hW3]
    have L3:Hid (LB W3 lb V (nx:Int) (some ⟨bb,oo,none⟩) (min 508 l) (min 508 l)):=hid (by
     have:=heap_setCell_same w2 lb 2 _ 65 (.slice (some ⟨bb,oo,none⟩) (min 508 l) (min 508 l)) L2.out
     rw [hW3];unfold LB;rw [this];simp)
    have F3:Hid (Fr (fun k=>k=lb) w2 W3):=hid (by rw [hW3];exact ⟨rfl,rfl,rfl,by simp,fun k _ hk=>heap_setCell_other _ _ _ _ hk⟩)
    have hbl:bb≠lb:=by have h1:=HBB.out;have h2:=HLB.out;omega
    have B3:=hid (show Below W3.heap.size W3 W3.drew from (Below.refl _ _).drew)
    have P3:=hid (((P1.out.keep B2.out).mine (fr_imp F3.out (fun b hb=>Or.inr hb))).keep B3.out)
    have H3:=hid (((H1.out.keep B2.out).fr F3.out (fun e=>by have h1:=HHB.out;have h2:=HLB.out;omega)).keep B3.out)
    have D3:=hid ((rd_blk P2.out (W:=W3) (by rw [hW3];exact heap_setCell_other _ _ _ _ hbl)).keep B3.out)
    have E3:=hid ((rd_blk2 Q2.out A2.out (W:=W3) (by rw [hW3];exact heap_setCell_other _ _ _ _ hbl)).keep B3.out)
    have K3:=hid (show Rok R wr W3.drew from ((((Rok.of_below (Below.refl _ _)).below B1.out).below B2.out).mine F3.out (fun b hb=>by have:=HLBE.out;omega)).below B3.out)
    clear x0 x1 x2 x3 x4 x5 hW3 P2 Q2 P1 H1
    refine wp_region_K (S:=fun W=>LB W lb V (nx:Int) (some ⟨bb,oo,none⟩) (min 508 l) (min 508 l)) (fun _=>false) (by kernel_rfl) (L3.out.keep B3.out) (fun hHeld=>?_)
    refine gkp 0 ?_
    refine gkp 2 ?_
    refine gkt 3 ?_ (h:=by intro W hSw;obtain ⟨x0,x1,x2,_⟩:=hSw.cells;go_simp;first |done |with_reducible rfl)
    refine gk1 1 (fun K hK=>?_)
    go_simp
    go_at_call 14;refine (Pager_yes H3.out).mono ?_;rintro e wx ⟨rfl,hwx⟩;obtain rfl:=hwx.symm
    refine hK.out _ _ hHeld (fun hHeld=>?_)
    clear hK K
    (try simp only [Act.put,sA,sZ,sS])
    refine gk1 4 (fun K hK=>?_)
    go_simp
    go_at_call 54;refine (pageBytes_any V nx bb oo (min 508 l) (min 508 l) _ W3.drew D3.out (by omega) hnb).mono ?_;rintro e w4 ⟨g4,rfl,hr4,hb4⟩;have R4:=hid hr4;have B4:=hid hb4;have hL4:=hHeld.keep hb4;clear hr4 hb4
    refine hK.out _ _ hL4 (fun hHeld=>?_)
    clear hK K hL4
    (try simp only [Act.put,sA,sZ,sS])
    refine gk1 5 (fun K hK=>?_)
    go_simp
    go_at_call 53;rw [HV.out];refine (prg_put_yes (N+i) g4 0 512 _ (P3.out.keep B4.out) (by rw [layT_busy];exact HBZ.out) (by rw [layT_len,HL.out];omega) (by omega) R4.out.rd (linkB_bytes _ _ (fun x hx=>HX.out x (List.mem_of_mem_drop (List.mem_of_mem_take hx))))).mono ?_;rintro e w5 ⟨rfl,hp5,hk5⟩;have P5:=hid hp5;have K5:=hid hk5;have hL5:=hHeld.rok hk5 (Or.inr rfl);clear hp5 hk5
    refine hK.out _ _ hL5 (fun hHeld=>?_)
    clear hK K hL5
    (try simp only [Act.put,sA,sZ,sS])
    refine gkp 6 ?_
    refine wpAnyK_done (by kernel_rfl) ?_ _
    clear hHeld
    go_wp2
    have HK5:=hid ((K3.out.below B4.out).then K5.out (fun b hb=>Or.inl hb))
    refine ⟨⟨i+1,l - 508,ao2,by omega,by go_num,rfl,fun hlt=>?_,hid ⟨?_,?_,?_⟩⟩,by simp [Lib.intOf];omega⟩
    ·have hE:=rd_blk2 (E3.out.keep B4.out) A2.out (W:=w5) (K5.out.at_ (Or.inl HRb.out) (Nat.lt_of_lt_of_le HBB.out (Nat.le_trans PP.out.2.2.size ((K3.out.below B4.out).size))))
     have hlm:=HLm.out
     refine ⟨by omega,?_⟩
     obtain ⟨b',o',e',_⟩:=hE.2.2.2 (by omega)
     subst e'
     obtain rfl:=A2.out _ rfl
     refine ⟨o',rfl,hid ?_⟩
     rw [show 508*(i+1)=508*i+508 by omega,←List.drop_drop]
     exact hE
    ·have hp:=P5.out.less (R':=R) (fun b hb=>Or.inl hb)
     rw [HNX.out]at hp
     exact hp
    ·exact PP.out.2.1.rok HK5.out HR.out
    ·exact PP.out.2.2.then HK5.out (fun b hb=>hb)
   ·have hl3:¬(i:Int)+1<(c:Int):=by omega
    obtain rfl:nx=0:=by rw [hnx];unfold nxO;rw [if_neg hlast]
    rw [show ((0:Nat):Int)=0 from rfl]at hW1
    clear hnx R1
    go_upto_region 7 with fail
    rw [←hW1]
    have B1:Hid (Below wr.heap.size wr W1):=hid (by rw [hW1];exact Below.alloc (Below.refl _ _) (Nat.le_refl _) _)
    have L1:Hid (LB W1 wr.heap.size V 0 none 0 0):=hid (by rw [hW1];exact LB.new wr V 0 none 0 0)
    have P1:=hid (PP.out.1.new B1.out (g:=wr.heap.size) (Nat.le_refl _) (by rw [hW1];simp))
    have H1:=hid (PP.out.2.1.keep B1.out)
    have RD:=RR.out.keep B1.out
    clear hW1 RR
    have CUT:=hid (cut_rd bb oo l 508 _ W1 RD (by omega) (by omega) (by omega))
    rw [show ((508:Nat):Int)=508 from rfl]at CUT
    clear RD
    obtain ⟨lb,hlb⟩:∃ lb,lb=wr.heap.size:=⟨_,rfl⟩
    rw [←hlb]
    rw [←hlb]at L1 P1 HLB
    have HLBE:=hid hlb
    clear hlb
    go_upto_region 8 with (go_at_call 32;refine CUT.out.mono ?_;rintro e w2 ⟨ao2,rfl,hp2,hb2,hk2,hB2⟩;have P2:=hid hp2;have Q2:=hid hb2;have A2:=hid hk2;have B2:=hid hB2;have L2:=hid (L1.out.keep hB2);obtain ⟨x0,x1,x2,x3,x4,x5⟩:=L2.out.cells;clear hp2 hb2 hk2 hB2 CUT)
    obtain ⟨W3,hW3⟩:∃ W3,W3=w2.setCell ⟨lb,2,none⟩ (.slice (some ⟨bb,oo,none⟩) (min 508 l) (min 508 l)):=⟨_,rfl⟩
    rw [←hW3]
    have L3:Hid (LB W3 lb V 0 (some ⟨bb,oo,none⟩) (min 508 l) (min 508 l)):=hid (by
     have:=heap_setCell_same w2 lb 2 _ 65 (.slice (some ⟨bb,oo,none⟩) (min 508 l) (min 508 l)) L2.out
     rw [hW3];unfold LB;rw [this];simp)
    have F3:Hid (Fr (fun k=>k=lb) w2 W3):=hid (by rw [hW3];exact ⟨rfl,rfl,rfl,by simp,fun k _ hk=>heap_setCell_other _ _ _ _ hk⟩)
    have hbl:bb≠lb:=by have h1:=HBB.out;have h2:=HLB.out;omega
    have B3:=hid (show Below W3.heap.size W3 W3.drew from (Below.refl _ _).drew)
    have P3:=hid (((P1.out.keep B2.out).mine (fr_imp F3.out (fun b hb=>Or.inr hb))).keep B3.out)
    have H3:=hid (((H1.out.keep B2.out).fr F3.out (fun e=>by have h1:=HHB.out;have h2:=HLB.out;omega)).keep B3.out)
    have D3:=hid ((rd_blk P2.out (W:=W3) (by rw [hW3];exact heap_setCell_other _ _ _ _ hbl)).keep B3.out)
    have E3:=hid ((rd_blk2 Q2.out A2.out (W:=W3) (by rw [hW3];exact heap_setCell_other _ _ _ _ hbl)).keep B3.out)
    have K3:=hid (show Rok R wr W3.drew from ((((Rok.of_below (Below.refl _ _)).below B1.out).below B2.out).mine F3.out (fun b hb=>by have:=HLBE.out;omega)).below B3.out)
    clear x0 x1 x2 x3 x4 x5 hW3 P2 Q2 P1 H1
    refine wp_region_K (S:=fun W=>LB W lb V 0 (some ⟨bb,oo,none⟩) (min 508 l) (min 508 l)) (fun _=>false) (by kernel_rfl) (L3.out.keep B3.out) (fun hHeld=>?_)
    refine gkp 0 ?_
    refine gkp 2 ?_
    refine gkt 3 ?_ (h:=by intro W hSw;obtain ⟨x0,x1,x2,_⟩:=hSw.cells;go_simp;first |done |with_reducible rfl)
    refine gk1 1 (fun K hK=>?_)
    go_simp
    go_at_call 14;refine (Pager_yes H3.out).mono ?_;rintro e wx ⟨rfl,hwx⟩;obtain rfl:=hwx.symm
    refine hK.out _ _ hHeld (fun hHeld=>?_)
    clear hK K
    (try simp only [Act.put,sA,sZ,sS])
    refine gk1 4 (fun K hK=>?_)
    go_simp
    go_at_call 54;refine (pageBytes_any V 0 bb oo (min 508 l) (min 508 l) _ W3.drew D3.out (by omega) hnb).mono ?_;rintro e w4 ⟨g4,rfl,hr4,hb4⟩;have R4:=hid hr4;have B4:=hid hb4;have hL4:=hHeld.keep hb4;clear hr4 hb4
    refine hK.out _ _ hL4 (fun hHeld=>?_)
    clear hK K hL4
    (try simp only [Act.put,sA,sZ,sS])
    refine gk1 5 (fun K hK=>?_)
    go_simp
    go_at_call 53;rw [HV.out];refine (prg_put_yes (N+i) g4 0 512 _ (P3.out.keep B4.out) (by rw [layT_busy];exact HBZ.out) (by rw [layT_len,HL.out];omega) (by omega) R4.out.rd (linkB_bytes _ _ (fun x hx=>HX.out x (List.mem_of_mem_drop (List.mem_of_mem_take hx))))).mono ?_;rintro e w5 ⟨rfl,hp5,hk5⟩;have P5:=hid hp5;have K5:=hid hk5;have hL5:=hHeld.rok hk5 (Or.inr rfl);clear hp5 hk5
    refine hK.out _ _ hL5 (fun hHeld=>?_)
    clear hK K hL5
    (try simp only [Act.put,sA,sZ,sS])
    refine gkp 6 ?_
    refine wpAnyK_done (by kernel_rfl) ?_ _
    clear hHeld
    go_wp2
    have HK5:=hid ((K3.out.below B4.out).then K5.out (fun b hb=>Or.inl hb))
    refine ⟨⟨i+1,l - 508,ao2,by omega,by go_num,rfl,fun hlt=>?_,hid ⟨?_,?_,?_⟩⟩,by simp [Lib.intOf];omega⟩
    ·have hE:=rd_blk2 (E3.out.keep B4.out) A2.out (W:=w5) (K5.out.at_ (Or.inl HRb.out) (Nat.lt_of_lt_of_le HBB.out (Nat.le_trans PP.out.2.2.size ((K3.out.below B4.out).size))))
     have hlm:=HLm.out
     refine ⟨by omega,?_⟩
     obtain ⟨b',o',e',_⟩:=hE.2.2.2 (by omega)
     subst e'
     obtain rfl:=A2.out _ rfl
     refine ⟨o',rfl,hid ?_⟩
     rw [show 508*(i+1)=508*i+508 by omega,←List.drop_drop]
     exact hE
    ·have hp:=P5.out.less (R':=R) (fun b hb=>Or.inl hb)
     rw [HNX.out]at hp
     exact hp
    ·exact PP.out.2.1.rok HK5.out HR.out
    ·exact PP.out.2.2.then HK5.out (fun b hb=>hb)
  ·obtain rfl:i=c:=by omega
   go_wp2
   go_ret
   exact ⟨rfl,PP.out.1,PP.out.2.2⟩
end
end Spl
namespace Spl
open Go.RowKit Go.Maps
open Dsk (gt hid undrew keep_old keep_cell lt_cell)
open Cch (Fr hd_cell hd_frozen blk_set wpAnyK wpAnyK_done wp_region_K)
variable {ys:List Value} {m c:Nat} {ao:Option Addr} {w w':World}
theorem src_keep(h:Cch.Src w ao m c ys)(hb:Below w.heap.size w w'):Cch.Src w' ao m c ys:=
 ⟨h.len,h.no,fun ad ha j u hu=>keep_old hb (h.at_ ad ha j u hu),h.one⟩
theorem src_rok{R:Nat→Prop}(h:Cch.Src w ao m c ys)(hk:Rok R w w')(hR:∀ a,ao=some a→R a.block):Cch.Src w' ao m c ys:=
 ⟨h.len,h.no,fun ad ha j u hu=>by
  have h1:=h.at_ ad ha j u hu
  rw [World.cell?_of_block (a:=ad.add j) (hk.at_ (show R (ad.add j).block by rw [show (ad.add j).block=ad.block by unfold Addr.add;split<;>rfl];exact hR ad ha) (lt_cell h1))];exact h1,h.one⟩
theorem growI_any(n:Nat)(hn:n≤100000)(w:World):Calls Tryz.prog 86 #[.slice none 0 0,.int .i64 (n:Int)] w fun e w'=>∃ ao c,e=.returned (.slice ao 0 c)∧w'.ownsRow w.heap.size 3 1 (.slice ao 0 c) 0 []∧Below w.heap.size w w':=by
 have hneg:¬(n:Int)<0:=by omega
 by_cases h0:n=0
 ·subst h0
  rw [show ((0:Nat):Int)=0 from rfl]
  go_enter Tryz.func86,Tryz.ntmps86
  go_wp2
  go_ret
  exact ⟨none,0,rfl,⟨rfl,Or.inl ⟨rfl,rfl⟩⟩,Below.refl _ _⟩
 ·have hp:0<(n:Int):=by omega
  obtain ⟨i,hi,hz0,hz1,hz2⟩:=info_parts Cch.info3
  have hr:=Lib.run_append_nil_zeros (P:=Tryz.prog) w 28 3 28 3 i (.int .i64 0) .i64 .i64 Tryz.underlying28 Tryz.underlying3 hi hz0 n (by omega) (by rw [hz1];omega) (by omega) (by rw [hz2];omega)
  have hge:=grownCap_ge w n 0 3
  have hcm:=grownCap_le_maxLen w n 0 3 (by unfold maxLen;omega)
  obtain ⟨C,hC⟩:∃ C,C=(Builtin.zeroCells (Value.int .i64 0).cells n++Builtin.zeroCells (Value.int .i64 0).cells (grownCap w n 0 3 - n)):=⟨_,rfl⟩
  have hCs:C.size=grownCap w n 0 3:=by rw [hC];simp [Builtin.zeroCells,Value.cells];omega
  rw [←hC]at hr
  have hcm':grownCap w n 0 3≤9223372036854775807:=by unfold maxLen at hcm;omega
  obtain ⟨W1,hW1⟩:∃ W1,W1=w.drew.alloc (.cells C 3):=⟨_,rfl⟩
  rw [←hW1]at hr
  have B1:Hid (Below w.heap.size w W1):=hid (by rw [hW1];exact (Below.refl _ w).drew.alloc (by simp) _)
  have R1:Hid (W1.heap[w.heap.size]? = some (.cells C 3 (0,0))):=hid (by rw [hW1];exact heap_alloc_new w.drew _)
  have HR:=hid hr
  have HCS:=hid hCs;have HCM:=hid hcm
  clear hC hW1 hr hCs
  generalize grownCap w n 0 3=gc at *
  go_enter Tryz.func86,Tryz.ntmps86
  go_wp2_with ((with_reducible refine Cch.here_op 22 ?_);refine Lib.wpList_append_run w rfl (.tmp 20) (.tmp 21) 28 3 rfl _ _ rfl rfl _ _ HR.out ?_)
  go_ret
  exact ⟨_,gc,rfl,⟨rfl,Or.inr ⟨w.heap.size,gc,C,rfl,Nat.le_refl _,R1.out,Nat.zero_le _,HCM.out,by simpa using HCS.out,by simp⟩⟩,B1.out⟩
theorem app_own{W:World}{B n:Nat}{v:Value}{us us0:List Value}(h:W.ownsRow B 3 1 v n us0)(hB:B≤W.heap.size)(ho:w'.ownsRow 0 3 1 (.slice ao m c) m (us++ys))(hg:W.grownBy w' v.ownBlock)(ha:∀ a,ao=some a→(v.ownBlock=some a.block∨a.block=W.heap.size)):w'.ownsRow B 3 1 (.slice ao m c) m (us++ys)∧Below B W w':=by
 refine ⟨rr_up ho (fun k hk=>?_),(Below.refl B W).grown hg hB (fun k hk=>(rr_blk h hk).1)⟩
 cases ao with
 | none=>cases hk
 | some a=>
  cases hk
  rcases ha a rfl with h1 |h1
  ·exact (rr_blk h h1).1
  ·omega
structure Two (W:World) (sb:Nat) (a0:Option Addr) (n0 c0:Nat) (a1:Option Addr) (n1 c1:Nat):Prop where
 x0:W.cell? ⟨sb,0,none⟩=some (.slice a0 n0 c0)
 x1:W.cell? ⟨sb,1,none⟩=some (.slice a1 n1 c1)
theorem concat_any(sb:Nat)(a0:Option Addr)(n0 c0:Nat)(a1:Option Addr)(n1 c1:Nat)(l0 l1:List Nat)(w:World)(h:Two w sb a0 n0 c0 a1 n1 c1)(h0:Cch.Src w a0 n0 c0 (zI l0))(h1:Cch.Src w a1 n1 c1 (zI l1))(hn0:n0≤10000)(hn1:n1≤10000) :
  Calls Tryz.prog 49 #[.slice (some ⟨sb,0,none⟩) 2 2] w fun e w'=>∃ ao c,e=.returned (.slice ao (n0+n1) c)∧w'.ownsRow w.heap.size 3 1 (.slice ao (n0+n1) c) (n0+n1) (zI (l0++l1))∧Below w.heap.size w w':=by
 obtain ⟨x0,x1⟩:=h
 have X0:=hid x0;have X1:=hid x1;have H0:=hid h0;have H1:=hid h1
 clear h0 h1
 go_enter Tryz.func49,Tryz.ntmps49
 go_wp2
 go_loopw [3,11] (fun z c W=>∃ i m:Nat,i≤2∧z=.int .i64 (m:Int)∧c=.int .i64 (i:Int)∧m=(if i=0 then 0 else if i=1 then n0 else n0+n1)∧w=W) (fun _ c _=>2 - (Lib.intOf c).toNat)
 case atStart=>exact ⟨0,0,by omega,rfl,rfl,rfl,rfl⟩
 case round=>
  obtain ⟨i,m,hi,rfl,rfl,hm,rfl⟩:=hrel
  rcases i with _ |_ |_ |i
  ·obtain rfl:m=0:=by simpa using hm
   have k1:¬(n0:Int)<0:=by omega
   clear hm
   rw [show ((0:Nat):Int)=0 from rfl]
   go_wp2
   exact ⟨⟨1,n0,by omega,by simp,rfl,by simp,by first |rfl |trivial⟩,by simp [Lib.intOf]⟩
  ·obtain rfl:m=n0:=by simpa using hm
   have k1:¬(m:Int)+(n1:Int)<0:=by omega
   clear hm
   rw [show ((0+1:Nat):Int)=1 from rfl]
   go_wp2
   exact ⟨⟨2,m+n1,by omega,by simp,rfl,by simp,by first |rfl |trivial⟩,by simp [Lib.intOf]⟩
  ·obtain rfl:m=n0+n1:=by simpa using hm
   clear hm
   rw [show ((0+1+1:Nat):Int)=2 from rfl]
   have CG:=hid (growI_any (n0+n1) (by omega) w)
   clear x0 x1
   go_wp2_with (go_at_call 86;refine CG.out.mono ?_;rintro e w2 ⟨ao,c,rfl,ho,hb⟩;have O2:=hid ho;have B2:=hid hb;clear ho hb)
   go_loopw [6,27] (fun v c W=>∃ (i m:Nat) (ao:Option Addr) (cp:Nat),i≤2∧v=.slice ao m cp∧c=.int .i64 (i:Int)∧m=(if i=0 then 0 else if i=1 then n0 else n0+n1)∧Hid (W.ownsRow w.heap.size 3 1 (.slice ao m cp) m (if i=0 then [] else if i=1 then zI l0 else zI (l0++l1))∧Below w.heap.size w W)) (fun _ c _=>2 - (Lib.intOf c).toNat)
   case atStart=>exact ⟨0,0,ao,c,by omega,rfl,rfl,rfl,hid ⟨by simpa using O2.out,B2.out⟩⟩
   case round=>
    obtain ⟨i,m,ao,cp,hi,rfl,rfl,hm,HH⟩:=hrel
    clear O2 B2 CG
    rcases i with _ |_ |_ |i
    ·obtain rfl:m=0:=by simpa using hm
     clear hm
     have y0:=keep_old HH.out.2 X0.out
     have hO:wr.ownsRow 0 3 1 (.slice ao 0 cp) 0 []:=rr_base (by have:=HH.out.1;simpa using this) (Nat.zero_le _)
     rw [show ((0:Nat):Int)=0 from rfl]
     go_wp2_with ((with_reducible refine Cch.here_op 33 ?_);refine Cch.wpList_app rfl (.tmp 31) (.tmp 32) el41 rfl (.slice ao 0 cp) 0 _ rfl hO a0 n0 c0 (zI l0) rfl (src_keep H0.out HH.out.2) (by omega) ?_;intro a9 c9 w9 ho9 hg9 ha9;have A9:=hid (app_own HH.out.1 (by have:=HH.out.2.size;omega) ho9 hg9 ha9);clear ho9 hg9 ha9 hO)
     refine ⟨⟨1,n0,a9,c9,by omega,by simp,rfl,by simp,hid ⟨?_,?_⟩⟩,by simp [Lib.intOf]⟩
     ·have:=A9.out.1;simpa using this
     ·exact HH.out.2.trans A9.out.2
    ·obtain rfl:m=n0:=by simpa using hm
     clear hm
     have y0:=keep_old HH.out.2 X1.out
     have hO:wr.ownsRow 0 3 1 (.slice ao m cp) m (zI l0):=rr_base (by have:=HH.out.1;simpa using this) (Nat.zero_le _)
     rw [show ((0+1:Nat):Int)=1 from rfl]
     go_wp2_with ((with_reducible refine Cch.here_op 33 ?_);refine Cch.wpList_app rfl (.tmp 31) (.tmp 32) el41 rfl (.slice ao m cp) m _ rfl hO a1 n1 c1 (zI l1) rfl (src_keep H1.out HH.out.2) (by omega) ?_;intro a9 c9 w9 ho9 hg9 ha9;have A9:=hid (app_own HH.out.1 (by have:=HH.out.2.size;omega) ho9 hg9 ha9);clear ho9 hg9 ha9 hO)
     refine ⟨⟨2,m+n1,a9,c9,by omega,rfl,rfl,by simp,hid ⟨?_,?_⟩⟩,by simp [Lib.intOf]⟩
     ·have:=A9.out.1;rw [←zI_append]at this;simpa using this
     ·exact HH.out.2.trans A9.out.2
    ·obtain rfl:m=n0+n1:=by simpa using hm
     clear hm
     rw [show ((0+1+1:Nat):Int)=2 from rfl]
     go_wp2
     go_ret
     exact ⟨ao,cp,rfl,by have:=HH.out.1;simpa using this,HH.out.2⟩
    ·omega
  ·omega
variable {l:List Nat}
theorem lt_step(h:l.Pairwise (· < ·)){k:Nat}(hk:k+1<l.length):l.getD k 0<l.getD (k+1) 0:=by
 have h1:=List.pairwise_iff_getElem.1 h k (k+1) (by omega) hk (by omega)
 simp only [List.getD,List.getElem?_eq_getElem hk,List.getElem?_eq_getElem (show k<l.length by omega),Option.getD_some]
 exact h1
theorem compact_any(B n cp:Nat)(ao:Option Addr)(l:List Nat)(w:World)(h:w.ownsRow B 3 1 (.slice ao n cp) n (zI l))(hn:n≤100000)(hp:l.Pairwise (· < ·)) :
  Calls Tryz.prog 51 #[.slice ao n cp] w fun e w'=>e=.returned (.slice ao n cp)∧Below w.heap.size w w':=by
 have hl:l.length=n:=by simpa [zI] using h.1
 by_cases h2:n<2
 ·have k1:(n:Int)<2:=by omega
  go_enter Tryz.func51,Tryz.ntmps51
  go_wp2
  go_ret
  exact ⟨rfl,Below.refl _ _⟩
 ·have k1:¬(n:Int)<2:=by omega
  obtain ⟨g,cap,hv,hg1,hg2⟩:=h.form (by omega)
  cases hv
  have hcp:=hg2
  have HO:=hid h;have HP:=hid hp;have HL:=hid hl
  clear h hp hl
  go_enter Tryz.func51,Tryz.ntmps51
  go_wp2
  go_loopw [3] (fun c W=>∃ i:Nat,1≤i∧i≤n∧c=.int .i64 (i:Int)∧Hid (Below w.heap.size w W)) (fun c _=>n - (Lib.intOf c).toNat)
  case atStart=>exact ⟨1,by omega,by omega,rfl,hid (Below.refl _ _)⟩
  case round=>
   obtain ⟨i,hi1,hi,rfl,BB⟩:=hrel
   by_cases hin:i<n
   ·obtain ⟨k,rfl⟩:∃ k,i=k+1:=⟨i - 1,by omega⟩
    have c0:=keep_old BB.out ((HO.out.cellAt k (by omega)).trans (zI_get (by rw [HL.out];omega)))
    have c1:=keep_old BB.out ((HO.out.cellAt (k+1) (by omega)).trans (zI_get (by rw [HL.out];omega)))
    have hlt:=lt_step HP.out (k:=k) (by rw [HL.out];omega)
    have hne:¬((l.getD (k+1) 0:Nat):Int)=((l.getD k 0:Nat):Int):=by omega
    have hin':((k+1:Nat):Int)<(n:Int):=by omega
    have hk1:((k+1:Nat):Int) - 1=(k:Int):=by omega
    generalize l.getD k 0=x at *
    generalize l.getD (k+1) 0=y at *
    clear hlt
    go_wp2
    go_region
    go_wp2
    exact ⟨⟨k+1+1,by omega,by omega,by go_num,hid BB.out.drew⟩,by simp [Lib.intOf];omega⟩
   ·obtain rfl:i=n:=by omega
    go_wp2
    go_ret
    exact ⟨rfl,BB.out⟩
theorem zI_len(l:List Nat):(zI l).length=l.length:=by simp [zI]
theorem rise_lt(h:l.Nodup):(riseN l).Pairwise (· < ·):=by
 have h1:=riseN_sorted l
 have h2:(riseN l).Nodup:=(riseN_perm l).nodup_iff.2 h
 exact (h1.and h2).imp (fun h=>Nat.lt_of_le_of_ne h.1 h.2)
section
variable {arm:Prop} {room croom K:Nat} {p q:Nat} {R:Nat→Prop} {t:RS} {w:World}
theorem steady_yes(hb:Nat)(tr:List (Nat×List Nat))(ws:List Nat)(a0:Option Addr)(c0:Nat)(a1:Option Addr)(n1 c1:Nat)(l1:List Nat)(h:HeapS arm room croom K w hb p q R t tr ws)(h0:Cch.Src w a0 (flat tr).length c0 (zI (flat tr)))(h1:Cch.Src w a1 n1 c1 (zI l1))(r0:∀ a,a0=some a→R a.block)(r1:∀ a,a1=some a→R a.block)(hnd:(flat tr++l1).Nodup)(hn0:(flat tr).length≤10000)(hn1:n1≤10000)(hn4:t.now.length≤4000)(hK:K+5000≤500000) :
  Calls Tryz.prog 23 #[.pointer (some ⟨hb,0,none⟩),.slice a0 (flat tr).length c0,.slice a1 n1 c1] w fun e w'=>e=.returned (.bool true)∧PrgAt arm room croom (K+1) w' p q R t∧Rok R w w':=by
 have CC:=hid (count_yes h hn4 hK)
 have hl1:l1.length=n1:=by have:=h1.len;rw [zI_len]at this;exact this
 have HL1:=hid hl1;have H0:=hid h0;have H1:=hid h1;have R0:=hid r0;have R1:=hid r1;have HND:=hid hnd
 clear h h0 h1 r0 r1 hnd hl1
 obtain ⟨l0,hl0⟩:∃ l0,l0=flat tr:=⟨_,rfl⟩
 rw [←hl0]at hn0 HND H0 CC ⊢
 clear hl0
 obtain ⟨n0,hn0e⟩:∃ n0,n0=l0.length:=⟨_,rfl⟩
 rw [←hn0e]at hn0 H0 CC ⊢
 have HN0:=hid hn0e
 clear hn0e
 go_enter Tryz.func23,Tryz.ntmps23
 go_upto_region 2 with (go_at_call 48;refine CC.out.mono ?_;rintro e w1 ⟨rfl,hp,hk⟩;have P1:=hid hp;have K1:=hid hk;have S0:=hid (src_rok H0.out hk R0.out);have S1:=hid (src_rok H1.out hk R1.out);clear hp hk)
 obtain ⟨W2,hW2⟩:∃ W2,W2=w1.alloc (.cells #[.slice a0 n0 c0,.slice a1 n1 c1] 28):=⟨_,rfl⟩
 have B2:=hid (show Below w1.heap.size w1 W2 by rw [hW2];exact Below.alloc (Below.refl _ _) (Nat.le_refl _) _)
 have T2:=hid (show Two W2 w1.heap.size a0 n0 c0 a1 n1 c1 by rw [hW2];constructor<;>(rw [World.cell?_alloc_new];rfl))
 have C2:=hid (concat_any w1.heap.size a0 n0 c0 a1 n1 c1 l0 l1 W2 T2.out (src_keep S0.out B2.out) (src_keep S1.out B2.out) hn0 hn1)
 have HW2:=hid hW2
 clear hW2
 have hlen:(l0++l1).length=n0+n1:=by rw [List.length_append,←HN0.out,HL1.out]
 have HLEN:=hid hlen
 clear hlen
 go_wp2_with (first
  | (go_at_call 49;rw [←HW2.out];refine C2.out.mono ?_;rintro e w3 ⟨ao,c,rfl,ho,hb3⟩;have O3:=hid ho;have B3:=hid (gt B2.out hb3);clear ho hb3)
  | (go_at_call 50;have CS:=sort8_any W2.heap.size c ao (l0++l1) w3 (by rw [HLEN.out];exact O3.out) (by rw [HLEN.out];omega);rw [HLEN.out]at CS;refine CS.mono ?_;rintro e w4 ⟨rfl,ho4,hf4⟩;have O4:=hid ho4;have F4:=hid hf4;clear ho4 hf4 CS)
  | (go_at_call 51;refine (compact_any W2.heap.size (n0+n1) c ao (riseN (l0++l1)) w4 O4.out (by omega) (rise_lt HND.out)).mono ?_;rintro e w5 ⟨rfl,hb5⟩;have B5:=hid hb5;clear hb5))
 go_ret
 have hb2:=B2.out.size
 refine ⟨rfl,?_,?_⟩
 ·have P3:=P1.out.more (R':=Own2 R (.slice ao (n0+n1) c)) B3.out (fun b hb=>by
   rcases hb with h1 |h1
   ·exact Or.inl h1
   ·have:=rr_blk O3.out h1;exact Or.inr ⟨by omega,this.2⟩)
  exact ((P3.mine (fr_imp F4.out (fun b hb=>Or.inr hb))).keep B5.out).less (fun b hb=>Or.inl hb)
 ·refine ((K1.out.below B3.out).mine F4.out (fun b hb=>?_)).below B5.out
  have:=rr_blk O3.out hb;have:=K1.out.size;omega
end
end Spl
namespace Spl
open Go.RowKit Go.Maps
open Dsk (gt hid undrew keep_old keep_cell lt_cell)
open Jrn (Rd bs bs_length bs_one bs_get bs_get' bs_append rd_own Row5 putN numAt rootN Pv2)
open Cch (Fr hd_cell hd_frozen blk_set wpAnyK wpAnyK_done wp_region_K)
section
variable {arm:Prop} {room croom K:Nat} {p q:Nat} {R:Nat→Prop} {t:RS} {w:World}
variable {ws:List Nat} {hb:Nat}
theorem give_nox{z:Int}{tr:List (Nat×List Nat)}(h:HeapS arm room croom K w hb p q R t tr ws)(hz:z<2∨(t.now.length:Int)<z)(hn4:t.now.length≤4000)(hK:K+5000≤500000) :
  Calls Tryz.prog 45 #[.pointer (some ⟨hb,0,none⟩),.int .i64 z] w fun e w'=>e=.returned (.int .i64 2)∧PrgAt arm room croom (K+1+(flat tr).length) w' p q R t∧Rok R w w':=by
 have hpb:t.pages=t.now:=RS.pages_busy h.busy
 have CG:=hid (changing_yes hb h.prg h.heap h.busy (by rw [hpb];exact h.lay.ln) (by omega))
 rw [hpb,h.lay.root]at CG
 have CLi:=hid (fun W g cap RR B0 (hP:PrgAt arm room croom (K+1) W p q RR t) (hH:HeapAt W hb p) (h1:RR hb) (h2:Row5 W B0 g cap (rootN (firstOf tr) (flat tr).length ws))=>list_lay (R:=RR) hb g cap B0 ws tr hP hH h1 h.lay h.busy h2 hn4 (by omega))
 have CHs:=hid (fun W RR KK (hP:PrgAt arm room croom KK W p q RR t) (hH:HeapAt W hb p)=>has_any8 (R:=RR) hb z hP hH)
 rw [hpb,show (decide (1<z)&&decide (z≤(t.now.length:Int)))=false by rcases hz with h |h;rw [decide_eq_false (by omega)];rfl;rw [decide_eq_false (show ¬z≤_ by omega)];simp]at CHs
 have HS:=hid h;have HFL:=hid (flat_len tr)
 clear h hpb hz
 generalize (flat tr).length=LL at *
 unfold Pv2 at *
 go_enter Tryz.func45,Tryz.ntmps45
 go_wp2_with (first
  | (go_at_call 81;refine CG.out.mono ?_;rintro e w1 ⟨g,cap,rfl,hr1,hg1,hP1,hok1⟩;have B1:=hid (show Below w1.heap.size w1 (w1.alloc (.cells #[.int .i64 1,.slice (some ⟨g,0,none⟩) 512 cap] 70)) from Below.alloc (Below.refl _ _) (Nat.le_refl _) _);have R1:=hid (hr1.keep B1.out);have P1:=hid (hP1.new B1.out (Nat.le_refl _) (by simp));have K1:=hid hok1;have H1:=hid ((HS.out.heap.rok hok1 HS.out.mem).keep B1.out);clear hr1 hg1 hP1 hok1)
  | (go_at_call 31;refine (CLi.out _ g cap _ _ P1.out H1.out (Or.inl (Or.inl HS.out.mem)) R1.out).mono ?_;rintro e w2 ⟨ao,cp,rfl,hA⟩;have A2:=hid hA;have H2:=hid (H1.out.rok hA.k (Or.inl (Or.inl HS.out.mem)));clear hA)
  | (go_at_call 64;refine (CHs.out w2 _ _ A2.out.at_ H2.out).mono ?_;rintro e w3 ⟨rfl,hb3⟩;have B3:=hid hb3;clear hb3))
 go_ret
 exact ⟨rfl,(((A2.out.at_.less (fun b hb=>Or.inl (Or.inl hb))).keep B3.out).up (by have:=HFL.out;omega)),(((K1.out.below B1.out).then A2.out.k (fun b hb=>Or.inl (Or.inl hb))).below B3.out)⟩
theorem HeapS.moved{w':World}{K':Nat}{R':Nat→Prop}{tr:List (Nat×List Nat)}(h:HeapS arm room croom K w hb p q R t tr ws)(hP:PrgAt arm room croom K' w' p q R' t)(hH:HeapAt w' hb p)(hm:R' hb):HeapS arm room croom K' w' hb p q R' t tr ws:=⟨hP,hH,hm,h.lay,h.busy,h.sur⟩
theorem listed_yes{tr:List (Nat×List Nat)}(h:HeapS arm room croom K w hb p q R t tr ws)(hn4:t.now.length≤4000)(hK:K+10000≤500000)(hfl:(flat tr).length≤4000) :
  Calls Tryz.prog 21 #[.pointer (some ⟨hb,0,none⟩)] w fun e w'=>∃ ao cp,e=.returned (.tuple #[.slice ao (flat tr).length cp,.int .i64 0])∧w'.ownsRow w.heap.size 3 1 (.slice ao (flat tr).length cp) (flat tr).length (zI (flat tr))∧PrgAt arm room croom (K+2+2*(flat tr).length) w' p q (Own2 R (.slice ao (flat tr).length cp)) t∧Rok R w w':=by
 have C1:=hid (give_nox (z:=0) h (by omega) hn4 (by omega))
 have HS:=hid h
 have CA:=hid (fun W (hs:HeapS arm room croom (K+1+(flat tr).length) W hb p q R t tr ws)=>all_yes hs hn4 (by omega))
 have HFL:=hid (flat_len tr)
 clear h
 generalize hLL:(flat tr).length=LL at *
 have HLL:=hid hLL
 clear hLL
 go_enter Tryz.func21,Tryz.ntmps21
 go_wp2_with (first
  | (go_at_call 45;refine C1.out.mono ?_;rintro e w1 ⟨rfl,hP,hk⟩;have K1:=hid hk;have S1:=hid (HeapS.moved HS.out hP (HS.out.heap.rok hk HS.out.mem) HS.out.mem);clear hP hk)
  | (go_at_call 12;refine (CA.out w1 S1.out).mono ?_;rintro e w2 ⟨ao,cp,rfl,ho,hP,hk⟩;have O2:=hid ho;have P2:=hid hP;have K2:=hid hk;clear ho hP hk))
 go_ret2
 exact ⟨ao,cp,rfl,own_dn O2.out K1.out.size,P2.out.up (by have:=HFL.out;omega),K1.out.then K2.out (fun b hb=>hb)⟩
theorem whole24{Q:Ending→World→Prop}(h p0 p1 p2 p3:Value)(C:Calls Tryz.prog 24 #[p0,p1,p2,p3] w fun e w'=>∃ v,e=.returned (.int .i64 v)∧Q e w'):Calls Tryz.prog 22 #[h,.bool true,.func (.func 24) #[] #[p0,p1,p2,p3]] w Q:=by
 have CC:=hid C
 clear C
 go_enter Tryz.func22,Tryz.ntmps22
 go_wp2_with (go_at_call 24;refine CC.out.mono ?_;rintro e w1 ⟨v,rfl,hq⟩;have HQ:=hid hq;clear hq)
 exact HQ.out
theorem whole28{Q:Ending→World→Prop}(h p0 p1:Value)(C:Calls Tryz.prog 28 #[p0,p1] w fun e w'=>∃ v,e=.returned (.int .i64 v)∧Q e w'):Calls Tryz.prog 22 #[h,.bool true,.func (.func 28) #[] #[p0,p1]] w Q:=by
 have CC:=hid C
 clear C
 go_enter Tryz.func22,Tryz.ntmps22
 go_wp2_with (go_at_call 28;refine CC.out.mono ?_;rintro e w1 ⟨v,rfl,hq⟩;have HQ:=hid hq;clear hq)
 exact HQ.out
structure WBx (W:World) (b0 b1 b2 b3 hb c bb bo m:Nat) (v2:Value):Prop where
 x0:W.heap[b0]? = some (.cells #[.pointer (some ⟨hb,0,none⟩)] 25 (0,0))
 x1:W.heap[b1]? = some (.cells #[.int .i64 (c:Int)] 3 (0,0))
 x2:W.heap[b2]? = some (.cells #[v2] 3 (0,0))
 x3:W.heap[b3]? = some (.cells #[.slice (some ⟨bb,bo,none⟩) m m] 34 (0,0))
theorem WBx.rok{R:Nat→Prop}{W W':World}{b0 b1 b2 b3 c bb bo m:Nat}{v2:Value}(h:WBx W b0 b1 b2 b3 hb c bb bo m v2)(hk:Rok R W W')(r0:R b0)(r1:R b1)(r2:R b2)(r3:R b3):WBx W' b0 b1 b2 b3 hb c bb bo m v2:=
 ⟨(hk.at_ r0 (Array.getElem?_eq_some_iff.1 h.x0).1).trans h.x0,(hk.at_ r1 (Array.getElem?_eq_some_iff.1 h.x1).1).trans h.x1,(hk.at_ r2 (Array.getElem?_eq_some_iff.1 h.x2).1).trans h.x2,(hk.at_ r3 (Array.getElem?_eq_some_iff.1 h.x3).1).trans h.x3⟩
theorem write1_yes(b0 b1 b2 b3 hb c bb bo m:Nat)(v2:Value)(xs ws:List Nat)(h:PrgAt arm room croom K w p q R t)(hh:HeapAt w hb p)(hR:R hb)(hx:WBx w b0 b1 b2 b3 hb c bb bo m v2)(r0:R b0)(r1:R b1)(r2:R b2)(r3:R b3)(rb:R bb)(n0:b2≠b0)(n3:b2≠b3)(nb:b2≠bb)(nh:b2≠hb)(hroot:t.now.getD 0 []=rootN 0 0 ws)(hbz:t.busy=true)(hn:0<t.now.length)(hn4:t.now.length+c≤4000)(hrd:Rd w (some ⟨bb,bo,none⟩) m m xs)(hxs:∀ x∈xs,x<256)(hm1:508*c<m+508)(hm2:m≤508*c)(hc:1≤c)(hc2:c≤1000)(hK:K+3*c≤500000) :
  Calls Tryz.prog 24 #[.pointer (some ⟨b0,0,none⟩),.pointer (some ⟨b1,0,none⟩),.pointer (some ⟨b2,0,none⟩),.pointer (some ⟨b3,0,none⟩)] w fun e w'=>e=.returned (.int .i64 0)∧PrgAt arm room croom (K+3*c) w' p q R (layT (growN t c) t.now.length c xs c)∧w'.heap[b2]? = some (.cells #[.int .i64 ((t.now.length+1:Nat):Int)] 3 (0,0))∧Rok (fun b=>R b∧b≠b2) w w':=by
 have C1:=hid (take_all hb c ws h hh hR hroot hbz hn hn4 (by omega))
 have HX:=hid hx;have HH:=hid hh;have HR:=hid hR;have HRD:=hid hrd;have HXS:=hid hxs;have HBZ:=hid hbz;have RR:=hid (show R b0∧R b1∧R b2∧R b3∧R bb from ⟨r0,r1,r2,r3,rb⟩)
 have HLT:=hid (fun b (hb:R b)=>h.lt hb)
 have y0:=(boxed_cell hx.x0).1;have y1:=(boxed_cell hx.x1).1
 have k1:¬(c:Int)≤0:=by omega
 clear h hh hR hx r0 r1 r2 r3 rb hrd hxs hbz hroot
 go_enter Tryz.func24,Tryz.ntmps24
 go_upto_region 4 with (go_at_call 25;refine C1.out.mono ?_;rintro e w1 ⟨g,rfl,hr,hg,hP,hk⟩;have R1:=hid hr;have HG:=hid hg;have P1:=hid hP;have K1:=hid hk;clear hr hg hP hk)
 have X1:=HX.out.rok K1.out RR.out.1 RR.out.2.1 RR.out.2.2.1 RR.out.2.2.2.1
 have c0:=R1.out.cell (i:=0) (by rw [newL_len];exact hc)
 rw [newL_get _ c hc,show t.now.length+1+0=t.now.length+1 from rfl]at c0
 obtain ⟨V,hV⟩:∃ V:Int,V=((t.now.length+1:Nat):Int):=⟨_,rfl⟩
 rw [←hV]at c0
 have HV:=hid hV
 obtain ⟨y2,y2f⟩:=boxed_cell X1.x2
 have y2t:=X1.x2
 obtain ⟨W2,hW2⟩:∃ W2,W2=w1.setCell ⟨b2,0,none⟩ (.int .i64 V):=⟨_,rfl⟩
 have F2:Hid (Fr (fun k=>k=b2) w1 W2):=hid (by rw [hW2];exact ⟨rfl,rfl,rfl,by simp,fun k _ hk=>heap_setCell_other _ _ _ _ hk⟩)
 have Y2:Hid (W2.heap[b2]? = some (.cells #[.int .i64 V] 3 (0,0))):=hid (by
  have:=heap_setCell_same w1 b2 0 _ 3 (.int .i64 V) y2t
  rw [hW2,this];simp)
 have hlt2:b2<w.heap.size:=HLT.out b2 RR.out.2.2.1
 have hg2:g≠b2:=by have:=HG.out;omega
 have z0:=(boxed_cell ((F2.out.blk b0 (Array.getElem?_eq_some_iff.1 X1.x0).1 (fun e=>n0 e.symm)).trans X1.x0)).1
 have z3:=(boxed_cell ((F2.out.blk b3 (Array.getElem?_eq_some_iff.1 X1.x3).1 (fun e=>n3 e.symm)).trans X1.x3)).1
 have P2:=hid (P1.out.mine (fr_imp F2.out (fun b hb=>by subst hb;exact Or.inl RR.out.2.2.1)))
 have H2:=hid ((HH.out.rok K1.out HR.out).fr F2.out (fun e=>nh e.symm))
 have D2:=hid (rd_blk (rd_blk HRD.out (W:=w1) (K1.out.at_ RR.out.2.2.2.2 (HLT.out bb RR.out.2.2.2.2))) (W:=W2) (F2.out.blk bb (Nat.lt_of_lt_of_le (HLT.out bb RR.out.2.2.2.2) K1.out.size) (fun e=>nb e.symm)))
 have R2:=hid (show RowI W2 g (newL t.now.length c) from (F2.out.blk g R1.out.lt hg2).trans R1.out)
 have C2:=hid (lay_all hb c t.now.length bb bo m g xs P2.out H2.out (Or.inl HR.out) (Or.inl RR.out.2.2.2.2) (Or.inr rfl) R2.out D2.out HXS.out (by rw [growN_busy];exact HBZ.out) (growN_len t c) hm1 hm2 hc hc2 hn4 (by omega))
 clear X1 hV y2t
 go_upto_region 5 with fail
 rw [←hW2]
 clear hW2 c0 y2 y2f y0 y1
 go_wp2_with (go_at_call 26;refine C2.out.mono ?_;rintro e w3 ⟨rfl,hP,hk⟩;have P3:=hid hP;have K3:=hid hk;clear hP hk)
 go_ret
 refine ⟨rfl,?_,?_,?_⟩
 ·exact (P3.out.less (fun b hb=>Or.inl hb)).up (by omega)
 ·rw [←HV.out]
  exact (K3.out.at_ (Or.inl RR.out.2.2.1) (Array.getElem?_eq_some_iff.1 Y2.out).1).trans Y2.out
 ·have k1:Fr (fun b=>¬(R b∧b≠b2)∧b≠0) w w1:=fr_imp K1.out (fun b hb=>⟨fun e=>hb.1 e.1,hb.2⟩)
  have k2:Fr (fun b=>¬(R b∧b≠b2)∧b≠0) w1 W2:=fr_imp F2.out (fun b hb=>⟨fun e=>e.2 hb,by subst hb;exact P1.out.ne0 (Or.inl RR.out.2.2.1)⟩)
  have k3:Fr (fun b=>¬(R b∧b≠b2)∧b≠0) W2 w3:=fr_imp K3.out (fun b hb=>⟨fun e=>hb.1 (Or.inl e.1),hb.2⟩)
  exact (k1.trans k2 (fun _ _ h=>h)).trans k3 (fun _ _ h=>h)
end
end Spl
namespace Spl
open Go.RowKit Go.Maps
open Dsk (gt hid undrew keep_old keep_cell lt_cell)
open Jrn (Rd bs bs_length bs_one bs_get bs_get' bs_append rd_own Row5 putN numAt rootN Pv2)
open Cch (Fr hd_cell hd_frozen blk_set wpAnyK wpAnyK_done wp_region_K)
section
variable {arm:Prop} {room croom K:Nat} {p q:Nat} {R:Nat→Prop} {t:RS} {w:World}
theorem src_own{W:World}{B n cp:Nat}{ao:Option Addr}{l:List Nat}(h:W.ownsRow B 3 1 (.slice ao n cp) n (zI l)):Cch.Src W ao n cp (zI l):=
 Cch.src_row (rr_base h (Nat.zero_le _)) (fun u hu=>by obtain ⟨z,_,rfl⟩:=List.mem_map.1 hu;rfl)
variable {ws:List Nat}
theorem lay_root{t:RS}(h:Lay t.now [] ws):t.now.getD 0 []=rootN 0 0 ws:=h.root
theorem Write_yes(hb c bb bo m:Nat)(xs ws:List Nat)(h:HeapS arm room croom K w hb p q R t [] ws)(rb:R bb)(hrd:Rd w (some ⟨bb,bo,none⟩) m m xs)(hxs:∀ x∈xs,x<256)(hm1:1≤m)(hm2:m≤20000)(hc:c=(m - 1)/508+1)(hn4:t.now.length+c≤4000)(hK:K+20000≤500000) :
  Calls Tryz.prog 7 #[.pointer (some ⟨hb,0,none⟩),.slice (some ⟨bb,bo,none⟩) m m] w fun e w'=>e=.returned (.tuple #[.int .i64 ((t.now.length+1:Nat):Int),.int .i64 0])∧PrgAt arm room croom (K+3+3*c) w' p q R (layT (growN t c) t.now.length c xs c)∧Rok R w w':=by
 have hc40:c≤40:=by omega
 have hc1:1≤c:=by omega
 obtain ⟨WA,hWA⟩:∃ WA,WA=(w.alloc (.cells #[.pointer (some ⟨hb,0,none⟩)] 25)).alloc (.cells #[.slice (some ⟨bb,bo,none⟩) m m] 34):=⟨_,rfl⟩
 have BA:Below w.heap.size w WA:=by rw [hWA];exact gt (Below.alloc (Below.refl _ _) (Nat.le_refl _) _) (Below.alloc (Below.refl _ _) (Nat.le_refl _) _)
 have sA:WA.heap.size=w.heap.size+2:=by rw [hWA];simp
 have a0:WA.heap[w.heap.size]? = some (.cells #[.pointer (some ⟨hb,0,none⟩)] 25 (0,0)):=by rw [hWA];exact al_step (al_last w _ rfl)
 have a1:WA.heap[w.heap.size+1]? = some (.cells #[.slice (some ⟨bb,bo,none⟩) m m] 34 (0,0)):=by rw [hWA];exact al_last _ _ (by simp)
 have PA:=h.prg.more (R':=Plus (Plus R w.heap.size) (w.heap.size+1)) BA (fun b hb=>by
  rcases hb with (h1 |h1) |h1
  ·exact Or.inl h1
  ·exact Or.inr (by omega)
  ·exact Or.inr (by omega))
 have hHA:=h.heap.keep BA
 have SA:=HeapS.moved h PA hHA (Or.inl (Or.inl h.mem))
 have CA:=hid (asked_yes hHA (m:Int))
 rw [show askN (m:Int)=0 from if_neg (by omega)]at CA
 have CL:=hid (listed_yes SA (by omega) (by omega) (by simp [flat]))
 rw [show flat ([]:List (Nat×List Nat)) = [] from rfl]at CL
 simp only [List.length_nil,Nat.mul_zero,Nat.add_zero]at CL
 have CC:=hid (fun W=>count_any (m:Int) ⟨by omega,by omega⟩ W)
 rw [countN m hm1,←hc]at CC
 have HS:=hid h;have HSA:=hid SA;have HBA:=hid BA;have HsA:=hid sA;have HA0:=hid a0;have HA1:=hid a1;have HRD:=hid hrd;have HXS:=hid hxs;have HRB:=hid rb;have HCE:=hid hc
 have HWA:=hid hWA
 have y0:=(boxed_cell a0).1;have y1:=(boxed_cell a1).1
 have HPg:=hid (RS.pages_busy h.busy)
 clear h BA sA a0 a1 PA hHA SA hrd hxs hWA rb hc
 go_enter Tryz.func7,Tryz.ntmps7
 go_upto_region 1 with fail
 rw [←HWA.out]
 clear HWA
 go_upto_region 5 with (first
  | (go_at_call 20;refine CA.out.mono ?_;rintro e w0 ⟨rfl,hw⟩;obtain rfl:=hw.symm)
  | (go_at_call 21;refine CL.out.mono ?_;rintro e w1 ⟨ao,cp,rfl,ho,hP,hk⟩;have O1:=hid ho;have P1:=hid hP;have K1:=hid hk;clear ho hP hk))
 obtain ⟨R1,hR1⟩:∃ R1,R1=Plus (Plus R w.heap.size) (w.heap.size+1):=⟨_,rfl⟩
 rw [←hR1]at P1 K1
 have r0:R1 w.heap.size:=by rw [hR1];exact Or.inl (Or.inr rfl)
 have r1:R1 (w.heap.size+1):=by rw [hR1];exact Or.inr rfl
 have rR:∀ b,R b→R1 b:=fun b hb=>by rw [hR1];exact Or.inl (Or.inl hb)
 have b0:=(K1.out.at_ r0 (by rw [HsA.out];omega)).trans HA0.out
 have b1:=(K1.out.at_ r1 (by rw [HsA.out];omega)).trans HA1.out
 have HR1:=hid (show R1 w.heap.size∧R1 (w.heap.size+1)∧∀ b,R b→R1 b from ⟨r0,r1,rR⟩)
 have H1:=hid (HSA.out.heap.rok K1.out (rR hb HS.out.mem))
 have HB0:=hid b0;have HB1:=hid b1
 have z0:=(boxed_cell b0).1;have z1:=(boxed_cell b1).1
 have HS1:=hid (show w.heap.size+2≤w1.heap.size by rw [←HsA.out];exact K1.out.size)
 clear y0 y1 b0 b1 r0 r1 rR hR1
 obtain ⟨W2,hW2⟩:∃ W2,W2=w1.alloc (.cells #[.int .i64 (c:Int)] 3):=⟨_,rfl⟩
 go_upto_region 8 with (go_at_call 10;refine (CC.out _).mono ?_;rintro e w0 ⟨rfl,hw⟩;obtain rfl:=hw.symm)
 rw [←hW2]
 have B2:Below w1.heap.size w1 W2:=by rw [hW2];exact Below.alloc (Below.refl _ _) (Nat.le_refl _) _
 have P2:=hid (P1.out.new B2 (g:=w1.heap.size) (Nat.le_refl _) (by rw [hW2];simp))
 have H2:=hid (H1.out.keep B2)
 have X2:=hid (show W2.heap[w1.heap.size]? = some (.cells #[.int .i64 (c:Int)] 3 (0,0)) by rw [hW2];exact heap_alloc_new _ _)
 have HB2:=hid B2
 clear hW2 z0 z1
 have CPg:=hid (fun W (hW:Below W2.heap.size W2 W)=>prg_pages (P2.out.keep hW))
 rw [HPg.out]at CPg
 have kx:¬(4000:Int) - (t.now.length:Int)<(c:Int):=by omega
 have HD2:=hid (show Below W2.heap.size W2 W2.drew from (Below.refl _ _).drew)
 have S2:Hid (W2.drew.cell? ⟨w1.heap.size,0,none⟩=some (.int .i64 (c:Int))∧W2.drew.cell? ⟨w.heap.size,0,none⟩=some (.pointer (some ⟨hb,0,none⟩))):=hid ⟨keep_old HD2.out (boxed_cell X2.out).1,keep_old HD2.out (keep_old HB2.out (boxed_cell HB0.out).1)⟩
 obtain ⟨NL,hNL⟩:∃ NL:Int,NL=(t.now.length:Int):=⟨_,rfl⟩
 rw [←hNL]at kx CPg
 have hNb:0≤NL∧NL≤4000:=by omega
 have HNL:=hid hNL
 clear hNL
 refine wp_region_K (S:=fun W=>W.cell? ⟨w1.heap.size,0,none⟩=some (.int .i64 (c:Int))∧W.cell? ⟨w.heap.size,0,none⟩=some (.pointer (some ⟨hb,0,none⟩))) (fun _=>false) (by kernel_rfl) S2.out (fun hHeld=>?_)
 refine gkt 0 ?_ (h:=by intro W hSw;obtain ⟨x0,x1⟩:=hSw;go_simp;first |done |with_reducible rfl)
 refine gkp 1 ?_
 refine gkp 2 ?_
 refine gkp 3 ?_
 refine gkt 4 ?_ (h:=by intro W hSw;obtain ⟨x0,x1⟩:=hSw;go_simp;first |done |with_reducible rfl)
 refine gk1 5 (fun K hK=>?_)
 go_simp
 go_at_call 14;refine (Pager_yes (H2.out.keep HD2.out)).mono ?_;rintro e wx ⟨rfl,hwx⟩;obtain rfl:=hwx.symm
 refine hK.out _ _ hHeld (fun hHeld=>?_)
 clear hK K
 (try simp only [Act.put,sA,sZ,sS])
 refine gk1 6 (fun K hK=>?_)
 go_simp
 go_at_call 15;refine (CPg.out _ HD2.out).mono ?_;rintro e w3 ⟨rfl,hb3⟩;have B3:=hid (gt HD2.out hb3);have hR:=(show w3.cell? ⟨w1.heap.size,0,none⟩=some (.int .i64 (c:Int))∧w3.cell? ⟨w.heap.size,0,none⟩=some (.pointer (some ⟨hb,0,none⟩)) from ⟨keep_old hb3 hHeld.1,keep_old hb3 hHeld.2⟩);clear hb3
 refine hK.out _ _ hR (fun hHeld=>?_)
 clear hK K hR
 (try simp only [Act.put,sA,sZ,sS])
 refine gkp 7 ?_
 refine gkp 8 ?_
 refine wpAnyK_done (by kernel_rfl) ?_ _
 clear hHeld
 rw [show IntKind.i64.wrap 4000=4000 from IntWalk.i64_in _ ⟨by omega,by omega⟩,show IntKind.i64.wrap (4000 - NL)=4000 - NL from IntWalk.i64_in _ ⟨by omega,by omega⟩,decide_eq_false kx]
 obtain ⟨W4,hW4⟩:∃ W4,W4=w3.alloc (.cells #[.int .i64 0] 3):=⟨_,rfl⟩
 go_upto_region 11 with fail
 rw [←hW4]
 have B4:Below w3.heap.size w3 W4:=by rw [hW4];exact Below.alloc (Below.refl _ _) (Nat.le_refl _) _
 have X4:W4.heap[w3.heap.size]? = some (.cells #[.int .i64 0] 3 (0,0)):=by rw [hW4];exact heap_alloc_new _ _
 have hS4:w3.heap.size<W4.heap.size:=by rw [hW4];simp
 clear hW4
 have hS2:w1.heap.size<W2.heap.size:=(Array.getElem?_eq_some_iff.1 X2.out).1
 have hS3:=B3.out.size
 have B24:Below W2.heap.size W2 W4.drew:=gt (gt B3.out B4) ((Below.refl _ _).drew)
 have B14:Below w1.heap.size w1 W4.drew:=gt HB2.out B24
 obtain ⟨R4,hR4⟩:∃ R4,R4=Plus (Plus (Own2 R1 (.slice ao 0 cp)) w1.heap.size) w3.heap.size:=⟨_,rfl⟩
 have P4:=hid (show PrgAt arm room croom (K+2) W4.drew p q R4 t by
  rw [hR4]
  exact (P2.out.keep B3.out).new (gt B4 ((Below.refl _ _).drew)) (g:=w3.heap.size) (Nat.le_refl _) hS4)
 have H4:=hid (H1.out.keep B14)
 have E0:=hid ((B14.block _ (Array.getElem?_eq_some_iff.1 HB0.out).1).trans HB0.out)
 have E1:=hid ((B14.block _ (Array.getElem?_eq_some_iff.1 HB1.out).1).trans HB1.out)
 have E2:=hid ((B24.block _ hS2).trans X2.out)
 have E3:=hid ((((Below.refl W4.heap.size W4).drew).block _ hS4).trans X4)
 have O4:=hid (own_fr (E:=fun _=>False) O1.out (Fr.of_below B14) (fun _ _ h=>h))
 have rr:R4 w.heap.size∧R4 (w.heap.size+1)∧R4 w1.heap.size∧R4 w3.heap.size∧(∀ b,R b→R4 b)∧(∀ b,(Value.slice ao 0 cp).ownBlock=some b→R4 b):=by
  rw [hR4]
  exact ⟨Or.inl (Or.inl (Or.inl HR1.out.1)),Or.inl (Or.inl (Or.inl HR1.out.2.1)),Or.inl (Or.inr rfl),Or.inr rfl,fun b hb=>Or.inl (Or.inl (Or.inl (HR1.out.2.2 b hb))),fun b hb=>Or.inl (Or.inl (Or.inr hb))⟩
 have RR:=hid rr
 have S4:=hid (HeapS.moved HS.out P4.out H4.out (rr.2.2.2.2.1 hb HS.out.mem))
 have K4:=hid (show Rok R w W4.drew from ((Rok.of_below HBA.out).then K1.out HR1.out.2.2).below B14)
 have hlw:w.heap.size+2≤w1.heap.size:=HS1.out
 clear rr hR4 B24 B14 X4 B4
 have C5:=hid (steady_yes (R:=R4) hb [] ws ao cp none 0 0 [] S4.out (src_own O4.out) ⟨rfl,fun _=>⟨rfl,rfl⟩,fun a ha=>(by cases ha),fun u hu=>(by cases hu)⟩ (fun a ha=>RR.out.2.2.2.2.2 _ (by rw [ha];rfl)) (fun a ha=>(by cases ha)) (by simp [flat]) (by simp [flat]) (by omega) (by omega) (by omega))
 rw [show (flat ([]:List (Nat×List Nat))).length=0 from rfl]at C5
 refine wp_region_K (S:=fun W=>W.cell? ⟨w.heap.size,0,none⟩=some (.pointer (some ⟨hb,0,none⟩))) (fun _=>false) (by kernel_rfl) (boxed_cell E0.out).1 (fun hHeld=>?_)
 refine gkt 0 ?_ (h:=by intro W hSw;go_simp;first |done |with_reducible rfl)
 refine gkt 1 ?_ (h:=by intro W hSw;go_simp;first |done |with_reducible rfl)
 refine gkp 2 ?_
 refine gkp 4 ?_
 refine gk1 3 (fun K hK=>?_)
 go_simp
 go_at_call 23;refine C5.out.mono ?_;rintro e w5 ⟨rfl,hp5,hk5⟩;have P5:=hid hp5;have K5:=hid hk5;have hR:=(boxed_cell ((hk5.at_ RR.out.1 (Array.getElem?_eq_some_iff.1 E0.out).1).trans E0.out)).1;clear hp5 hk5
 refine hK.out _ _ hR (fun hHeld=>?_)
 clear hK K hR
 (try simp only [Act.put,sA,sZ,sS])
 have X5:WBx w5 w.heap.size w1.heap.size w3.heap.size (w.heap.size+1) hb c bb bo m (.int .i64 0):=WBx.rok ⟨E0.out,E2.out,E3.out,E1.out⟩ K5.out RR.out.1 RR.out.2.2.1 RR.out.2.2.2.1 RR.out.2.1
 have hbw:bb<w.heap.size:=HS.out.prg.lt HRB.out
 have hhw:hb<w.heap.size:=HS.out.prg.lt HS.out.mem
 have hsz4:=K4.out.size
 have D5:Rd w5 (some ⟨bb,bo,none⟩) m m xs:=rd_blk (rd_blk HRD.out (W:=W4.drew) (K4.out.at_ HRB.out hbw)) (K5.out.at_ (RR.out.2.2.2.2.1 bb HRB.out) (by omega))
 have hc:=HCE.out
 have C6:=hid (write1_yes (R:=R4) w.heap.size w1.heap.size w3.heap.size (w.heap.size+1) hb c bb bo m (.int .i64 0) xs ws P5.out (H4.out.rok K5.out (RR.out.2.2.2.2.1 hb HS.out.mem)) (RR.out.2.2.2.2.1 hb HS.out.mem) X5 RR.out.1 RR.out.2.2.1 RR.out.2.2.2.1 RR.out.2.1 (RR.out.2.2.2.2.1 bb HRB.out) (by omega) (by omega) (by omega) (by omega) (lay_root HS.out.lay) HS.out.busy HS.out.lay.ln hn4 D5 HXS.out (by omega) (by omega) hc1 (by omega) (by omega))
 clear X5 D5 hc
 refine gk1 5 (fun K hK=>?_)
 go_simp
 go_at_call 22;refine whole24 _ _ _ _ _ (C6.out.mono ?_)
 rintro e w6 ⟨rfl,hp6,hf6,hk6⟩
 refine ⟨0,rfl,?_⟩
 have P6:=hid hp6;have X6:=hid hf6;have K6:=hid hk6
 have hR:w6.cell? ⟨w.heap.size,0,none⟩=some (.pointer (some ⟨hb,0,none⟩)):=(boxed_cell ((hk6.at_ (show R4 w.heap.size∧w.heap.size≠w3.heap.size from ⟨RR.out.1,by omega⟩) (Nat.lt_of_lt_of_le (Array.getElem?_eq_some_iff.1 E0.out).1 K5.out.size)).trans ((K5.out.at_ RR.out.1 (Array.getElem?_eq_some_iff.1 E0.out).1).trans E0.out))).1
 clear hp6 hf6 hk6
 refine hK.out _ _ hR (fun hHeld=>?_)
 clear hK K hR
 (try simp only [Act.put,sA,sZ,sS])
 refine gkp 6 ?_
 refine wpAnyK_done (by kernel_rfl) ?_ _
 clear hHeld
 have f6:=(boxed_cell X6.out).1
 go_wp2
 go_ret2
 refine ⟨rfl,?_,?_⟩
 ·exact (P6.out.less (fun b hb=>RR.out.2.2.2.2.1 b hb)).up (by omega)
 ·exact (K4.out.then K5.out (fun b hb=>RR.out.2.2.2.2.1 b hb)).then K6.out (fun b hb=>⟨RR.out.2.2.2.2.1 b hb,by have:=HS.out.prg.lt hb;omega⟩)
theorem layT_get(t:RS)(N c:Nat)(xs:List Nat)(i j:Nat)(hj:j<N∨N+i≤j):(layT t N c xs i).now.getD j []=t.now.getD j []:=by
 induction i with
 | zero=>rfl
 | succ i ih=>
  show ((layT t N c xs i).now.set (N+i) _).getD j []=_
  rw [set_other (by omega)]
  exact ih (by omega)
theorem layT_at(t:RS)(N c:Nat)(xs:List Nat)(i j:Nat)(hj:j<i)(hl:N+i≤t.now.length):(layT t N c xs i).now.getD (N+j) []=linkB (nxO N c j) (chunk xs j):=by
 induction i with
 | zero=>omega
 | succ i ih=>
  show ((layT t N c xs i).now.set (N+i) _).getD (N+j) []=_
  by_cases h:j=i
  ·subst h
   rw [set_same (by rw [layT_len];omega)]
  ·rw [set_other (by omega)]
   exact ih (by omega) (by omega)
theorem layT_sure(t:RS)(N c:Nat)(xs:List Nat)(i:Nat):(layT t N c xs i).sure=t.sure∧(layT t N c xs i).n=t.n:=by
 induction i with
 | zero=>exact ⟨rfl,rfl⟩
 | succ i ih=>exact ih
theorem Write_heap{w':World}{hb c K':Nat}{xs:List Nat}(h:HeapS arm room croom K w hb p q R t [] ws)(hP:PrgAt arm room croom K' w' p q R (layT (growN t c) t.now.length c xs c))(hk:Rok R w w'):HeapS arm room croom K' w' hb p q R (layT (growN t c) t.now.length c xs c) [] ws∧(layT (growN t c) t.now.length c xs c).now.length=t.now.length+c:=by
 have hl:(layT (growN t c) t.now.length c xs c).now.length=t.now.length+c:=by rw [layT_len,growN_len]
 refine ⟨⟨hP,h.heap.rok hk h.mem,h.mem,?_,by rw [layT_busy,growN_busy];exact h.busy,by rw [(layT_sure _ _ _ _ _).1,(layT_sure _ _ _ _ _).2,(growN_sure t c).1,(growN_sure t c).2];exact h.sur⟩,hl⟩
 have hL:=h.lay
 have hn:=hL.ln
 refine ⟨?_,?_,hL.nd,hL.wl,by rw [hl];omega⟩
 ·rw [layT_get _ _ _ _ _ _ (Or.inl hn),growN_root t c hn];exact hL.root
 ·exact hL.chain
end
end Spl
end Go.Proofs.YtneemfbnjkcflaaGreatDoor
