/- Pages are taken, and bytes are laid into them; no statement of the seat is proved here. -/
import Derived.Test.YtneemfbnjkcflaaGreatDoorW39
set_option maxHeartbeats 16000000
set_option maxRecDepth 20000
namespace Go.Proofs.YtneemfbnjkcflaaGreatDoor
namespace Spl
open Go.RowKit Go.Maps
open Dsk (gt hid undrew keep_old keep_cell lt_cell)
open Jrn (Rd bs bs_length bs_one bs_get bs_get' bs_append rd_own Row5 putN numAt rootN)
open Cch (Fr hd_cell hd_frozen blk_set wpAnyK wpAnyK_done wp_region_K)
def ivs(l:List Int):List Value:=l.map (fun z=>Value.int .i64 z)
theorem ivs_get(l:List Int)(k:Nat)(h:k<l.length):(ivs l)[k]? = some (.int .i64 (l.getD k 0)):=by simp [ivs,List.getElem?_map,List.getElem?_eq_getElem h,List.getD]
def RowI(W:World)(g:Nat)(l:List Int):Prop:=W.heap[g]? = some (.cells (ivs l).toArray 3 (0,0))
variable {l:List Int} {g i:Nat} {W:World}
theorem RowI.set{v:Int}(h:RowI W g l):RowI (W.setCell ⟨g,i,none⟩ (.int .i64 v)) g (l.set i v):=by
 unfold RowI
 rw [blk_set h]
 simp [ivs]
theorem RowI.cell(h:RowI W g l)(hi:i<l.length):W.cell? ⟨g,i,none⟩=some (.int .i64 (l.getD i 0)):=by rw [hd_cell h,ivs_get l i hi]
theorem RowI.lt(h:RowI W g l):g<W.heap.size:=(Array.getElem?_eq_some_iff.1 h).1
theorem RowI.rok{R:Nat→Prop}{W':World}(h:RowI W g l)(hk:Rok R W W')(hg:R g):RowI W' g l:=(hk.at_ hg h.lt).trans h
def growN(t:RS):Nat→RS
 | 0=>t
 | k+1=>(growN t k).grow
theorem growN_now(t:RS)(k:Nat):(growN t k).now=t.now++List.replicate k zeros:=by
 induction k with
 | zero=>simp [growN]
 | succ k ih=>show (growN t k).now++[zeros]=_;rw [ih,List.append_assoc,←List.replicate_succ']
theorem growN_len(t:RS)(k:Nat):(growN t k).now.length=t.now.length+k:=by rw [growN_now];simp
theorem growN_busy(t:RS)(k:Nat):(growN t k).busy=t.busy:=by
 induction k with
 | zero=>rfl
 | succ k ih=>exact ih
theorem growN_root(t:RS)(k:Nat)(h:0<t.now.length):(growN t k).now.getD 0 []=t.now.getD 0 []:=by
 rw [growN_now];simp only [List.getD];rw [List.getElem?_append_left h]
theorem growN_sure(t:RS)(k:Nat):(growN t k).sure=t.sure∧(growN t k).n=t.n:=by
 induction k with
 | zero=>exact ⟨rfl,rfl⟩
 | succ k ih=>exact ih
theorem make28c(n:Nat)(hn:n≤1000000)(w:World):(Instr.makeSlice 28 (.int .i64 (n:Int)) (.int .i64 (n:Int))).run Tryz.prog w=.ok (.slice (some ⟨w.heap.size,0,none⟩) n n) (w.alloc (.cells (Array.replicate n (.int .i64 0)) 3)):=by
 obtain ⟨i,hi,hz0,hz1,hz2⟩:=info_parts Cch.info3
 have hr:=run_make (P:=Tryz.prog) w 28 3 i (.int .i64 0) Tryz.underlying28 hi hz0 .i64 .i64 n n (by omega) (by omega) (by rw [hz2];omega) (by omega)
 simp only [Int.toNat_natCast,hz1,Nat.mul_one]at hr
 rw [hr,show Array.replicate n (Value.int .i64 0)=(List.replicate n (Value.int .i64 0)).toArray by simp,←toList_madeCells_one,Array.toArray_toList]
 rfl
def newL(N c:Nat):List Int:=(List.range c).map (fun j=>((N+1+j:Nat):Int))
theorem newL_len(N c:Nat):(newL N c).length=c:=by simp [newL]
theorem newL_get(N c:Nat){k:Nat}(h:k<c):(newL N c).getD k 0=((N+1+k:Nat):Int):=by simp [newL,List.getD,List.getElem?_map,List.getElem?_range h]
section
variable {arm:Prop} {room croom K:Nat} {p q:Nat} {R:Nat→Prop} {t:RS} {w:World}
theorem take_all(hb c:Nat)(ws:List Nat)(h:PrgAt arm room croom K w p q R t)(hh:HeapAt w hb p)(hR:R hb)(hx:t.now.getD 0 []=rootN 0 0 ws)(hbz:t.busy=true)(hn:0<t.now.length)(hn4:t.now.length+c≤4000)(hK:K+2*c≤500000) :
  Calls Tryz.prog 25 #[.pointer (some ⟨hb,0,none⟩),.int .i64 (c:Int)] w fun e w'=>∃ g,e=.returned (.tuple #[.slice (some ⟨g,0,none⟩) c c,.int .i64 0])∧RowI w' g (newL t.now.length c)∧w.heap.size≤g∧PrgAt arm room croom (K+2*c) w' p q (Plus R g) (growN t c)∧Rok R w w':=by
 obtain ⟨NN,hNN⟩:∃ NN,NN=Array.replicate c (Value.int .i64 0):=⟨_,rfl⟩
 have mk:∀ W,(Instr.makeSlice 28 (.int .i64 (c:Int)) (.int .i64 (c:Int))).run Tryz.prog W=.ok (.slice (some ⟨W.heap.size,0,none⟩) c c) (W.alloc (.cells NN 3)):=fun W=>by rw [hNN];exact make28c c (by omega) W
 obtain ⟨W1,hW1⟩:∃ W1,W1=w.alloc (.cells NN 3):=⟨_,rfl⟩
 obtain ⟨g,hg⟩:∃ g,g=w.heap.size:=⟨_,rfl⟩
 have B1:Below w.heap.size w W1:=by rw [hW1];exact Below.alloc (Below.refl _ _) (Nat.le_refl _) _
 have R1:Hid (RowI W1 g (List.replicate c 0)):=hid (by
  unfold RowI
  rw [hW1,hg,heap_alloc_new,hNN]
  unfold ivs
  rw [List.map_replicate,←List.toArray_replicate])
 have P1:=hid (h.new B1 (g:=g) (by omega) (by rw [hW1,hg];simp))
 have H1:=hid (hh.keep B1)
 have BB:=hid B1
 have HLT:=hid (h.lt hR)
 have HG:=hid hg;have HR:=hid hR;have HX:=hid hx;have HBZ:=hid hbz
 clear hNN h hh hR hx hbz B1
 go_enter Tryz.func25,Tryz.ntmps25
 go_upto_region 2 with fail
 rw [←hW1,←hg]
 clear hW1 hg mk
 go_wp2
 go_loopw [14] (fun cc W=>∃ (i:Nat) (xs:List Int),i≤c∧cc=.int .i64 (i:Int)∧Hid (RowI W g xs)∧Hid (xs.length=c∧∀ k,k<i→xs.getD k 0=((t.now.length+1+k:Nat):Int))∧Hid (PrgAt arm room croom (K+2*i) W p q (Plus R g) (growN t i)∧HeapAt W hb p∧Rok R w W)) (fun cc _=>c - (Lib.intOf cc).toNat)
 case atStart=>exact ⟨0,_,by omega,rfl,R1,hid ⟨List.length_replicate ..,fun k hk=>by omega⟩,hid ⟨P1.out,H1.out,Rok.of_below BB.out⟩⟩
 case round=>
  obtain ⟨i,xs,hi,rfl,RR,E,PP⟩:=hrel
  by_cases hiL:i<c
  ·have hiI:(i:Int)<(c:Int):=by omega
   have CT:=hid (Take_grow hb ws PP.out.1 PP.out.2.1 (Or.inl HR.out) (by rw [growN_root t i hn];exact HX.out) (by rw [growN_busy];exact HBZ.out) (by rw [growN_len];omega) (by rw [growN_len];omega) (by omega))
   rw [growN_len]at CT
   obtain ⟨V,hV⟩:∃ V:Int,V=((t.now.length+i+1:Nat):Int):=⟨_,rfl⟩
   rw [←hV]at CT
   have HV:=hid hV
   clear hV R1 P1 H1
   go_upto_region 8 with (go_at_call 52;refine CT.out.mono ?_;rintro e w2 ⟨rfl,hp2,hk2⟩;have P2:=hid hp2;have K2:=hid hk2;have R2:=hid (RowI.rok RR.out hk2 (Or.inr rfl));clear hp2 hk2)
   have c0:=R2.out.cell (i:=i) (by rw [E.out.1];exact hiL)
   have f0:w2.frozen? ⟨g,i,none⟩=false:=hd_frozen R2.out i
   go_wp2
   have F3:Fr (fun k=>k=g) w2 (w2.setCell ⟨g,i,none⟩ (.int .i64 V)):=⟨rfl,rfl,rfl,by simp,fun k _ hk=>heap_setCell_other _ _ _ _ hk⟩
   refine ⟨⟨i+1,xs.set i V,by omega,by go_num,hid R2.out.set,hid ⟨by rw [List.length_set];exact E.out.1,fun k hk=>?_⟩,hid ⟨?_,?_,?_⟩⟩,by simp [Lib.intOf];omega⟩
   ·by_cases hki:k=i
    ·subst hki
     rw [List.getD,List.getElem?_set_self (by rw [E.out.1];omega)]
     show V=_
     rw [HV.out];omega
    ·rw [List.getD,List.getElem?_set_ne (fun e=>hki e.symm)]
     exact E.out.2 k (by omega)
   ·exact P2.out.mine (fr_imp F3 (fun b hb=>Or.inr hb))
   ·refine (PP.out.2.1.rok K2.out (Or.inl HR.out)).fr F3 (fun e=>?_)
    have h1:=HLT.out;have h2:=HG.out;omega
   ·exact (PP.out.2.2.then K2.out (fun b hb=>Or.inl hb)).mine F3 (fun b hb=>by have:=HG.out;omega)
  ·obtain rfl:i=c:=by omega
   have hxs:xs=newL t.now.length i:=by
    apply List.ext_getElem (by rw [E.out.1,newL_len])
    intro k h1 h2
    have h3:=E.out.2 k (by rw [E.out.1]at h1;exact h1)
    rw [←newL_get _ i (by rw [E.out.1]at h1;exact h1),List.getD,List.getD,List.getElem?_eq_getElem h1,List.getElem?_eq_getElem h2]at h3
    exact h3
   have HX:=hid hxs
   clear hxs
   go_wp2
   go_ret2
   have hr:=RR.out
   rw [HX.out]at hr
   exact ⟨g,rfl,hr,by rw [HG.out];exact Nat.le_refl _,PP.out.1,PP.out.2.2⟩
def chunk(xs:List Nat)(i:Nat):List Nat:=(xs.drop (508*i)).take 508
def nxO(N c i:Nat):Nat:=if i+1<c then N+1+(i+1) else 0
def layT(t:RS)(N c:Nat)(xs:List Nat):Nat→RS
 | 0=>t
 | i+1=>(layT t N c xs i).put (N+i) (linkB (nxO N c i) (chunk xs i))
theorem layT_len(t:RS)(N c:Nat)(xs:List Nat)(i:Nat):(layT t N c xs i).now.length=t.now.length:=by
 induction i with
 | zero=>rfl
 | succ i ih=>show ((layT t N c xs i).now.set _ _).length=_;rw [List.length_set,ih]
theorem layT_busy(t:RS)(N c:Nat)(xs:List Nat)(i:Nat):(layT t N c xs i).busy=t.busy:=by
 induction i with
 | zero=>rfl
 | succ i ih=>exact ih
variable {xs:List Nat} {n cap:Nat} {w W:World}
theorem rd_blk{b o:Nat}(h:Rd w (some ⟨b,o,none⟩) n cap xs)(hW:W.heap[b]? = w.heap[b]?):Rd W (some ⟨b,o,none⟩) n cap xs:=by
 obtain ⟨h1,h2,h3,h4⟩:=h
 refine ⟨h1,h2,h3,fun hp=>?_⟩
 obtain ⟨b',o',e,hc⟩:=h4 hp
 cases e
 exact ⟨b,o,rfl,fun t ht=>by rw [World.cell?_of_block hW];exact hc t ht⟩
theorem rd_blk2{ao:Option Addr}{g:Nat}(h:Rd w ao n cap xs)(ha:∀ a,ao=some a→a.block=g)(hW:W.heap[g]? = w.heap[g]?):Rd W ao n cap xs:=by
 obtain ⟨h1,h2,h3,h4⟩:=h
 refine ⟨h1,h2,h3,fun hp=>?_⟩
 obtain ⟨b',o',rfl,hc⟩:=h4 hp
 obtain rfl:=ha _ rfl
 exact ⟨b',o',rfl,fun t ht=>by rw [World.cell?_of_block (a:=⟨b',o'+t,none⟩) hW];exact hc t ht⟩
theorem lay_all(hb c N bb bo m g:Nat)(xs:List Nat)(h:PrgAt arm room croom K w p q R t)(hh:HeapAt w hb p)(hR:R hb)(hRb:R bb)(hRg:R g)(hrow:RowI w g (newL N c))(hrd:Rd w (some ⟨bb,bo,none⟩) m m xs)(hx:∀ x∈xs,x<256)(hbz:t.busy=true)(hlen:t.now.length=N+c)(hm1:508*c<m+508)(hm2:m≤508*c)(hc:1≤c)(hc2:c≤1000)(hN4:N+c≤4000)(hK:K+c≤500000) :
  Calls Tryz.prog 26 #[.pointer (some ⟨hb,0,none⟩),.slice (some ⟨g,0,none⟩) c c,.slice (some ⟨bb,bo,none⟩) m m] w fun e w'=>e=.returned (.int .i64 0)∧PrgAt arm room croom (K+c) w' p q R (layT t N c xs c)∧Rok R w w':=by
 have hxl:=hrd.1
 have HP:=hid h;have HH:=hid hh;have HR:=hid hR;have HRb:=hid hRb;have HRg:=hid hRg;have HRow:=hid hrow;have HRd:=hid hrd;have HX:=hid hx;have HBZ:=hid hbz;have HL:=hid hlen;have HXL:=hid hxl
 have HBB:=hid (h.lt hRb);have HHB:=hid (h.lt hR)
 clear h hh hR hRb hRg hrow hrd hx hbz hlen hxl
 go_enter Tryz.func26,Tryz.ntmps26
 go_wp2
 go_loopw [2,13] (fun bv cc W=>∃ (i l:Nat) (ao:Option Addr),i≤c∧cc=.int .i64 (i:Int)∧bv=.slice ao l l∧(i<c→l=m - 508*i∧∃ o,ao=some ⟨bb,o,none⟩∧Hid (Rd W (some ⟨bb,o,none⟩) l l (xs.drop (508*i))))∧Hid (PrgAt arm room croom (K+i) W p q R (layT t N c xs i)∧HeapAt W hb p∧Rok R w W)) (fun _ cc _=>c - (Lib.intOf cc).toNat)
 case atStart=>exact ⟨0,m,some ⟨bb,bo,none⟩,by omega,rfl,rfl,fun _=>⟨by omega,bo,rfl,HRd⟩,hid ⟨HP.out,HH.out,Rok.of_below (Below.refl _ _)⟩⟩
 case round=>
  obtain ⟨i,l,ao,hi,rfl,rfl,hif,PP⟩:=hrel
  by_cases hiL:i<c
  ·obtain ⟨hl,oo,rfl,RR⟩:=hif hiL
   have hl1:1≤l:=by omega
   have hl2:l≤1000000:=by omega
   have HLm:=hid hl
   have HLB:=hid (show w.heap.size≤wr.heap.size from PP.out.2.2.size)
   have hiI:(i:Int)<(c:Int):=by omega
   have R1:=HRow.out.rok PP.out.2.2 HRg.out
   have c0:=R1.cell (i:=i) (by rw [newL_len];exact hiL)
   rw [newL_get N c hiL]at c0
   obtain ⟨V,hV⟩:∃ V:Int,V=((N+i+1:Nat):Int):=⟨_,rfl⟩
   rw [show N+1+i=N+i+1 by omega,←hV]at c0
   have HV:=hid hV
   obtain ⟨nx,hnx⟩:∃ nx:Nat,nx=nxO N c i:=⟨_,rfl⟩
   have HNX:=hid hnx
   have hnb:nx<4294967296:=by rw [hnx];unfold nxO;split<;>omega
   obtain ⟨W1,hW1⟩:∃ W1,W1=wr.alloc (.cells #[.int .i64 V,.int .i64 (nx:Int),.slice none 0 0] 65):=⟨_,rfl⟩
   clear hV hif hl
   by_cases hlast:i+1<c
   ·have hl3:(i:Int)+1<(c:Int):=by omega
    have c1:=R1.cell (i:=i+1) (by rw [newL_len];exact hlast)
    rw [newL_get N c hlast,show N+1+(i+1)=nx by rw [hnx];unfold nxO;rw [if_pos hlast]]at c1
    replace c1:=keep_old (show Below wr.heap.size wr (wr.alloc (.cells #[.int .i64 V,.int .i64 0,.slice none 0 0] 65)) from Below.alloc (Below.refl _ _) (Nat.le_refl _) _) c1
    clear hnx R1
    go_upto_region 7 with fail
    rw [←hW1]
    have B1:Hid (Below wr.heap.size wr W1):=hid (by rw [hW1];exact Below.alloc (Below.refl _ _) (Nat.le_refl _) _)
    have L1:Hid (LB W1 wr.heap.size V (nx:Int) none 0 0):=hid (by rw [hW1];exact LB.new wr V (nx:Int) none 0 0)
    have P1:=hid (PP.out.1.new B1.out (g:=wr.heap.size) (Nat.le_refl _) (by rw [hW1];simp))
    have H1:=hid (PP.out.2.1.keep B1.out)
    have RD:=RR.out.keep B1.out
    clear hW1 RR
    have CUT:=hid (cut_rd bb oo l 508 _ W1 RD (by omega) (by omega) (by omega))
    rw [show ((508:Nat):Int)=508 from rfl]at CUT
    clear RD
    obtain ⟨lb,hlb⟩:∃ lb,lb=wr.heap.size:=⟨_,rfl⟩
    rw [←hlb]
    rw [←hlb]at L1 P1 HLB
    have HLBE:=hid hlb
    clear hlb
    go_upto_region 8 with (go_at_call 32;refine CUT.out.mono ?_;rintro e w2 ⟨ao2,rfl,hp2,hb2,hk2,hB2⟩;have P2:=hid hp2;have Q2:=hid hb2;have A2:=hid hk2;have B2:=hid hB2;have L2:=hid (L1.out.keep hB2);obtain ⟨x0,x1,x2,x3,x4,x5⟩:=L2.out.cells;clear hp2 hb2 hk2 hB2 CUT)
    obtain ⟨W3,hW3⟩:∃ W3,W3=w2.setCell ⟨lb,2,none⟩ (.slice (some ⟨bb,oo,none⟩) (min 508 l) (min 508 l)):=⟨_,rfl⟩
    rw [←hW3]
    have L3:Hid (LB W3 lb V (nx:Int) (some ⟨bb,oo,none⟩) (min 508 l) (min 508 l)):=hid (by
     have:=heap_setCell_same w2 lb 2 _ 65 (.slice (some ⟨bb,oo,none⟩) (min 508 l) (min 508 l)) L2.out
     rw [hW3];unfold LB;rw [this];simp)
    have F3:Hid (Fr (fun k=>k=lb) w2 W3):=hid (by rw [hW3];exact ⟨rfl,rfl,rfl,by simp,fun k _ hk=>heap_setCell_other _ _ _ _ hk⟩)
    have hbl:bb≠lb:=by have h1:=HBB.out;have h2:=HLB.out;omega
    have B3:=hid (show Below W3.heap.size W3 W3.drew from (Below.refl _ _).drew)
    have P3:=hid (((P1.out.keep B2.out).mine (fr_imp F3.out (fun b hb=>Or.inr hb))).keep B3.out)
    have H3:=hid (((H1.out.keep B2.out).fr F3.out (fun e=>by have h1:=HHB.out;have h2:=HLB.out;omega)).keep B3.out)
    have D3:=hid ((rd_blk P2.out (W:=W3) (by rw [hW3];exact heap_setCell_other _ _ _ _ hbl)).keep B3.out)
    have E3:=hid ((rd_blk2 Q2.out A2.out (W:=W3) (by rw [hW3];exact heap_setCell_other _ _ _ _ hbl)).keep B3.out)
    have K3:=hid (show Rok R wr W3.drew from ((((Rok.of_below (Below.refl _ _)).below B1.out).below B2.out).mine F3.out (fun b hb=>by have:=HLBE.out;omega)).below B3.out)
    clear x0 x1 x2 x3 x4 x5 hW3 P2 Q2 P1 H1
    refine wp_region_K (S:=fun W=>LB W lb V (nx:Int) (some ⟨bb,oo,none⟩) (min 508 l) (min 508 l)) (fun _=>false) (by kernel_rfl) (L3.out.keep B3.out) (fun hHeld=>?_)
    refine gkp 0 ?_
    refine gkp 2 ?_
    refine gkt 3 ?_ (h:=by intro W hSw;obtain ⟨x0,x1,x2,_⟩:=hSw.cells;go_simp;first |done |with_reducible rfl)
    refine gk1 1 (fun K hK=>?_)
    go_simp
    go_at_call 14;refine (Pager_yes H3.out).mono ?_;rintro e wx ⟨rfl,hwx⟩;obtain rfl:=hwx.symm
    refine hK.out _ _ hHeld (fun hHeld=>?_)
    clear hK K
    (try simp only [Act.put,sA,sZ,sS])
    refine gk1 4 (fun K hK=>?_)
    go_simp
    go_at_call 54;refine (pageBytes_any V nx bb oo (min 508 l) (min 508 l) _ W3.drew D3.out (by omega) hnb).mono ?_;rintro e w4 ⟨g4,rfl,hr4,hb4⟩;have R4:=hid hr4;have B4:=hid hb4;have hL4:=hHeld.keep hb4;clear hr4 hb4
    refine hK.out _ _ hL4 (fun hHeld=>?_)
    clear hK K hL4
    (try simp only [Act.put,sA,sZ,sS])
    refine gk1 5 (fun K hK=>?_)
    go_simp
    go_at_call 53;rw [HV.out];refine (prg_put_yes (N+i) g4 0 512 _ (P3.out.keep B4.out) (by rw [layT_busy];exact HBZ.out) (by rw [layT_len,HL.out];omega) (by omega) R4.out.rd (linkB_bytes _ _ (fun x hx=>HX.out x (List.mem_of_mem_drop (List.mem_of_mem_take hx))))).mono ?_;rintro e w5 ⟨rfl,hp5,hk5⟩;have P5:=hid hp5;have K5:=hid hk5;have hL5:=hHeld.rok hk5 (Or.inr rfl);clear hp5 hk5
    refine hK.out _ _ hL5 (fun hHeld=>?_)
    clear hK K hL5
    (try simp only [Act.put,sA,sZ,sS])
    refine gkp 6 ?_
    refine wpAnyK_done (by kernel_rfl) ?_ _
    clear hHeld
    go_wp2
    have HK5:=hid ((K3.out.below B4.out).then K5.out (fun b hb=>Or.inl hb))
    refine ⟨⟨i+1,l - 508,ao2,by omega,by go_num,rfl,fun hlt=>?_,hid ⟨?_,?_,?_⟩⟩,by simp [Lib.intOf];omega⟩
    ·have hE:=rd_blk2 (E3.out.keep B4.out) A2.out (W:=w5) (K5.out.at_ (Or.inl HRb.out) (Nat.lt_of_lt_of_le HBB.out (Nat.le_trans PP.out.2.2.size ((K3.out.below B4.out).size))))
     have hlm:=HLm.out
     refine ⟨by omega,?_⟩
     obtain ⟨b',o',e',_⟩:=hE.2.2.2 (by omega)
     subst e'
     obtain rfl:=A2.out _ rfl
     refine ⟨o',rfl,hid ?_⟩
     rw [show 508*(i+1)=508*i+508 by omega,←List.drop_drop]
     exact hE
    ·have hp:=P5.out.less (R':=R) (fun b hb=>Or.inl hb)
     rw [HNX.out]at hp
     exact hp
    ·exact PP.out.2.1.rok HK5.out HR.out
    ·exact PP.out.2.2.then HK5.out (fun b hb=>hb)
   ·have hl3:¬(i:Int)+1<(c:Int):=by omega
    obtain rfl:nx=0:=by rw [hnx];unfold nxO;rw [if_neg hlast]
    rw [show ((0:Nat):Int)=0 from rfl]at hW1
    clear hnx R1
    go_upto_region 7 with fail
    rw [←hW1]
    have B1:Hid (Below wr.heap.size wr W1):=hid (by rw [hW1];exact Below.alloc (Below.refl _ _) (Nat.le_refl _) _)
    have L1:Hid (LB W1 wr.heap.size V 0 none 0 0):=hid (by rw [hW1];exact LB.new wr V 0 none 0 0)
    have P1:=hid (PP.out.1.new B1.out (g:=wr.heap.size) (Nat.le_refl _) (by rw [hW1];simp))
    have H1:=hid (PP.out.2.1.keep B1.out)
    have RD:=RR.out.keep B1.out
    clear hW1 RR
    have CUT:=hid (cut_rd bb oo l 508 _ W1 RD (by omega) (by omega) (by omega))
    rw [show ((508:Nat):Int)=508 from rfl]at CUT
    clear RD
    obtain ⟨lb,hlb⟩:∃ lb,lb=wr.heap.size:=⟨_,rfl⟩
    rw [←hlb]
    rw [←hlb]at L1 P1 HLB
    have HLBE:=hid hlb
    clear hlb
    go_upto_region 8 with (go_at_call 32;refine CUT.out.mono ?_;rintro e w2 ⟨ao2,rfl,hp2,hb2,hk2,hB2⟩;have P2:=hid hp2;have Q2:=hid hb2;have A2:=hid hk2;have B2:=hid hB2;have L2:=hid (L1.out.keep hB2);obtain ⟨x0,x1,x2,x3,x4,x5⟩:=L2.out.cells;clear hp2 hb2 hk2 hB2 CUT)
    obtain ⟨W3,hW3⟩:∃ W3,W3=w2.setCell ⟨lb,2,none⟩ (.slice (some ⟨bb,oo,none⟩) (min 508 l) (min 508 l)):=⟨_,rfl⟩
    rw [←hW3]
    have L3:Hid (LB W3 lb V 0 (some ⟨bb,oo,none⟩) (min 508 l) (min 508 l)):=hid (by
     have:=heap_setCell_same w2 lb 2 _ 65 (.slice (some ⟨bb,oo,none⟩) (min 508 l) (min 508 l)) L2.out
     rw [hW3];unfold LB;rw [this];simp)
    have F3:Hid (Fr (fun k=>k=lb) w2 W3):=hid (by rw [hW3];exact ⟨rfl,rfl,rfl,by simp,fun k _ hk=>heap_setCell_other _ _ _ _ hk⟩)
    have hbl:bb≠lb:=by have h1:=HBB.out;have h2:=HLB.out;omega
    have B3:=hid (show Below W3.heap.size W3 W3.drew from (Below.refl _ _).drew)
    have P3:=hid (((P1.out.keep B2.out).mine (fr_imp F3.out (fun b hb=>Or.inr hb))).keep B3.out)
    have H3:=hid (((H1.out.keep B2.out).fr F3.out (fun e=>by have h1:=HHB.out;have h2:=HLB.out;omega)).keep B3.out)
    have D3:=hid ((rd_blk P2.out (W:=W3) (by rw [hW3];exact heap_setCell_other _ _ _ _ hbl)).keep B3.out)
    have E3:=hid ((rd_blk2 Q2.out A2.out (W:=W3) (by rw [hW3];exact heap_setCell_other _ _ _ _ hbl)).keep B3.out)
    have K3:=hid (show Rok R wr W3.drew from ((((Rok.of_below (Below.refl _ _)).below B1.out).below B2.out).mine F3.out (fun b hb=>by have:=HLBE.out;omega)).below B3.out)
    clear x0 x1 x2 x3 x4 x5 hW3 P2 Q2 P1 H1
    refine wp_region_K (S:=fun W=>LB W lb V 0 (some ⟨bb,oo,none⟩) (min 508 l) (min 508 l)) (fun _=>false) (by kernel_rfl) (L3.out.keep B3.out) (fun hHeld=>?_)
    refine gkp 0 ?_
    refine gkp 2 ?_
    refine gkt 3 ?_ (h:=by intro W hSw;obtain ⟨x0,x1,x2,_⟩:=hSw.cells;go_simp;first |done |with_reducible rfl)
    refine gk1 1 (fun K hK=>?_)
    go_simp
    go_at_call 14;refine (Pager_yes H3.out).mono ?_;rintro e wx ⟨rfl,hwx⟩;obtain rfl:=hwx.symm
    refine hK.out _ _ hHeld (fun hHeld=>?_)
    clear hK K
    (try simp only [Act.put,sA,sZ,sS])
    refine gk1 4 (fun K hK=>?_)
    go_simp
    go_at_call 54;refine (pageBytes_any V 0 bb oo (min 508 l) (min 508 l) _ W3.drew D3.out (by omega) hnb).mono ?_;rintro e w4 ⟨g4,rfl,hr4,hb4⟩;have R4:=hid hr4;have B4:=hid hb4;have hL4:=hHeld.keep hb4;clear hr4 hb4
    refine hK.out _ _ hL4 (fun hHeld=>?_)
    clear hK K hL4
    (try simp only [Act.put,sA,sZ,sS])
    refine gk1 5 (fun K hK=>?_)
    go_simp
    go_at_call 53;rw [HV.out];refine (prg_put_yes (N+i) g4 0 512 _ (P3.out.keep B4.out) (by rw [layT_busy];exact HBZ.out) (by rw [layT_len,HL.out];omega) (by omega) R4.out.rd (linkB_bytes _ _ (fun x hx=>HX.out x (List.mem_of_mem_drop (List.mem_of_mem_take hx))))).mono ?_;rintro e w5 ⟨rfl,hp5,hk5⟩;have P5:=hid hp5;have K5:=hid hk5;have hL5:=hHeld.rok hk5 (Or.inr rfl);clear hp5 hk5
    refine hK.out _ _ hL5 (fun hHeld=>?_)
    clear hK K hL5
    (try simp only [Act.put,sA,sZ,sS])
    refine gkp 6 ?_
    refine wpAnyK_done (by kernel_rfl) ?_ _
    clear hHeld
    go_wp2
    have HK5:=hid ((K3.out.below B4.out).then K5.out (fun b hb=>Or.inl hb))
    refine ⟨⟨i+1,l - 508,ao2,by omega,by go_num,rfl,fun hlt=>?_,hid ⟨?_,?_,?_⟩⟩,by simp [Lib.intOf];omega⟩
    ·have hE:=rd_blk2 (E3.out.keep B4.out) A2.out (W:=w5) (K5.out.at_ (Or.inl HRb.out) (Nat.lt_of_lt_of_le HBB.out (Nat.le_trans PP.out.2.2.size ((K3.out.below B4.out).size))))
     have hlm:=HLm.out
     refine ⟨by omega,?_⟩
     obtain ⟨b',o',e',_⟩:=hE.2.2.2 (by omega)
     subst e'
     obtain rfl:=A2.out _ rfl
     refine ⟨o',rfl,hid ?_⟩
     rw [show 508*(i+1)=508*i+508 by omega,←List.drop_drop]
     exact hE
    ·have hp:=P5.out.less (R':=R) (fun b hb=>Or.inl hb)
     rw [HNX.out]at hp
     exact hp
    ·exact PP.out.2.1.rok HK5.out HR.out
    ·exact PP.out.2.2.then HK5.out (fun b hb=>hb)
  ·obtain rfl:i=c:=by omega
   go_wp2
   go_ret
   exact ⟨rfl,PP.out.1,PP.out.2.2⟩
end
end Spl
end Go.Proofs.YtneemfbnjkcflaaGreatDoor
