/- A transaction in memory; what store does. No statement of the seat is proved here. -/
import Derived.Test.YtgjgkpnjchflaaaGreatDoorS26
import Derived.Test.YtgjgkpnjchflaaaGreatDoorS17
set_option maxHeartbeats 16000000
set_option maxRecDepth 20000
namespace Go.Proofs.YtgjgkpnjchflaaaGreatDoor
section
open Go.RowKit Go.Maps
open Dsk (gt hid undrew keep_old keep_cell lt_cell Rd DS FS Sec DiskP DFrame Grew From op_at idx dirtD was secD)
open Cch (CS CP Fr wpAnyK wpAnyK_take wpAnyK_pure wpAnyK_ready wpAnyK_done wp_region_K AllReadyK.cons AllReadyK.nil)
def Whole(l:List Pg):Prop:=∀ i,i<l.length→(l.getD i []).length=512∧∀ b∈l.getD i [],b<256
structure Tx (w:World) (p:Nat) (x:PC) (P:Dsk.Parts) (C:Cch.Parts) (d:DS) (s:CS) (sure:List Pg) (n:Nat) (now:List Pg) (c:List Bool) (enc:List Sec):Prop where
 core:Core w p x P C d s
 chg:Chg w (NC p x P C) x.m n now c enc
 mo:Out w (NC p x P C) x.m
 fits:Fits s sure
 pages:x.pages=sure.length
 np:x.np=now.length
 ws:Whole sure
 wn:Whole now
 bs:sure.length≤4000
 bn:now.length≤4000
 tab:Jrn.Tab w
 t0:Out w (NC p x P C) 0
 tm:x.m≠0
 sm:∀ i,i<now.length→c.getD i false=false→i<sure.length∧now.getD i []=sure.getD i []
variable {w w':World}
theorem tab_of(h:Jrn.Tab w)(hb:w'.heap[0]? = w.heap[0]?):Jrn.Tab w':=fun k hk=>(World.cell?_of_block (a:=⟨0,k,none⟩) hb).trans (h k hk)
variable {enc:List Sec} {c:List Bool} {now sure:List Pg} {n p:Nat} {s s':CS} {d d':DS} {x:PC}
theorem Tx.turn{P P':Dsk.Parts}{C C':Cch.Parts}(h:Tx w p x P C d s sure n now c enc)(hc:Core w' p x P' C' d' s')(hf:Fits s' sure)(hm:More p x P P' C C' w)(hs:w.heap.size≤w'.heap.size)(hb:∀ b,Out w (NC p x P C) b→w'.heap[b]? = w.heap[b]?):Tx w' p x P' C' d' s' sure n now c enc:=
 ⟨hc,h.chg.turn (hb _ h.mo) (fun _ ho=>hm.out hs ho) (fun _ _ _ ho hcell=>(World.cell?_of_block (hb _ ho)).trans hcell),hm.out hs h.mo,hf,h.pages,h.np,h.ws,h.wn,h.bs,h.bn,tab_of h.tab (hb _ h.t0),hm.out hs h.t0,h.tm,h.sm⟩
theorem Tx.later{P:Dsk.Parts}{C:Cch.Parts}(h:Tx w p x P C d s sure n now c enc)(hb:Below w.heap.size w w'):Tx w' p x P C d s sure n now c enc:=
 h.turn (h.core.later hb) h.fits (More.refl _ _ _ _ _) hb.size (fun b ho=>hb.block b ho.1)
theorem Tx.disk{P:Dsk.Parts}{C:Cch.Parts}(h:Tx w p x P C d s sure n now c enc)(k:DiskTo w w' x.q P d'):∃ P',Tx w' p x P' C d' s sure n now c enc∧More p x P P' C C w∧Fr (NC p x P C) w w'∧DFrame w w' x.q P.all∧Grew P w P':=by
 obtain ⟨P',hc,hm,hf,hg⟩:=h.core.disk k
 exact ⟨P',h.turn hc h.fits hm hf.size (fun b ho=>hf.blk b ho.1 (fun hd=>ho.2 (Or.inl hd))),hm,fr_imp hf (fun b hb=>Or.inl hb),k.fr,hg⟩
structure TxTo (w w':World) (p:Nat) (x:PC) (P:Dsk.Parts) (C:Cch.Parts) (d:DS) (s:CS) (sure:List Pg) (n:Nat) (now:List Pg) (c:List Bool) (enc:List Sec):Prop where
 is:∃ P' C' s',Tx w' p x P' C' d s' sure n now c enc∧More p x P P' C C' w∧s'.hit+s'.miss≤s.hit+s.miss+(pastL c x.np x.pages).length∧s'.room=s.room
 fr:Fr (NC p x P C) w w'
def undoneD(e:Int)(l:List Stp)(d:DS):Int×DS:=if (firstD l d).1=0 then (e,(firstD l d).2) else firstD l d
theorem undone_call(q:Nat)(P:Dsk.Parts)(d:DS)(e0:Int)(lo:Option Addr)(cap:Nat)(l:List Stp)(w:World)(h:DiskP w q P d)(hop:d.ops+l.length≤1000000000)(hs:StepsAt w q (DN q P) lo l) :
  Calls Tryz.prog 90 #[.int .i64 e0,.slice lo l.length cap] w fun e w'=>e=.returned (.int .i64 (undoneD e0 l d).1)∧DiskTo w w' q P (undoneD e0 l d).2:=by
 have c:=hid (first_call q P d lo cap l w h hop hs)
 unfold undoneD
 obtain ⟨R,hR⟩:∃ R,firstD l d=R:=⟨_,rfl⟩
 rw [hR]at c ⊢
 obtain ⟨r1,r2⟩:=R
 clear h hop hs hR
 by_cases hr:r1=0
 ·subst hr
  rw [if_pos rfl]
  go_enter Tryz.func90,Tryz.ntmps90
  go_wp2_with (go_at_call 83;refine c.out.mono ?_;rintro e w1 ⟨rfl,hp⟩;have HP:=hid hp;clear hp)
  go_ret
  exact ⟨rfl,HP.out⟩
 ·rw [if_neg hr]
  go_enter Tryz.func90,Tryz.ntmps90
  go_wp2_with (go_at_call 83;refine c.out.mono ?_;rintro e w1 ⟨rfl,hp⟩;have HP:=hid hp;clear hp)
  go_ret
  exact ⟨rfl,HP.out⟩
def jP(c:List Bool)(np T:Nat)(i:Nat):Int:=(((pastL c np T).getD i 0:Nat):Int)
def jD(sure:List Pg)(c:List Bool)(np T:Nat)(i:Nat):List Nat:=sure.getD ((pastL c np T).getD i 0 - 1) []
def jL(c:List Bool)(np T:Nat):Nat:=(pastL c np T).length
def storeD(d:DS)(sure now:List Pg)(c:List Bool)(np:Nat):Int×DS:=
 let r1:=firstD (recL (jL c np sure.length) sure.length d.ops (jP c np sure.length) (jD sure c np sure.length)) d
 if r1.1=0 then
  let r2:=firstD (writtenL now (chL c) np) r1.2
  if r2.1=0 then (0,r2.2) else undoneD r2.1 (replayL (sure.length:Int) (jP c np sure.length) (jD sure c np sure.length) (jL c np sure.length)) r2.2
 else undoneD r1.1 [.ct 1 0] r1.2
theorem good_from{P:Nat→Int}{D:Nat→List Nat}{pg:Int}:∀ (k i:Nat) (last:Int),(∀ j,i≤j→j<i+k→1≤P j∧P j≤pg∧P j≤4000∧(D j).length=512)→(∀ j,i≤j→j+1<i+k→P j<P (j+1))→(0<k→last<P i)→Jrn.goodFrom P D pg last i k=true
 | 0,_,_,_,_,_=>rfl
 | k+1,i,last,h1,h2,h3=>by
  obtain ⟨a1,a2,a3,a4⟩:=h1 i (Nat.le_refl _) (by omega)
  have h4:=h3 (by omega)
  have ih:=good_from k (i+1) (P i) (fun j hj hj2=>h1 j (by omega) (by omega)) (fun j hj hj2=>h2 j (by omega) (by omega)) (fun hk=>h2 i (Nat.le_refl _) (by omega))
  unfold Jrn.goodFrom
  rw [ih,(Jrn.rgood_iff (P i) (D i).length).2 ⟨⟨a1,a3⟩,a4⟩]
  simp [h4,a2]
variable {np T:Nat}
theorem pastL_rising(h:c.length≤np):(pastL c np T).Pairwise (· < ·):=by
 refine List.pairwise_append.2 ⟨(Dsk.idx_rising _).filter _,?_,fun a ha b hb=>?_⟩
 ·exact List.pairwise_map.2 (List.pairwise_lt_range.imp (fun h=>by omega))
 ·have h1:=(chL_mem (List.mem_filter.1 ha).1).2.1
  obtain ⟨k,_,rfl⟩:=List.mem_map.1 hb
  omega
variable {l:List Nat}
theorem getD_lt(h:l.Pairwise (· < ·)){i j:Nat}(hij:i<j)(hj:j<l.length):l.getD i 0<l.getD j 0:=by
 rw [List.getD,List.getD,List.getElem?_eq_getElem (by omega),List.getElem?_eq_getElem hj]
 exact List.pairwise_iff_getElem.1 h i j (by omega) hj hij
theorem getD_mem{i:Nat}(h:i<l.length):l.getD i 0∈l:=by
 rw [List.getD,List.getElem?_eq_getElem h];exact List.getElem_mem _
theorem journal_good(hw:Whole sure)(hb:sure.length≤4000)(hc:c.length≤np)(hL:jL c np sure.length≤4000):Jrn.goodL (jL c np sure.length:Int) (sure.length:Int) (jL c np sure.length) (jP c np sure.length) (jD sure c np sure.length)=true:=by
 unfold Jrn.goodL
 rw [(Jrn.hgood_iff _ _).2 (by omega),good_from (jL c np sure.length) 0 0 (fun j _ hj=>?_) (fun j _ hj=>?_) (fun hk=>?_)]
 ·simp
 ·have hm:=pastL_mem (getD_mem (l:=pastL c np sure.length) (i:=j) (by unfold jL at hj;omega))
  refine ⟨by unfold jP;omega,by unfold jP;omega,by unfold jP;omega,?_⟩
  exact (hw _ (by omega)).1
 ·have:=getD_lt (pastL_rising (T:=sure.length) hc) (i:=j) (j:=j+1) (by omega) (by unfold jL at hj;omega)
  unfold jP;omega
 ·have hm:=pastL_mem (getD_mem (l:=pastL c np sure.length) (i:=0) (by unfold jL at hk;omega))
  unfold jP;omega
variable {L:Nat} {N N':Nat→Prop}
theorem RecsO.wider{ao:Option Addr}{P:Nat→Int}{D:Nat→List Nat}(h:RecsO w N ao L P D)(hn:∀ k,N' k→N k):RecsO w N' ao L P D:=
 h.turn (fun _ hb=>⟨hb.1,fun hk=>hb.2 (hn _ hk)⟩) (fun _ _ _ _ hc=>hc)
variable {m:Nat}
theorem Chg.wider(h:Chg w N m n now c enc)(hn:∀ k,N' k→N k):Chg w N' m n now c enc:=
 h.turn rfl (fun _ hb=>⟨hb.1,fun hk=>hb.2 (hn _ hk)⟩) (fun _ _ _ _ hc=>hc)
theorem nc_dn{P:Dsk.Parts}{C:Cch.Parts}:∀ k,DN x.q P k→NC p x P C k:=fun _ h=>Or.inl h
abbrev S9(p hd q L T m:Nat)(W:World):Prop:=W.cell? ⟨p,2,none⟩=some (.pointer (some ⟨q,0,none⟩))∧W.cell? ⟨hd,0,none⟩=some (.int .i64 (L:Int))∧W.cell? ⟨hd,1,none⟩=some (.int .i64 (T:Int))∧W.cell? ⟨hd,2,none⟩=some (.int .u64 (m:Int))
variable {W:World}
theorem S9.mk{hd:Nat}(h:PgAt W p x)(k:Jrn.HB 140 W hd L T m):S9 p hd x.q L T m W:=⟨h.cells.2.2.1,k.cells.1,k.cells.2.1,k.cells.2.2.1⟩
structure Stg (w W:World) (p:Nat) (x:PC) (P:Dsk.Parts) (C:Cch.Parts) (P':Dsk.Parts) (C':Cch.Parts) (d:DS) (s s':CS) (sure:List Pg) (n:Nat) (now:List Pg) (c:List Bool) (enc:List Sec) (lo:Option Addr) (L:Nat) (JP:Nat→Int) (JD:Nat→List Nat):Prop where
 tx:Tx W p x P' C' d s' sure n now c enc
 rc:RecsO W (DN x.q P') lo L JP JD
 mr:More p x P P' C C' w
 fr:Fr (NC p x P C) w W
 cn:s'.hit+s'.miss≤s.hit+s.miss+(pastL c x.np x.pages).length
 rm:s'.room=s.room
variable {lo:Option Addr} {W':World}
theorem Stg.later{P P':Dsk.Parts}{C C':Cch.Parts}{JP:Nat→Int}{JD:Nat→List Nat}(h:Stg w W p x P C P' C' d s s' sure n now c enc lo L JP JD)(hb:Below W.heap.size W W'):Stg w W' p x P C P' C' d s s' sure n now c enc lo L JP JD:=
 ⟨h.tx.later hb,h.rc.later hb,h.mr,fr_trans h.fr (fr_below (S:=NC p x P C) hb) (fun _ h=>Or.inl h),h.cn,h.rm⟩
theorem Stg.disk{P P':Dsk.Parts}{C C':Cch.Parts}{JP:Nat→Int}{JD:Nat→List Nat}(h:Stg w W p x P C P' C' d s s' sure n now c enc lo L JP JD)(k:DiskTo W W' x.q P' d'):∃ P2,Stg w W' p x P C P2 C' d' s s' sure n now c enc lo L JP JD∧DFrame W W' x.q P'.all∧Grew P' W P2:=by
 obtain ⟨P2,ht,hm,hf,hdf,hg⟩:=h.tx.disk k
 exact ⟨P2,⟨ht,h.rc.disk hdf hg,h.mr.trans hm h.fr.size,fr_trans h.fr hf (fun b hb=>h.mr b hb),h.cn,h.rm⟩,hdf,hg⟩
theorem Stg.done{P P':Dsk.Parts}{C C':Cch.Parts}{JP:Nat→Int}{JD:Nat→List Nat}(h:Stg w W p x P C P' C' d s s' sure n now c enc lo L JP JD):TxTo w W p x P C d s sure n now c enc:=
 ⟨⟨P',C',s',h.tx,h.mr,h.cn,h.rm⟩,h.fr⟩
theorem store_call(p:Nat)(x:PC)(P:Dsk.Parts)(C:Cch.Parts)(d:DS)(s:CS)(sure:List Pg)(n:Nat)(now:List Pg)(c:List Bool)(enc:List Sec)(w:World)(h:Tx w p x P C d s sure n now c enc)
  (hf:d.f0.now=secsOf sure) (ho:d.off=false∨pastL c now.length sure.length = []) (hh:s.hit+s.miss≤800000) (hL:jL c now.length sure.length≤150) (hop:d.ops≤900000000) :
  Calls Tryz.prog 52 #[.pointer (some ⟨p,0,none⟩)] w fun e w'=>e=.returned (.int .i64 (storeD d sure now c now.length).1)∧TxTo w w' p x P C (storeD d sure now c now.length).2 s sure n now c enc:=by
 have hxn:=h.np;have hxp:=h.pages;have hcl:=h.chg.len
 have hbn:=h.bn;have hbs:=h.bs
 have cp:=hid (past_call p x P C d s sure n now c enc w h.core h.chg h.fits hf (fun j hj=>(h.ws j hj).1) (by rw [hxn,hxp];exact ho) hxp (by rw [hxn,hcl]) hbs (by omega) hh)
 rw [hxn,hxp]at cp
 have HGD:=hid (journal_good (sure:=sure) (c:=c) (np:=now.length) h.ws hbs (by omega) (by omega))
 obtain ⟨LS,hLS⟩:∃ LS,jL c now.length sure.length=LS:=⟨_,rfl⟩
 obtain ⟨JP,hJP⟩:∃ JP,jP c now.length sure.length=JP:=⟨_,rfl⟩
 obtain ⟨JD,hJD⟩:∃ JD,jD sure c now.length sure.length=JD:=⟨_,rfl⟩
 obtain ⟨T,hT⟩:∃ T,sure.length=T:=⟨_,rfl⟩
 have HPB:Hid (∀ i,i<LS→-1000000≤JP i∧JP i≤1000000):=hid (fun i hi=>by
  have hm:=pastL_mem (getD_mem (l:=pastL c now.length sure.length) (i:=i) (by unfold jL at hLS;omega))
  rw [←hJP];unfold jP;omega)
 have HDB:Hid (∀ i,i<LS→∀ b∈JD i,b<256):=hid (fun i hi=>by
  have hm:=pastL_mem (getD_mem (l:=pastL c now.length sure.length) (i:=i) (by unfold jL at hLS;omega))
  rw [←hJD];exact (h.ws _ (by omega)).2)
 have hsd:storeD d sure now c now.length=(let r1:=firstD (recL LS T d.ops JP JD) d
   if r1.1=0 then
    let r2:=firstD (writtenL now (chL c) now.length) r1.2
    if r2.1=0 then (0,r2.2) else undoneD r2.1 (replayL (T:Int) JP JD LS) r2.2
   else undoneD r1.1 [.ct 1 0] r1.2):=by rw [←hLS,←hJP,←hJD,←hT];rfl
 rw [hLS,hJP,hJD]at HGD
 rw [hT]at HGD hbs
 rw [hLS]at hL
 have cp2:Hid (Calls Tryz.prog 88 #[.pointer (some ⟨p,0,none⟩)] w fun e w'=>∃ lo cap,e=.returned (.tuple #[.agg #[.int .i64 (LS:Int),.int .i64 (T:Int),.int .u64 (d.ops:Int)],.slice lo LS cap,.int .i64 0]) ∧
   ∃ C' s',RecsO w' (NC p x P C') lo LS JP JD∧Tx w' p x P C' d s' sure n now c enc∧More p x P P C C' w∧s'.hit+s'.miss≤s.hit+s.miss+(pastL c x.np x.pages).length∧s'.room=s.room∧Fr (NC p x P C) w w'):=hid (cp.out.mono (by
  rintro e w' ⟨lo,cap,rfl,⟨C',s',hr,hc,hft,hm,hcn,hrm⟩,hfr⟩
  refine ⟨lo,cap,?_,C',s',?_,h.turn hc hft hm hfr.size (fun b ho=>hfr.blk b ho.1 (fun hS=>ho.2 (Or.inr (Or.inl hS)))),hm,by rw [hxn,hxp];exact hcn,hrm,fr_imp hfr (fun b hb=>Or.inr (Or.inl hb))⟩
  ·rw [←hLS,←hT];rfl
  ·rw [←hLS,←hJP,←hJD];exact hr))
 have HH:=hid h;have HSD:=hid hsd;have HOP:=hid hop
 have HNL:=hid hxn
 clear cp hf ho hh hLS hJP hJD hsd h hxn hxp hop hT
 have HSG:Hid (∀ W lo C' s',RecsO W (NC p x P C') lo LS JP JD→Tx W p x P C' d s' sure n now c enc→More p x P P C C' w→s'.hit+s'.miss≤s.hit+s.miss+(pastL c x.np x.pages).length→s'.room=s.room→Fr (NC p x P C) w W→Stg w W p x P C P C' d s s' sure n now c enc lo LS JP JD):=
  hid (fun W lo C' s' h1 h2 h3 h4 h5 h6=>⟨h2,h1.wider nc_dn,h3,h6,h4,h5⟩)
 obtain ⟨e1,d1,hR1⟩:∃ e1 d1,firstD (recL LS T d.ops JP JD) d=(e1,d1):=⟨_,_,rfl⟩
 have hd1:d1.ops≤900000004:=by
  have:=firstD_ops (recL LS T d.ops JP JD) d
  rw [hR1]at this
  have:=HOP.out
  simp [recL]at *;omega
 have hsd1:=HSD.out
 rw [hR1]at hsd1
 have HR1:=hid hR1
 clear HSD hR1
 by_cases he1:e1=0
 ·subst he1
  obtain ⟨e2,d2,hR2⟩:∃ e2 d2,firstD (writtenL now (chL c) now.length) d1=(e2,d2):=⟨_,_,rfl⟩
  simp only [if_pos]at hsd1
  rw [hR2]at hsd1
  have hwl:(writtenL now (chL c) now.length).length≤4010:=by
   have:=chL_length c
   unfold writtenL
   rw [List.length_append,wrL_length _ _ (Nat.le_refl _)]
   simp;omega
  have hd2:d2.ops≤900004014:=by
   have:=firstD_ops (writtenL now (chL c) now.length) d1
   rw [hR2]at this
   simp at *;omega
  have HR2:=hid hR2
  clear hR2
  by_cases he2:e2=0
  ·subst he2
   simp only [if_pos]at hsd1
   rw [hsd1]
   clear hsd1
   have t0:Hid True:=hid trivial
   have t1:Hid True:=hid trivial
   go_enter Tryz.func52,Tryz.ntmps52
   go_upto_region 4 with (go_at_call 88;refine cp2.out.mono ?_;rintro e w1 ⟨lo,cap,rfl,C1,s1,hr1,ht1,hm1,hcn1,hrm1,hf1⟩;have G1:=hid (HSG.out w1 lo C1 s1 hr1 ht1 hm1 hcn1 hrm1 hf1);clear hr1 ht1 hm1 hcn1 hrm1 hf1)
   obtain ⟨W2,hW2⟩:∃ W2,W2=w1.alloc (.cells #[.int .i64 (LS:Int),.int .i64 (T:Int),.int .u64 (d.ops:Int)] 140):=⟨_,rfl⟩
   have hb2:Below w1.heap.size w1 W2:=by rw [hW2];exact Below.alloc (Below.refl _ _) (Nat.le_refl _) _
   obtain ⟨hd,hhd⟩:∃ hd,hd=w1.heap.size:=⟨_,rfl⟩
   have Z2:Hid (Jrn.HB 140 W2 hd LS T d.ops):=hid (by rw [hW2,hhd];exact Jrn.HB.new 140 w1 LS T d.ops)
   have G2:=hid (G1.out.later hb2)
   have HHD:Hid (∀ k,DN x.q P k→k<hd):=hid (fun k hk=>by rw [hhd];exact DN.lt G1.out.tx.core.dk hk)
   rw [←hW2,←hhd]
   clear hW2 hhd hb2 G1
   obtain ⟨z0,z1,z2,_,_,_⟩:=Z2.out.cells
   have cr:=hid (recorded_make p x LS T d.ops lo cap JP JD (DN x.q P) W2 G2.out.tx.core.hd (fun k hk=>DN.lt G2.out.tx.core.dk hk) G2.out.rc.recs HDB.out HGD.out G2.out.tx.tab (by omega) (by omega))
   go_wp2_with (first |(go_at_call 89;refine cr.out.mono ?_;rintro e w3 ⟨ao3,rfl,st3,hb3⟩;have G3:=hid (G2.out.later hb3);have Z3:=hid (Z2.out.keep hb3);have ST3:=hid st3;clear st3 hb3 z0 z1 z2 t0) |(go_at_call 83;clear t1;refine (show Calls Tryz.prog 83 #[.slice ao3 4 4] w3 _ from first_call x.q P d ao3 4 (recL LS T d.ops JP JD) w3 G3.out.tx.core.dk (by have:=HOP.out;simp [recL];omega) ST3.out).mono ?_;rw [HR1.out];rintro e w4 ⟨rfl,hto⟩;obtain ⟨P4,g4,df4,gr4⟩:=G3.out.disk hto;have G4:=hid g4;have Z4:Hid (Jrn.HB 140 w4 hd LS T d.ops):=hid ((df4.block hd Z3.out.lt (fun e=>(by have h1:=HHD.out _ (Or.inl rfl);omega)) (fun e=>(by have h1:=HHD.out _ (Or.inr e);omega))).trans Z3.out);have HO4:Hid (¬DN x.q P4 hd):=hid (fun hk=>(by rcases hk with hk |hk;(have h1:=HHD.out _ (Or.inl rfl);omega);(rcases gr4 hd hk with h2 |h2;(have h1:=HHD.out _ (Or.inr h2);omega);(have:=Z3.out.lt;omega))));obtain ⟨a0,a1,a2,a3,a4,a5,a6,a7,a8,a9,a10,a11⟩:=G4.out.tx.core.hd.cells;clear g4 df4 gr4 hto) |(go_at_call 91;refine (written_make p x (DN x.q P4) n now c enc w4 G4.out.tx.core.hd (fun k hk=>DN.lt G4.out.tx.core.dk hk) (G4.out.tx.chg.wider nc_dn) (by omega) (fun i hi=>(G4.out.tx.wn i hi).1) (by have h1:=HNL.out;omega)).mono ?_;rw [HNL.out];rintro e w5 ⟨ao5,cp5,rfl,st5,hb5⟩;have G5:=hid (G4.out.later hb5);have Z5:=hid (Z4.out.keep hb5);have ST5:=hid st5;clear st5 hb5 a0 a1 a2 a3 a4 a5 a6 a7 a8 a9 a10 a11) |(go_at_call 83;refine (first_call x.q P4 d1 ao5 cp5 (writtenL now (chL c) now.length) w5 G5.out.tx.core.dk (by omega) ST5.out).mono ?_;rw [HR2.out];rintro e w6 ⟨rfl,hto⟩;obtain ⟨P6,g6,df6,gr6⟩:=G5.out.disk hto;have G6:=hid g6;have D6:=hid df6;have GR6:=hid gr6;clear g6 df6 gr6 hto))
   go_ret
   exact ⟨rfl,G6.out.done⟩
  ·have hsd2:storeD d sure now c now.length=undoneD e2 (replayL (T:Int) JP JD LS) d2:=by rw [hsd1];exact if_neg he2
   rw [hsd2]
   clear hsd1 hsd2
   have t0:Hid True:=hid trivial
   have t1:Hid True:=hid trivial
   go_enter Tryz.func52,Tryz.ntmps52
   go_upto_region 4 with (go_at_call 88;refine cp2.out.mono ?_;rintro e w1 ⟨lo,cap,rfl,C1,s1,hr1,ht1,hm1,hcn1,hrm1,hf1⟩;have G1:=hid (HSG.out w1 lo C1 s1 hr1 ht1 hm1 hcn1 hrm1 hf1);clear hr1 ht1 hm1 hcn1 hrm1 hf1)
   obtain ⟨W2,hW2⟩:∃ W2,W2=w1.alloc (.cells #[.int .i64 (LS:Int),.int .i64 (T:Int),.int .u64 (d.ops:Int)] 140):=⟨_,rfl⟩
   have hb2:Below w1.heap.size w1 W2:=by rw [hW2];exact Below.alloc (Below.refl _ _) (Nat.le_refl _) _
   obtain ⟨hd,hhd⟩:∃ hd,hd=w1.heap.size:=⟨_,rfl⟩
   have Z2:Hid (Jrn.HB 140 W2 hd LS T d.ops):=hid (by rw [hW2,hhd];exact Jrn.HB.new 140 w1 LS T d.ops)
   have G2:=hid (G1.out.later hb2)
   have HHD:Hid (∀ k,DN x.q P k→k<hd):=hid (fun k hk=>by rw [hhd];exact DN.lt G1.out.tx.core.dk hk)
   rw [←hW2,←hhd]
   clear hW2 hhd hb2 G1
   obtain ⟨z0,z1,z2,_,_,_⟩:=Z2.out.cells
   have cr:=hid (recorded_make p x LS T d.ops lo cap JP JD (DN x.q P) W2 G2.out.tx.core.hd (fun k hk=>DN.lt G2.out.tx.core.dk hk) G2.out.rc.recs HDB.out HGD.out G2.out.tx.tab (by omega) (by omega))
   go_upto_region 9 with (first |(go_at_call 89;refine cr.out.mono ?_;rintro e w3 ⟨ao3,rfl,st3,hb3⟩;have G3:=hid (G2.out.later hb3);have Z3:=hid (Z2.out.keep hb3);have ST3:=hid st3;clear st3 hb3 z0 z1 z2 t0) |(go_at_call 83;clear t1;refine (show Calls Tryz.prog 83 #[.slice ao3 4 4] w3 _ from first_call x.q P d ao3 4 (recL LS T d.ops JP JD) w3 G3.out.tx.core.dk (by have:=HOP.out;simp [recL];omega) ST3.out).mono ?_;rw [HR1.out];rintro e w4 ⟨rfl,hto⟩;obtain ⟨P4,g4,df4,gr4⟩:=G3.out.disk hto;have G4:=hid g4;have Z4:Hid (Jrn.HB 140 w4 hd LS T d.ops):=hid ((df4.block hd Z3.out.lt (fun e=>(by have h1:=HHD.out _ (Or.inl rfl);omega)) (fun e=>(by have h1:=HHD.out _ (Or.inr e);omega))).trans Z3.out);have HO4:Hid (¬DN x.q P4 hd):=hid (fun hk=>(by rcases hk with hk |hk;(have h1:=HHD.out _ (Or.inl rfl);omega);(rcases gr4 hd hk with h2 |h2;(have h1:=HHD.out _ (Or.inr h2);omega);(have:=Z3.out.lt;omega))));obtain ⟨a0,a1,a2,a3,a4,a5,a6,a7,a8,a9,a10,a11⟩:=G4.out.tx.core.hd.cells;clear g4 df4 gr4 hto) |(go_at_call 91;refine (written_make p x (DN x.q P4) n now c enc w4 G4.out.tx.core.hd (fun k hk=>DN.lt G4.out.tx.core.dk hk) (G4.out.tx.chg.wider nc_dn) (by omega) (fun i hi=>(G4.out.tx.wn i hi).1) (by have h1:=HNL.out;omega)).mono ?_;rw [HNL.out];rintro e w5 ⟨ao5,cp5,rfl,st5,hb5⟩;have G5:=hid (G4.out.later hb5);have Z5:=hid (Z4.out.keep hb5);have ST5:=hid st5;clear st5 hb5 a0 a1 a2 a3 a4 a5 a6 a7 a8 a9 a10 a11) |(go_at_call 83;refine (first_call x.q P4 d1 ao5 cp5 (writtenL now (chL c) now.length) w5 G5.out.tx.core.dk (by omega) ST5.out).mono ?_;rw [HR2.out];rintro e w6 ⟨rfl,hto⟩;obtain ⟨P6,g6,df6,gr6⟩:=G5.out.disk hto;have G6:=hid g6;have D6:=hid df6;have GR6:=hid gr6;clear g6 df6 gr6 hto))
   have HO6:Hid (¬DN x.q P6 hd):=hid (fun hk=>by
    have h1:=HO4.out
    rcases hk with hk |hk
    ·exact h1 (Or.inl hk)
    ·rcases GR6.out hd hk with h2 |h2
     ·exact h1 (Or.inr h2)
     ·have:=Z5.out.lt;omega)
   have Z6:Hid (Jrn.HB 140 w6.drew hd LS T d.ops):=hid (Jrn.HB.keep (show Jrn.HB 140 w6 hd LS T d.ops from (D6.out.block hd Z5.out.lt (fun e=>HO4.out (Or.inl e)) (fun e=>HO4.out (Or.inr e))).trans Z5.out) (Below.refl _ _).drew)
   replace G6:=hid (G6.out.later (Below.refl _ _).drew)
   refine wp_region_K (S:=S9 p hd x.q LS T d.ops) (fun _=>false) (by kernel_rfl) (S9.mk G6.out.tx.core.hd Z6.out) (fun hHeld=>?_)
   refine gkp 0 ?_
   refine gkp 1 ?_
   refine gkp 2 ?_
   refine gkp 3 ?_
   refine gkt 4 ?_ (h:=by intro W hSw;obtain ⟨a2,z0,z1,z2⟩:=hSw;go_simp;first |done |with_reducible rfl)
   refine gkt 5 ?_ (h:=by intro W hSw;obtain ⟨a2,z0,z1,z2⟩:=hSw;go_simp;first |done |with_reducible rfl)
   refine gkp 6 ?_
   refine gk1 7 (fun K hK=>?_)
   go_simp
   go_at_call 82;refine (replay_make x.q (LS:Int) (T:Int) d.ops lo LS cap JP JD (DN x.q P6) w6.drew (fun k hk=>DN.lt G6.out.tx.core.dk hk) G6.out.rc (by omega) HPB.out (by omega)).mono ?_;rintro e w7 ⟨ao7,cp7,rfl,st7,hb7⟩;replace G6:=hid (G6.out.later hb7);replace Z6:=hid (Z6.out.keep hb7);have hR:S9 p hd x.q LS T d.ops w7:=S9.mk G6.out.tx.core.hd Z6.out;have ST7:=hid st7;clear st7 hb7
   refine hK.out _ _ hR (fun hHeld=>?_)
   clear hK K
   (try simp only [Act.put,sA,sZ,sS])
   clear hR
   refine gk1 8 (fun K hK=>?_)
   go_simp
   go_at_call 90;refine (undone_call x.q P6 d2 e2 ao7 cp7 (replayL (T:Int) JP JD LS) w7 G6.out.tx.core.dk (by simp [replayL,backL_length];omega) ST7.out).mono ?_;rintro e w8 ⟨rfl,hto⟩;obtain ⟨P8,g8,df8,gr8⟩:=G6.out.disk hto;have G8:=hid g8;have Z8:Jrn.HB 140 w8 hd LS T d.ops:=((df8.block hd Z6.out.lt (fun e=>HO6.out (Or.inl e)) (fun e=>HO6.out (Or.inr e))).trans Z6.out);have hR:S9 p hd x.q LS T d.ops w8:=S9.mk G8.out.tx.core.hd Z8;clear g8 hto df8 gr8 Z8
   refine hK.out _ _ hR (fun hHeld=>?_)
   clear hK K
   (try simp only [Act.put,sA,sZ,sS])
   clear hR
   refine gkp 9 ?_
   refine wpAnyK_done (by kernel_rfl) ?_ _
   go_wp2
   go_ret
   exact ⟨rfl,G8.out.done⟩
 ·have hsd2:storeD d sure now c now.length=undoneD e1 [.ct 1 0] d1:=by rw [hsd1];exact if_neg he1
  rw [hsd2]
  clear hsd1 hsd2
  have t0:Hid True:=hid trivial
  have t1:Hid True:=hid trivial
  go_enter Tryz.func52,Tryz.ntmps52
  go_upto_region 4 with (go_at_call 88;refine cp2.out.mono ?_;rintro e w1 ⟨lo,cap,rfl,C1,s1,hr1,ht1,hm1,hcn1,hrm1,hf1⟩;have G1:=hid (HSG.out w1 lo C1 s1 hr1 ht1 hm1 hcn1 hrm1 hf1);clear hr1 ht1 hm1 hcn1 hrm1 hf1)
  obtain ⟨W2,hW2⟩:∃ W2,W2=w1.alloc (.cells #[.int .i64 (LS:Int),.int .i64 (T:Int),.int .u64 (d.ops:Int)] 140):=⟨_,rfl⟩
  have hb2:Below w1.heap.size w1 W2:=by rw [hW2];exact Below.alloc (Below.refl _ _) (Nat.le_refl _) _
  obtain ⟨hd,hhd⟩:∃ hd,hd=w1.heap.size:=⟨_,rfl⟩
  have Z2:Hid (Jrn.HB 140 W2 hd LS T d.ops):=hid (by rw [hW2,hhd];exact Jrn.HB.new 140 w1 LS T d.ops)
  have G2:=hid (G1.out.later hb2)
  have HHD:Hid (∀ k,DN x.q P k→k<hd):=hid (fun k hk=>by rw [hhd];exact DN.lt G1.out.tx.core.dk hk)
  rw [←hW2,←hhd]
  clear hW2 hhd hb2 G1
  obtain ⟨z0,z1,z2,_,_,_⟩:=Z2.out.cells
  have cr:=hid (recorded_make p x LS T d.ops lo cap JP JD (DN x.q P) W2 G2.out.tx.core.hd (fun k hk=>DN.lt G2.out.tx.core.dk hk) G2.out.rc.recs HDB.out HGD.out G2.out.tx.tab (by omega) (by omega))
  go_wp2_with (first |(go_at_call 89;refine cr.out.mono ?_;rintro e w3 ⟨ao3,rfl,st3,hb3⟩;have G3:=hid (G2.out.later hb3);have Z3:=hid (Z2.out.keep hb3);have ST3:=hid st3;clear st3 hb3 z0 z1 z2 t0) |(go_at_call 83;clear t1;refine (show Calls Tryz.prog 83 #[.slice ao3 4 4] w3 _ from first_call x.q P d ao3 4 (recL LS T d.ops JP JD) w3 G3.out.tx.core.dk (by have:=HOP.out;simp [recL];omega) ST3.out).mono ?_;rw [HR1.out];rintro e w4 ⟨rfl,hto⟩;obtain ⟨P4,g4,df4,gr4⟩:=G3.out.disk hto;have G4:=hid g4;have Z4:Hid (Jrn.HB 140 w4 hd LS T d.ops):=hid ((df4.block hd Z3.out.lt (fun e=>(by have h1:=HHD.out _ (Or.inl rfl);omega)) (fun e=>(by have h1:=HHD.out _ (Or.inr e);omega))).trans Z3.out);have HO4:Hid (¬DN x.q P4 hd):=hid (fun hk=>(by rcases hk with hk |hk;(have h1:=HHD.out _ (Or.inl rfl);omega);(rcases gr4 hd hk with h2 |h2;(have h1:=HHD.out _ (Or.inr h2);omega);(have:=Z3.out.lt;omega))));obtain ⟨a0,a1,a2,a3,a4,a5,a6,a7,a8,a9,a10,a11⟩:=G4.out.tx.core.hd.cells;clear g4 df4 gr4 hto) |(go_at_call 78;refine (cut_make x.q 1 0 (DN x.q P4) w4 (fun k hk=>DN.lt G4.out.tx.core.dk hk)).mono ?_;rintro e w5 ⟨x5,rfl,s5,hb5⟩;obtain ⟨n5,cs5,rfl⟩:=step_func s5;have hb6:Below w5.heap.size w5 (w5.alloc (.cells #[.func (.func n5) #[] cs5] 133)):=Below.alloc (Below.refl _ _) (Nat.le_refl _) _;have S5:=hid (s5.later hb6);have G6:=hid ((G4.out.later hb5).later hb6);have HL5:Hid (w4.heap.size≤w5.heap.size):=hid hb5.size;clear s5 hb5 hb6 a0 a1 a2 a3 a4 a5 a6 a7 a8 a9 a10 a11) |(go_at_call 90;refine (show Calls Tryz.prog 90 #[.int .i64 e1,.slice (some ⟨w5.heap.size,0,none⟩) 1 1] (w5.alloc (.cells #[.func (.func n5) #[] cs5] 133)) _ from undone_call x.q P4 d1 e1 (some ⟨w5.heap.size,0,none⟩) 1 [.ct 1 0] _ G6.out.tx.core.dk (by simp;omega) (steps_lit (us:=[.func (.func n5) #[] cs5]) 133 (fun k hk=>DN.lt G4.out.tx.core.dk hk) HL5.out (fun j s hs=>by match j with |0=>simp at hs;subst hs;exact ⟨_,rfl,S5.out⟩ |j+1=>simp at hs))).mono ?_;rintro e w7 ⟨rfl,hto⟩;obtain ⟨P7,g7,_,_⟩:=G6.out.disk hto;have G7:=hid g7;clear g7 hto))
  go_ret
  exact ⟨rfl,G7.out.done⟩
end
section
open Go.RowKit Go.Maps
open Dsk (gt hid undrew keep_old keep_cell lt_cell Rd DS FS Sec DiskP DFrame Grew From op_at idx dirtD was secD)
open Cch (CS CP Fr wpAnyK wpAnyK_take wpAnyK_pure wpAnyK_ready wpAnyK_done wp_region_K AllReadyK.cons AllReadyK.nil)
theorem told_any(m:Bool)(f:Int)(w:World):Calls Tryz.prog 62 #[.agg #[.bool m,.int .i64 f]] w fun e w'=>e=.returned (.int .i64 (if m then f else 1))∧Below w.heap.size w w':=by
 cases m
 ·go_enter Tryz.func62,Tryz.ntmps62
  go_wp2
  go_ret
  exact ⟨rfl,Below.alloc (Below.refl _ _) (Nat.le_refl _) _⟩
 ·go_enter Tryz.func62,Tryz.ntmps62
  go_wp2
  go_ret
  exact ⟨rfl,Below.alloc (Below.refl _ _) (Nat.le_refl _) _⟩
def Fate(w:World)(p:Nat)(m:Bool)(f:Int):Prop:=w.cell? ⟨p,0,none⟩=some (.bool m)∧w.cell? ⟨p,1,none⟩=some (.int .i64 f)
variable {x:PC} {p:Nat} {w:World}
theorem PgAt.fate(h:PgAt w p x):Fate w p true 0:=⟨h.cells.1,h.cells.2.1⟩
theorem fault_any(p:Nat)(m:Bool)(f:Int)(w:World)(h:Fate w p m f):Calls Tryz.prog 30 #[.pointer (some ⟨p,0,none⟩)] w fun e w'=>e=.returned (.int .i64 (if m then f else 1))∧Below w.heap.size w w':=by
 obtain ⟨h0,h1⟩:=h
 have c:=hid (told_any m f w)
 obtain ⟨r,hr⟩:∃ r,(if m then f else 1)=r:=⟨_,rfl⟩
 rw [hr]at c ⊢
 clear hr
 go_enter Tryz.func30,Tryz.ntmps30
 go_wp2_with (go_at_call 62;refine c.out.mono ?_;rintro e w1 ⟨rfl,hb⟩;have HB:=hid hb;clear hb)
 go_ret
 exact ⟨rfl,HB.out⟩
theorem within_live(p:Nat)(x:PC)(w:World)(h:PgAt w p x):Calls Tryz.prog 50 #[.pointer (some ⟨p,0,none⟩)] w fun e w'=>e=.returned (.int .i64 (if x.busy then 0 else 6))∧Below w.heap.size w w':=by
 have c:=hid (fault_any p true 0 w h.fate)
 have H:=hid h
 clear h
 obtain ⟨b,hb⟩:∃ b,x.busy=b:=⟨_,rfl⟩
 cases b
 ·rw [hb]
  have HBB:=hid hb
  clear hb
  go_enter Tryz.func50,Tryz.ntmps50
  go_wp2_with (go_at_call 30;refine c.out.mono ?_;rintro e w1 ⟨rfl,hb1⟩;have HB:=hid hb1;obtain ⟨a0,a1,a2,a3,a4,a5,a6,a7,a8,a9,a10,a11⟩:=(H.out.later hb1).cells;rw [HBB.out]at a5;clear hb1)
  go_ret
  exact ⟨rfl,HB.out⟩
 ·rw [hb]
  have HBB:=hid hb
  clear hb
  go_enter Tryz.func50,Tryz.ntmps50
  go_wp2_with (go_at_call 30;refine c.out.mono ?_;rintro e w1 ⟨rfl,hb1⟩;have HB:=hid hb1;obtain ⟨a0,a1,a2,a3,a4,a5,a6,a7,a8,a9,a10,a11⟩:=(H.out.later hb1).cells;rw [HBB.out]at a5;clear hb1)
  go_ret
  exact ⟨rfl,HB.out⟩
def PC.ended(x:PC)(m:Nat):PC:={ x with busy:=false,np:=x.pages,m:=m,mo:=none,ml:=0,mc:=0,last:=0 }
theorem end_raw(p:Nat)(x:PC)(w:World)(h:PgAt w p x):Calls Tryz.prog 44 #[.pointer (some ⟨p,0,none⟩)] w fun e w'=>e=.returned (.tuple #[])∧w'=(((((w.setCell ⟨p,5,none⟩ (.bool false)).setCell ⟨p,6,none⟩ (.int .i64 (x.pages:Int))).setCell ⟨p,7,none⟩ (.map (some w.heap.size))).setCell ⟨p,8,none⟩ (.slice none 0 0)).setCell ⟨p,9,none⟩ (.int .i64 0)).alloc (.map #[] 0):=by
 obtain ⟨a0,a1,a2,a3,a4,a5,a6,a7,a8,a9,a10,a11⟩:=h.cells
 have f5:=h.frozen 5;have f6:=h.frozen 6;have f7:=h.frozen 7;have f8:=h.frozen 8;have f9:=h.frozen 9
 have hp:=h.lt
 have hne:¬p=w.heap.size:=by omega
 have mk:=fun W=>run_makeMap (P:=Tryz.prog) 70 W
 clear h
 go_enter Tryz.func44,Tryz.ntmps44
 go_wp2
 go_end0
 exact ⟨rfl,rfl⟩
theorem idx_none(n:Nat):idx (false::List.replicate n false) = []:=by
 apply List.eq_nil_iff_forall_not_mem.2
 intro i hi
 have:=Dsk.mem_idx.1 hi
 cases i with
 | zero=>simp at this
 | succ i=>
  simp only [List.getD_cons_succ]at this
  rw [List.getD,List.getElem?_replicate]at this
  split at this<;>simp at this
theorem dirt_none(n:Nat)(enc:List Sec):dirtD (false::List.replicate n false) enc=.map []:=by rw [dirtD,idx_none];rfl
variable {W:World}
theorem set_frame{i:Nat}{v:Value}(h:Fr (fun b=>b=p) w W):Fr (fun b=>b=p) w (W.setCell ⟨p,i,none⟩ v):=
 ⟨h.os,h.tape,h.output,by simpa using h.size,fun b hb hn=>by rw [heap_setCell_other _ _ _ _ hn];exact h.blk b hb hn⟩
theorem alloc_frame{o:Obj}(h:Fr (fun b=>b=p) w W):Fr (fun b=>b=p) w (W.alloc o):=
 ⟨h.os,h.tape,h.output,by simp;have:=h.size;omega,fun b hb hn=>by rw [hao _ _ _ (Nat.lt_of_lt_of_le hb h.size)];exact h.blk b hb hn⟩
theorem tx_fresh{w':World}{P:Dsk.Parts}{C:Cch.Parts}{d:DS}{s:CS}{sure:List Pg}(h:Core w p x P C d s)(hf:Fits s sure)(hp:x.pages=sure.length)(ws:Whole sure)(bs:sure.length≤4000)(tab:Jrn.Tab w)(t0:Out w (NC p x P C) 0)
  (hw:w'=(((((w.setCell ⟨p,5,none⟩ (.bool false)).setCell ⟨p,6,none⟩ (.int .i64 (x.pages:Int))).setCell ⟨p,7,none⟩ (.map (some w.heap.size))).setCell ⟨p,8,none⟩ (.slice none 0 0)).setCell ⟨p,9,none⟩ (.int .i64 0)).alloc (.map #[] 0)) :
  Tx w' p (x.ended w.heap.size) P C d s sure 0 sure (List.replicate sure.length false) (List.replicate (sure.length+1) [])∧Fr (fun b=>b=p) w w':=by
 have hpl:=h.hd.lt
 obtain ⟨W,hW⟩:∃ W,W=((((w.setCell ⟨p,5,none⟩ (.bool false)).setCell ⟨p,6,none⟩ (.int .i64 (x.pages:Int))).setCell ⟨p,7,none⟩ (.map (some w.heap.size))).setCell ⟨p,8,none⟩ (.slice none 0 0)).setCell ⟨p,9,none⟩ (.int .i64 0):=⟨_,rfl⟩
 have hWs:W.heap.size=w.heap.size:=by rw [hW];simp
 have hWo:∀ b,b≠p→W.heap[b]? = w.heap[b]?:=fun b hb=>by
  rw [hW,heap_setCell_other _ _ _ _ hb,heap_setCell_other _ _ _ _ hb,heap_setCell_other _ _ _ _ hb,heap_setCell_other _ _ _ _ hb,heap_setCell_other _ _ _ _ hb]
 rw [←hW]at hw
 have hs':w'.heap.size=w.heap.size+1:=by rw [hw];simp [hWs]
 have ho:∀ b,b<w.heap.size→b≠p→w'.heap[b]? = w.heap[b]?:=fun b hb hbp=>by
  rw [hw,hao _ _ _ (by rw [hWs];exact hb)];exact hWo b hbp
 have hPg:PgAt w' p (x.ended w.heap.size):=by
  have h1:=Cch.blk_set (Cch.blk_set (Cch.blk_set (Cch.blk_set (Cch.blk_set h.hd (i:=5) (v:=.bool false)) (i:=6) (v:=.int .i64 (x.pages:Int))) (i:=7) (v:=.map (some w.heap.size))) (i:=8) (v:=.slice none 0 0)) (i:=9) (v:=.int .i64 0)
  rw [←hW]at h1
  unfold PgAt
  rw [hw,hao _ _ _ (by rw [hWs];exact hpl),h1]
  rfl
 have hmap:w'.ownsMap Tryz.prog 3 slR w.heap.size 0 (dirtD (false::List.replicate sure.length false) (List.replicate (sure.length+1) [])):=by
  rw [dirt_none,hw]
  have:=World.ownsMap_made W Tryz.prog 3 slR (H:=Unit)
  rw [hWs]at this;exact this
 have hcore:Core w' p (x.ended w.heap.size) P C d s:=
  ⟨hPg,h.dk.stay (by omega) (fun b hb hd=>ho b hb (fun e=>h.dp (by rcases hd with h1 |h1;exact Or.inr (e▸h1);exact Or.inl (e▸h1)))),h.ck.stay (fun b hb hS=>ho b hb (fun e=>h.cp (e▸hS))),h.dc,h.dp,h.cp⟩
 have hfr:Fr (fun b=>b=p) w w':=by rw [hw,hW];exact alloc_frame (set_frame (set_frame (set_frame (set_frame (set_frame (Fr.refl _ _))))))
 have hcf:∀ i,(List.replicate sure.length false).getD i false=false:=fun i=>by
  rw [List.getD,List.getElem?_replicate];split<;>rfl
 have hp0:0≠p:=fun e=>t0.2 (Or.inr (Or.inr e))
 refine ⟨⟨hcore,⟨hmap,by simp,by simp,fun i hi=>?_⟩,⟨by show w.heap.size<_;omega,fun hk=>by have:=h.lt (b:=w.heap.size) hk;omega⟩,hf,hp,hp,ws,ws,bs,bs,tab_of tab (ho 0 t0.1 hp0),⟨by have:=t0.1;omega,t0.2⟩,?_,fun i hi _=>⟨hi,rfl⟩⟩,hfr⟩
 ·rw [hcf i]at hi;cases hi
 ·show w.heap.size≠0
  have:=t0.1;omega
end
section
open Go.RowKit Go.Maps
open Dsk (gt hid undrew keep_old keep_cell lt_cell Rd DS FS Sec DiskP DFrame Grew From op_at idx dirtD was secD)
open Cch (CS CP Fr wpAnyK wpAnyK_take wpAnyK_pure wpAnyK_ready wpAnyK_done wp_region_K AllReadyK.cons AllReadyK.nil)
theorem unchanged_call(p:Nat)(x:PC)(n:Nat)(c:List Bool)(enc:List Sec)(w:World)(h:PgAt w p x)(hm:w.ownsMap Tryz.prog 3 slR x.m n (dirtD (false::c) enc)) :
  Calls Tryz.prog 51 #[.pointer (some ⟨p,0,none⟩)] w fun e w'=>e=.returned (.bool (decide ((chL c).length=0)&&decide (x.np=x.pages)))∧Below w.heap.size w w':=by
 have HP:=hid (h.later (Below.refl _ _).drew)
 have HM:Hid (w.drew.ownsMap Tryz.prog 3 slR x.m n (dirtD (false::c) enc)):=hid (map_df hm rfl)
 obtain ⟨N,hN⟩:∃ N,(chL c).length=N:=⟨_,rfl⟩
 have HS:Hid (Maps.size (dirtD (false::c) enc)=N):=hid (by rw [Dsk.size_dirt];exact hN)
 rw [hN]
 have HB:Hid (Below w.heap.size w w.drew):=hid (Below.refl _ _).drew
 clear h hm hN
 by_cases h0:N=0
 ·subst h0
  by_cases he:x.np=x.pages
  ·have hv:(decide ((0:Nat)=0)&&decide (x.np=x.pages))=true:=by simp [he]
   rw [hv]
   have he':(x.np:Int)=(x.pages:Int):=by omega
   clear hv he
   go_enter Tryz.func51,Tryz.ntmps51
   go_upto_region 1 with fail
   refine wp_region_K (S:=Gr w.drew) (fun _=>false) (by kernel_rfl) (Below.refl _ _) (fun hHeld=>?_)
   refine gkp 0 ?_
   refine gkp 1 ?_
   refine gkp 2 ?_
   refine gkp 3 ?_
   refine gkt 4 ?_ (h:=by intro W hSw;obtain ⟨a0,a1,a2,a3,a4,a5,a6,a7,a8,a9,a10,a11⟩:=(HP.out.later hSw).cells;go_simp;first |done |with_reducible rfl)
   refine gkt 5 ?_ (h:=by intro W hSw;have lm:=lenB (map_df HM.out (hSw.block x.m HM.out.lt));rw [HS.out]at lm;go_simp;first |done |with_reducible rfl)
   refine gkp 6 ?_ (v:=.bool true) (h:=by intro W hSw;go_simp;first |done |with_reducible rfl |(simp;omega) |simp)
   refine gkp 7 ?_
   refine gkp 8 ?_
   refine gkp 9 ?_
   refine gkp 10 ?_
   refine gkp 11 ?_
   refine gkt 12 ?_ (h:=by intro W hSw;obtain ⟨a0,a1,a2,a3,a4,a5,a6,a7,a8,a9,a10,a11⟩:=(HP.out.later hSw).cells;go_simp;first |done |with_reducible rfl)
   refine gkp 13 ?_
   refine gkp 14 ?_
   refine gkp 15 ?_
   refine gkt 16 ?_ (h:=by intro W hSw;obtain ⟨a0,a1,a2,a3,a4,a5,a6,a7,a8,a9,a10,a11⟩:=(HP.out.later hSw).cells;go_simp;first |done |with_reducible rfl)
   refine gkp 17 ?_ (v:=.bool true) (h:=by intro W hSw;go_simp;first |done |with_reducible rfl |(simp;omega) |simp)
   refine gkp 18 ?_
   refine gkp 19 ?_
   refine wpAnyK_done (by kernel_rfl) ?_ _
   go_wp2
   go_ret
   exact ⟨rfl,HB.out⟩
  ·have hv:(decide ((0:Nat)=0)&&decide (x.np=x.pages))=false:=by simp [he]
   rw [hv]
   have he':¬(x.np:Int)=(x.pages:Int):=by omega
   clear hv
   go_enter Tryz.func51,Tryz.ntmps51
   go_upto_region 1 with fail
   refine wp_region_K (S:=Gr w.drew) (fun _=>false) (by kernel_rfl) (Below.refl _ _) (fun hHeld=>?_)
   refine gkp 0 ?_
   refine gkp 1 ?_
   refine gkp 2 ?_
   refine gkp 3 ?_
   refine gkt 4 ?_ (h:=by intro W hSw;obtain ⟨a0,a1,a2,a3,a4,a5,a6,a7,a8,a9,a10,a11⟩:=(HP.out.later hSw).cells;go_simp;first |done |with_reducible rfl)
   refine gkt 5 ?_ (h:=by intro W hSw;have lm:=lenB (map_df HM.out (hSw.block x.m HM.out.lt));rw [HS.out]at lm;go_simp;first |done |with_reducible rfl)
   refine gkp 6 ?_ (v:=.bool true) (h:=by intro W hSw;go_simp;first |done |with_reducible rfl |(simp;omega) |simp)
   refine gkp 7 ?_
   refine gkp 8 ?_
   refine gkp 9 ?_
   refine gkp 10 ?_
   refine gkp 11 ?_
   refine gkt 12 ?_ (h:=by intro W hSw;obtain ⟨a0,a1,a2,a3,a4,a5,a6,a7,a8,a9,a10,a11⟩:=(HP.out.later hSw).cells;go_simp;first |done |with_reducible rfl)
   refine gkp 13 ?_
   refine gkp 14 ?_
   refine gkp 15 ?_
   refine gkt 16 ?_ (h:=by intro W hSw;obtain ⟨a0,a1,a2,a3,a4,a5,a6,a7,a8,a9,a10,a11⟩:=(HP.out.later hSw).cells;go_simp;first |done |with_reducible rfl)
   refine gkp 17 ?_ (v:=.bool false) (h:=by intro W hSw;go_simp;first |done |with_reducible rfl |(simp;omega) |simp)
   refine gkp 18 ?_
   refine gkp 19 ?_
   refine wpAnyK_done (by kernel_rfl) ?_ _
   go_wp2
   go_ret
   exact ⟨rfl,HB.out⟩
 ·have hv:(decide (N=0)&&decide (x.np=x.pages))=false:=by simp [h0]
  rw [hv]
  have h0':¬(N:Int)=0:=by omega
  clear hv
  go_enter Tryz.func51,Tryz.ntmps51
  go_upto_region 1 with fail
  refine wp_region_K (S:=Gr w.drew) (fun _=>false) (by kernel_rfl) (Below.refl _ _) (fun hHeld=>?_)
  refine gkp 0 ?_
  refine gkp 1 ?_
  refine gkp 2 ?_
  refine gkp 3 ?_
  refine gkt 4 ?_ (h:=by intro W hSw;obtain ⟨a0,a1,a2,a3,a4,a5,a6,a7,a8,a9,a10,a11⟩:=(HP.out.later hSw).cells;go_simp;first |done |with_reducible rfl)
  refine gkt 5 ?_ (h:=by intro W hSw;have lm:=lenB (map_df HM.out (hSw.block x.m HM.out.lt));rw [HS.out]at lm;go_simp;first |done |with_reducible rfl)
  refine gkp 6 ?_ (v:=.bool false) (h:=by intro W hSw;go_simp;first |done |with_reducible rfl |(simp;omega) |simp)
  refine gkp 7 ?_
  refine gku 8 ?_
  refine gku 9 ?_
  refine gku 10 ?_
  refine gku 11 ?_
  refine gku 12 ?_
  refine gku 13 ?_
  refine gku 14 ?_
  refine gku 15 ?_
  refine gku 16 ?_
  refine gku 17 ?_
  refine gkp 18 ?_
  refine gkp 19 ?_
  refine wpAnyK_done (by kernel_rfl) ?_ _
  go_wp2
  go_ret
  exact ⟨rfl,HB.out⟩
theorem has_any(p:Nat)(x:PC)(z:Int)(w:World)(h:PgAt w p x):Calls Tryz.prog 112 #[.pointer (some ⟨p,0,none⟩),.int .i64 z] w fun e w'=>e=.returned (.bool (decide (1≤z)&&decide (z≤(x.np:Int))))∧Below w.heap.size w w':=by
 obtain ⟨a0,a1,a2,a3,a4,a5,a6,a7,a8,a9,a10,a11⟩:=h.cells
 clear h
 by_cases h1:1≤z
 ·go_enter Tryz.func112,Tryz.ntmps112
  go_wp2
  go_ret
  exact ⟨by simp [h1],Below.refl _ _⟩
 ·go_enter Tryz.func112,Tryz.ntmps112
  go_wp2
  go_ret
  exact ⟨by rw [show (decide (1≤z)&&decide (z≤(x.np:Int)))=false by simp;omega];rfl,Below.refl _ _⟩
theorem begin_call(p:Nat)(x:PC)(w:World)(h:PgAt w p x)(hb:x.busy=false):Calls Tryz.prog 19 #[.pointer (some ⟨p,0,none⟩)] w fun e w'=>e=.returned (.int .i64 0)∧PgAt w' p { x with busy:=true }∧Fr (fun b=>b=p) w w':=by
 have c:=hid (fault_any p true 0 w h.fate)
 have H:=hid h;have HB:=hid hb
 clear h hb
 go_enter Tryz.func19,Tryz.ntmps19
 go_wp2_with (go_at_call 30;refine c.out.mono ?_;rintro e w1 ⟨rfl,hb1⟩;have B1:=hid hb1;have H1:=hid (H.out.later hb1);obtain ⟨a0,a1,a2,a3,a4,a5,a6,a7,a8,a9,a10,a11⟩:=H1.out.cells;have f5:=H1.out.frozen 5;rw [HB.out]at a5;clear hb1)
 go_ret
 refine ⟨rfl,?_,?_⟩
 ·have:=Cch.blk_set H1.out (i:=5) (v:=.bool true)
  unfold PgAt
  rw [this];rfl
 ·refine ⟨B1.out.os,B1.out.tape,B1.out.output,by simpa using B1.out.size,fun b hb hn=>?_⟩
  rw [heap_setCell_other _ _ _ _ hn];exact B1.out.block b hb
end
section
open Go.RowKit Go.Maps
open Dsk (gt hid undrew keep_old keep_cell lt_cell Rd DS FS Sec DiskP DFrame Grew From op_at idx dirtD was secD)
open Cch (CS CP Fr Row shedL p52 wpAnyK wpAnyK_take wpAnyK_pure wpAnyK_ready wpAnyK_done wp_region_K AllReadyK.cons AllReadyK.nil)
variable {l:List Pg}
theorem getD_set{i j:Nat}{b:Pg}:(l.set i b).getD j []=if i=j∧j<l.length then b else l.getD j []:=by
 simp only [List.getD,List.getElem?_set]
 by_cases h:i=j
 ·subst h
  by_cases h2:i<l.length
  ·simp [h2]
  ·simp [h2]
 ·simp [h]
variable {s:CS}
theorem Fits.set(h:Fits s l){i:Nat}(hi:i<l.length)(b:List Nat):Fits (s.put ((i+1:Nat):Int) b) (l.set i b):=by
 have hrow:(s.rowFor ((i+1:Nat):Int)).page=((i+1:Nat):Int)∧(s.rowFor ((i+1:Nat):Int)).pins=0∧(s.rowFor ((i+1:Nat):Int)).dirty=false:=by
  unfold Cch.CS.rowFor
  cases hf:s.find ((i+1:Nat):Int) with
  | none=>exact ⟨rfl,rfl,rfl⟩
  | some r=>
   have hrk:=(List.find?_eq_some_iff_append.1 hf).1
   obtain ⟨j,_,_,_,h4,h5⟩:=h.kept r (List.mem_of_find?_eq_some hf)
   exact ⟨by simpa using hrk,h4,h5⟩
 have hol:(s.others ((i+1:Nat):Int)).length≤s.l.length:=List.length_filter_le _ _
 have hpl:(s.putL ((i+1:Nat):Int) b).length=(s.others ((i+1:Nat):Int)).length+1:=by simp [Cch.CS.putL]
 have hl:=h.len
 have hr8:=h.room
 refine ⟨fun x hx=>?_,?_,h.room⟩
 ·have hx':=(shedL_sub _ _ _).subset hx
  rcases List.mem_append.1 hx' with h1 |h1
  ·obtain ⟨hm,hne⟩:=List.mem_filter.1 h1
   obtain ⟨j,e1,e2,e3,e4⟩:=h.kept x hm
   refine ⟨j,e1,by rw [List.length_set];exact e2,?_,e4⟩
   have hji:¬i=j:=fun e=>by subst e;simp [e1]at hne
   rw [getD_set,if_neg (fun hh=>hji hh.1)];exact e3
  ·rw [List.mem_singleton.1 h1]
   exact ⟨i,hrow.1,by rw [List.length_set];exact hi,by rw [getD_set,if_pos ⟨rfl,hi⟩],hrow.2.1,hrow.2.2⟩
 ·show (shedL (p52 ((i+1:Nat):Int)) ((s.putL ((i+1:Nat):Int) b).length - s.room) (s.putL ((i+1:Nat):Int) b)).length≤s.room
  rcases Nat.lt_or_ge (s.others ((i+1:Nat):Int)).length s.room with h1 |h1
  ·rw [hpl,show (s.others ((i+1:Nat):Int)).length+1 - s.room=0 by omega,Cch.shedL_zero,hpl];omega
  ·rw [hpl,show (s.others ((i+1:Nat):Int)).length+1 - s.room=1 by omega]
   unfold Cch.CS.putL
   cases ho:s.others ((i+1:Nat):Int) with
   | nil=>rw [ho]at h1;simp at h1;omega
   | cons r t=>
    have hr:r∈s.others ((i+1:Nat):Int):=by rw [ho];exact List.mem_cons_self
    obtain ⟨hm,hne⟩:=List.mem_filter.1 hr
    obtain ⟨j,_,_,_,h4,h5⟩:=h.kept r hm
    have hp:p52 ((i+1:Nat):Int) r=true:=by
     unfold p52
     rw [h4,h5]
     simpa using hne
    rw [List.cons_append,Cch.shed_yes (by omega) hp,Cch.shedL_zero]
    rw [ho]at hol
    simp only [List.length_cons]at hol
    simp only [List.length_append,List.length_singleton];omega
theorem Fits.drop(h:Fits s l)(k:Int):Fits (s.drop k).1 l∧(∀ r∈(s.drop k).1.l,r∈s.l∧r.page≠k)∧(s.drop k).1.room=s.room∧(s.drop k).1.hit=s.hit∧(s.drop k).1.miss=s.miss:=by
 unfold Cch.CS.drop
 cases hf:s.find k with
 | none=>
  refine ⟨h,fun r hr=>⟨hr,fun e=>?_⟩,rfl,rfl,rfl⟩
  have:=List.find?_eq_none.1 hf r hr
  simp [e]at this
 | some r0=>
  obtain ⟨j,_,_,_,h4,_⟩:=h.kept r0 (List.mem_of_find?_eq_some hf)
  simp only [h4,if_true]
  refine ⟨⟨fun r hr=>h.kept r (List.mem_filter.1 hr).1,Nat.le_trans (List.length_filter_le _ _) h.len,h.room⟩,fun r hr=>?_,by first |rfl |trivial⟩
  obtain ⟨h1,h2⟩:=List.mem_filter.1 hr
  exact ⟨h1,by simpa using h2⟩
theorem put_count(s:CS)(k:Int)(b:List Nat):(s.put k b).hit=s.hit∧(s.put k b).miss=s.miss∧(s.put k b).room=s.room:=⟨rfl,rfl,rfl⟩
def mid0(sure now:List Pg):List Pg:=(List.range now.length).map fun i=>sure.getD i []
def midL(sure now:List Pg)(l:List Nat)(j:Nat):List Pg:=(l.take j).foldl (fun m z=>m.set (z - 1) (now.getD (z - 1) [])) (mid0 sure now)
theorem mid0_length(sure now:List Pg):(mid0 sure now).length=now.length:=by simp [mid0]
theorem mid0_get(sure now:List Pg){i:Nat}(h:i<now.length):(mid0 sure now).getD i []=sure.getD i []:=by
 simp [mid0,List.getD,h]
theorem foldl_len(now:List Pg)(l:List Nat)(m:List Pg):(l.foldl (fun m z=>m.set (z - 1) (now.getD (z - 1) [])) m).length=m.length:=by
 induction l generalizing m with
 | nil=>rfl
 | cons z r ih=>rw [List.foldl_cons,ih,List.length_set]
theorem midL_length(sure now:List Pg)(l:List Nat)(j:Nat):(midL sure now l j).length=now.length:=by rw [midL,foldl_len,mid0_length]
theorem midL_succ(sure now:List Pg){l:List Nat}{j:Nat}(h:j<l.length):midL sure now l (j+1)=(midL sure now l j).set (l.getD j 0 - 1) (now.getD (l.getD j 0 - 1) []):=by
 have e:l.take (j+1)=l.take j++[l.getD j 0]:=by
  rw [List.take_add_one,List.getElem?_eq_getElem h];simp [List.getD,List.getElem?_eq_getElem h]
 rw [midL,e,List.foldl_append];rfl
theorem foldl_get(now:List Pg)(l:List Nat)(m:List Pg)(hm:m.length=now.length)(hl:∀ z∈l,1≤z){i:Nat}(hi:i<now.length):(l.foldl (fun m z=>m.set (z - 1) (now.getD (z - 1) [])) m).getD i []=if (i+1)∈l then now.getD i [] else m.getD i []:=by
 induction l generalizing m with
 | nil=>simp
 | cons z r ih=>
  rw [List.foldl_cons,ih _ (by rw [List.length_set];exact hm) (fun y hy=>hl y (List.mem_cons_of_mem _ hy))]
  have hz:=hl z List.mem_cons_self
  by_cases h1:(i+1)∈r
  ·rw [if_pos h1,if_pos (List.mem_cons_of_mem _ h1)]
  ·rw [if_neg h1,getD_set]
   by_cases h2:z=i+1
   ·subst h2
    rw [if_pos ⟨by omega,by omega⟩,if_pos List.mem_cons_self]
    rfl
   ·rw [if_neg (by omega),if_neg (by
     intro h3
     rcases List.mem_cons.1 h3 with h4 |h4
     ·exact h2 h4.symm
     ·exact h1 h4)]
theorem ext_getD{a b:List Pg}(hl:a.length=b.length)(h:∀ i,i<b.length→a.getD i []=b.getD i []):a=b:=by
 apply List.ext_getElem hl
 intro i h1 h2
 have:=h i h2
 rwa [List.getD,List.getD,List.getElem?_eq_getElem h1,List.getElem?_eq_getElem h2]at this
variable {c:List Bool} {sure now:List Pg}
theorem midL_end(hsm:∀ i,i<now.length→c.getD i false=false→i<sure.length∧now.getD i []=sure.getD i []):midL sure now (chL c) (chL c).length=now:=by
 refine ext_getD (midL_length _ _ _ _) (fun i hi=>?_)
 rw [midL,List.take_length,foldl_get now _ _ (mid0_length _ _) (fun z hz=>(chL_mem hz).1) hi,mid0_get _ _ hi]
 split
 ·rfl
 ·rename_i h
  refine (hsm i hi ?_).2.symm
  cases hc:c.getD i false
  ·rfl
  ·exact absurd (Dsk.mem_idx.2 (by simpa using hc)) h
abbrev S8(p:Nat)(x:PC)(n:Nat)(D:DataW Unit)(W:World):Prop:=PgAt W p x∧W.ownsMap Tryz.prog 3 slR x.m n D
structure SetI (w W:World) (p:Nat) (x:PC) (P:Dsk.Parts) (C C':Cch.Parts) (d:DS) (s s':CS) (n:Nat) (now:List Pg) (c:List Bool) (enc:List Sec) (l:List Pg):Prop where
 core:Core W p x P C' d s'
 chg:Chg W (NC p x P C') x.m n now c enc
 mo:Out W (NC p x P C') x.m
 fits:Fits s' l
 more:More p x P P C C' w
 fr:Fr (NC p x P C) w W
 cnt:s'.hit=s.hit∧s'.miss=s.miss∧s'.room=s.room
 tab:Jrn.Tab W
 t0:Out W (NC p x P C') 0
variable {enc:List Sec} {n p:Nat} {s':CS} {d:DS} {x:PC} {w W W':World}
theorem SetI.later{P:Dsk.Parts}{C C':Cch.Parts}(h:SetI w W p x P C C' d s s' n now c enc l)(hb:Below W.heap.size W W'):SetI w W' p x P C C' d s s' n now c enc l:=
 ⟨h.core.later hb,h.chg.later hb,h.mo.later hb.size,h.fits,h.more,fr_trans h.fr (fr_below (S:=NC p x P C) hb) (fun _ h=>Or.inl h),h.cnt,h.tab.keep hb,h.t0.later hb.size⟩
theorem SetI.step{P:Dsk.Parts}{C C' C2:Cch.Parts}{s2:CS}{l2:List Pg}(h:SetI w W p x P C C' d s s' n now c enc l)(k:Cch.Step W W' x.k C' C2 s2)(hf:Fits s2 l2)(hc:s2.hit=s'.hit∧s2.miss=s'.miss∧s2.room=s'.room):SetI w W' p x P C C2 d s s2 n now c enc l2:=by
 obtain ⟨h1,h2,h3⟩:=h.core.cache k
 have hk:∀ b,Out W (NC p x P C') b→W'.heap[b]? = W.heap[b]?:=fun b ho=>h3.blk b ho.1 (fun hS=>ho.2 (Or.inr (Or.inl hS)))
 exact ⟨h1,h.chg.turn (hk _ h.mo) (fun _ ho=>h2.out h3.size ho) (fun _ _ _ ho hcell=>(World.cell?_of_block (hk _ ho)).trans hcell),h2.out h3.size h.mo,hf,h.more.trans h2 h.fr.size,
  fr_trans h.fr (fr_imp h3 (S1:=NC p x P C') (fun b hb=>Or.inr (Or.inl hb))) (fun b hb=>h.more b hb),⟨hc.1.trans h.cnt.1,hc.2.1.trans h.cnt.2.1,hc.2.2.trans h.cnt.2.2⟩,tab_of h.tab (hk _ h.t0),h2.out h3.size h.t0⟩
theorem fr_undrew{S:Nat→Prop}{w':World}(h:Fr S w.drew w'):Fr S w w':=⟨h.os,h.tape,h.output,h.size,h.blk⟩
theorem fits_mid(h:Fits s sure)(hr:∀ r∈s.l,r.page≤(now.length:Int)):Fits s (mid0 sure now):=by
 refine ⟨fun r hm=>?_,h.len,h.room⟩
 obtain ⟨i,e1,e2,e3,e4⟩:=h.kept r hm
 have:=hr r hm
 have hi:i<now.length:=by omega
 exact ⟨i,e1,by rw [mid0_length];exact hi,by rw [mid0_get _ _ hi];exact e3,e4⟩
theorem settle_calle(p:Nat)(x:PC)(P:Dsk.Parts)(C:Cch.Parts)(d:DS)(s:CS)(sure:List Pg)(n:Nat)(now:List Pg)(c:List Bool)(enc:List Sec)(w:World)(h:Tx w p x P C d s sure n now c enc)(hcom:x.com≤1000000) :
  Calls Tryz.prog 53 #[.pointer (some ⟨p,0,none⟩)] w fun e w'=>e=.returned (.tuple #[])∧∃ C' s' m,Tx w' p ({ x with pages:=now.length,com:=x.com+1 }.ended m) P C' d s' now 0 now (List.replicate now.length false) (List.replicate (now.length+1) [])∧More p x P P C C' w∧Fr (NC p x P C) w w'∧s'.hit=s.hit∧s'.miss=s.miss∧s'.room=s.room∧w.heap.size≤m:=by
 have hxn:=h.np;have hxp:=h.pages;have hcl:=h.chg.len
 have hbn:=h.bn;have hbs:=h.bs
 have HSM:=hid h.sm;have HWN:=hid h.wn
 obtain ⟨np,hnp⟩:∃ np,now.length=np:=⟨_,rfl⟩
 obtain ⟨T,hT⟩:∃ T,sure.length=T:=⟨_,rfl⟩
 have I0:SetI w w p x P C C d s s n now c enc sure:=⟨h.core,h.chg,h.mo,h.fits,More.refl _ _ _ _ _,Fr.refl _ _,⟨rfl,rfl,rfl⟩,h.tab,h.t0⟩
 have HI:=hid I0
 have HXN:Hid (x.np=np):=hid (hxn.trans hnp)
 have HXP:Hid (x.pages=T):=hid (hxp.trans hT)
 have HNN:=hid hnp;have HTT:=hid hT;have HCL:=hid hcl
 have hnpb:np≤4000:=by omega
 have hTb:T≤4000:=by omega
 have hcb:c.length≤4000:=by omega
 obtain ⟨K,hK⟩:∃ K,T - np=K:=⟨_,rfl⟩
 have HK:=hid hK
 have hKb:K≤4000:=by omega
 obtain ⟨a0,a1,a2,a3,a4,a5,a6,a7,a8,a9,a10,a11⟩:=h.core.hd.cells
 rw [HXN.out]at a6;rw [HXP.out]at a4
 have HRP:Hid (∀ r∈s.l,r.page≤(T:Int)):=hid (fun r hr=>by
  obtain ⟨i,e1,e2,_⟩:=h.fits.kept r hr
  omega)
 clear h hxn hxp hcl hnp hT I0 hbn hbs hK
 go_enter Tryz.func53,Tryz.ntmps53
 go_wp2
 go_loopw [2] (fun v W=>∃ (j J:Nat) (C':Cch.Parts) (s':CS),j≤K∧Hid (J=np+1+j)∧v=.int .i64 (J:Int)∧Hid (SetI w W p x P C C' d s s' n now c enc sure)∧Hid (∀ r∈s'.l,r.page≤(np:Int)∨((np+j:Nat):Int)<r.page)) (fun v _=>np+1+K - (Lib.intOf v).toNat)
 case atStart=>exact ⟨0,np+1,C,s,by omega,hid rfl,by go_num,HI,hid (fun r _=>by omega)⟩
 case round=>
  obtain ⟨j,J,C',s',hj,HJ,rfl,I,RR⟩:=hrel
  clear HI a0 a1 a2 a3 a4 a5 a6 a7 a8 a9 a10 a11
  have hJb:J≤10000:=by have:=HJ.out;omega
  obtain ⟨a0,a1,a2,a3,a4,a5,a6,a7,a8,a9,a10,a11⟩:=I.out.core.hd.cells
  rw [HXN.out]at a6;rw [HXP.out]at a4
  by_cases hjK:j<K
  ·have hle:(J:Int)≤(T:Int):=by have:=HK.out;have:=HJ.out;omega
   have cd:=hid (Cch.drop_call x.k C' s' (J:Int) wr I.out.core.ck (Dsk.wf_i64 J (by omega)))
   go_wp2_with (go_at_call 92;refine cd.out.mono ?_;rintro e w5 ⟨rfl,C5,hst⟩;have ST:=hid hst;clear hst)
   go_roundw
   case rel=>
    obtain ⟨f1,f2,f3,f4,f5⟩:=I.out.fits.drop (J:Int)
    exact ⟨j+1,J+1,C5,_,by omega,hid (by have:=HJ.out;omega),by go_num,hid (I.out.step ST.out f1 ⟨f4,f5,f3⟩),hid (fun r hr=>by
     obtain ⟨g1,g2⟩:=f2 r hr
     have:=HJ.out
     rcases RR.out r g1 with h1 |h1
     ·exact Or.inl h1
     ·right;omega)⟩
   case measure=>simp [Lib.intOf];have:=HJ.out;omega
  ·obtain rfl:j=K:=by omega
   have hgt:¬(J:Int)≤(T:Int):=by have:=HK.out;have:=HJ.out;omega
   have hcl:=chL_length c
   have hrows:∀ r∈s'.l,r.page≤(now.length:Int):=fun r hr=>by
    obtain ⟨i,e1,e2,_⟩:=I.out.fits.kept r hr
    have h1:=HK.out;have h2:=HTT.out;have h3:=HNN.out
    rcases RR.out r hr with h4 |h4<;>omega
   have I1:=hid (show SetI w wr p x P C C' d s s' n now c enc (mid0 sure now) from { I.out with fits:=fits_mid I.out.fits hrows })
   obtain ⟨l,hll⟩:∃ l,chL c=l:=⟨_,rfl⟩
   have c56:=hid (changed_any (np:Int) x.m n (false::c) enc wr I.out.chg.map (by unfold chL at hcl;omega))
   rw [show idx (false::c)=l from hll]at c56
   have HLM:Hid (∀ z∈l,1≤z∧z≤c.length∧c.getD (z - 1) false=true):=hid (fun z hz=>chL_mem (by rw [hll];exact hz))
   have HEND:Hid (midL sure now l l.length=now):=hid (by rw [←hll];exact midL_end HSM.out)
   rw [hll]at hcl
   obtain ⟨L,hL⟩:∃ L,l.length=L:=⟨_,rfl⟩
   rw [hL]at c56 hcl HEND
   have HLL:=hid hL
   have I2:Hid (SetI w wr p x P C C' d s s' n now c enc (midL sure now l 0)):=I1
   clear hrows I1 hll hL I RR
   obtain ⟨wq,hwq⟩:∃ y,y=wr:=⟨_,rfl⟩
   subst hwq
   go_wp2_with (go_at_call 93;refine c56.out.mono ?_;rintro e w2 ⟨v2,rfl,o2,n2,b2⟩;obtain ⟨ao2,c2,rfl⟩:=row_slice o2;have O2:=hid o2;have I3:=hid (I2.out.later b2);have NCL:Hid (∀ b,NC p x P C' b→b<wq.heap.size):=hid (fun b hb=>I2.out.core.lt hb);have B2s:=hid b2.size;clear o2 n2 b2 a0 a1 a2 a3 a4 a5 a6 a7 a8 a9 a10 a11)
   go_loopw [31] (fun cc W=>∃ (i:Nat) (C2:Cch.Parts) (s2:CS),i≤L∧cc=.int .i64 (i:Int)∧Hid (SetI w W p x P C C2 d s s2 n now c enc (midL sure now l i))∧Hid (Fr (NC p x P C') w2 W)∧Hid (∀ b,NC p x P C2 b→NC p x P C' b∨w2.heap.size≤b)) (fun cc _=>L - (Lib.intOf cc).toNat)
   case atStart=>exact ⟨0,C',s',by omega,rfl,I3,hid (Fr.refl _ _),hid (fun b hb=>Or.inl hb)⟩
   case round=>
    obtain ⟨i,C2,s2,hi,rfl,I,HF2,HM2⟩:=hrel
    clear I2 I3
    by_cases hiL:i<L
    ·obtain ⟨g,hcp,hv,hg2,hglt⟩:=O2.out.form (by omega)
     simp only [Value.slice.injEq]at hv
     obtain ⟨rfl,-,rfl⟩:=hv
     obtain ⟨z,hz⟩:∃ z,l.getD i 0=z:=⟨_,rfl⟩
     have hgN:¬NC p x P C' g:=fun hk=>by have:=NCL.out g hk;omega
     have hcz:wr.cell? ⟨g,i,none⟩=some (.int .i64 (z:Int)):=fr_cell HF2.out (by rw [O2.out.cellAt i (by omega),zI_get (by rw [HLL.out];exact hiL),hz]) hgN
     have hzl:z∈l:=by
      rw [←hz,List.getD,List.getElem?_eq_getElem (by rw [HLL.out];exact hiL)]
      exact List.getElem_mem _
     obtain ⟨hz1',hz2,hz3⟩:=HLM.out z hzl
     replace I:=hid (I.out.later (Below.refl _ _).drew)
     obtain ⟨b,o,cap,hen,hrd,hob0⟩:=I.out.chg.at_ (z - 1) hz3
     rw [show z - 1+1=z by omega]at hen
     obtain ⟨dd,hd⟩:∃ d,now.getD (z - 1) []=d:=⟨_,rfl⟩
     rw [hd]at hrd
     have hwz:Hid ((Lit.int .i64 (z:Int)).wf=true):=hid (Dsk.wf_i64 z (by omega))
     have hz1:Hid (1≤(z:Int)):=hid (by omega)
     have hat:Hid ((dirtD (false::c) enc).atKey (.int .i64 (z:Int)) (secD [])=secD [b,o,512,cap]):=hid (by
      rw [Dsk.at_dirt _ _ _ (by cases z with |zero=>omega |succ z=>simpa using hz3),hen])
     have rdw:Hid (∀ W,Below wr.drew.heap.size wr.drew W→Rd W (some ⟨b,o,none⟩) 512 cap dd):=hid (fun W hW=>hrd.keep hW)
     have hnb:Hid (¬C2.S x.k b):=hid (fun hS=>hob0.2 (Or.inr (Or.inl hS)))
     have hks:Hid (C2.ks.length<1000000):=hid (by
      have h1:=I.out.fits.len
      rw [I.out.core.ck.ls,List.length_map]at h1
      have:=I.out.core.ck.rm
      omega)
     have FIT:Hid (Fits (s2.put (z:Int) dd) (midL sure now l (i+1))):=hid (by
      have hzi:z - 1<(midL sure now l i).length:=by rw [midL_length];have:=HCL.out;omega
      have:=I.out.fits.set hzi dd
      rw [show z - 1+1=z by omega]at this
      rw [midL_succ sure now (by rw [HLL.out];exact hiL),hz,hd];exact this)
     have MP:Hid (wr.drew.ownsMap Tryz.prog 3 slR x.m n (dirtD (false::c) enc)):=hid I.out.chg.map
     have HP:=hid I.out.core.hd
     have hiI:(i:Int)<(L:Int):=by omega
     have hi0:(0:Int)≤(i:Int):=by omega
     clear hz hzl hz1' hz2 hz3 hen hrd hob0 hd hg2 hgN
     go_upto_region 7 with fail
     clear hcz
     refine wp_region_K (S:=S8 p x n (dirtD (false::c) enc)) (fun _=>false) (by kernel_rfl) ⟨HP.out,MP.out⟩ (fun hHeld=>?_)
     refine gkp 0 ?_
     refine gkp 1 ?_
     refine gkp 2 ?_
     refine gkt 3 ?_ (h:=by intro W hSw;obtain ⟨a0,a1,a2,a3,a4,a5,a6,a7,a8,a9,a10,a11⟩:=hSw.1.cells;go_simp;first |done |with_reducible rfl)
     refine gkp 4 ?_
     refine gkp 5 ?_
     refine gkp 6 ?_
     refine gkp 7 ?_
     refine gkp 8 ?_
     refine gkt 9 ?_ (h:=by intro W hSw;obtain ⟨a0,a1,a2,a3,a4,a5,a6,a7,a8,a9,a10,a11⟩:=hSw.1.cells;go_simp;first |done |with_reducible rfl)
     refine gkp 10 ?_
     refine gkt 11 ?_ (h:=by intro W hSw;have lk:=lookB hSw.2 (z:Int) hwz.out b o 512 cap hat.out;go_simp;first |done |with_reducible rfl)
     refine gk1 12 (fun K hK=>?_)
     go_simp
     go_at_call 94;refine (Cch.put_call x.k b o cap C2 s2 (z:Int) dd wr.drew I.out.core.ck hwz.out hz1.out (rdw.out wr.drew (Below.refl _ _)) hnb.out hks.out).mono ?_;rintro e w5 ⟨rfl,C5,hst⟩;have I5:=hid (I.out.step hst FIT.out (put_count s2 (z:Int) dd));have F5:=hid hst.fr;have G5:=hid hst.gr;have hR:S8 p x n (dirtD (false::c) enc) w5:=⟨I5.out.core.hd,I5.out.chg.map⟩;clear hst
     refine hK.out _ _ hR (fun hHeld=>?_)
     clear hK K
     (try simp only [Act.put,sA,sZ,sS])
     clear hR
     refine wpAnyK_done (by kernel_rfl) ?_ _
     go_wp2
     go_roundw
     case rel=>exact ⟨i+1,C5,_,by omega,by go_num,I5,hid (fr_trans HF2.out (fr_imp (fr_undrew F5.out) (S1:=NC p x P C2) (fun b hb=>Or.inr (Or.inl hb))) (fun b hb=>HM2.out b hb)),hid (fun b hb=>by
      rcases hb with hb |hb |hb
      ·exact HM2.out b (Or.inl hb)
      ·rcases G5.out b hb with h1 |h1
       ·exact HM2.out b (Or.inr (Or.inl h1))
       ·exact Or.inr (Nat.le_trans HF2.out.size h1)
      ·exact HM2.out b (Or.inr (Or.inr hb)))⟩
     case measure=>simp [Lib.intOf];omega
    ·obtain rfl:i=L:=by omega
     have hend:=HEND.out
     have hI:=I.out
     rw [hend]at hI
     replace I:=hid hI
     clear hI
     obtain ⟨a0,a1,a2,a3,a4,a5,a6,a7,a8,a9,a10,a11⟩:=I.out.core.hd.cells
     rw [HXN.out]at a6
     have f4:=I.out.core.hd.frozen 4;have f10:=I.out.core.hd.frozen 10
     obtain ⟨wy,hwy⟩:∃ wy,wy=(wr.setCell ⟨p,4,none⟩ (.int .i64 (np:Int))).setCell ⟨p,10,none⟩ (.int .i64 ((x.com:Int)+1)):=⟨_,rfl⟩
     have hoth:∀ b,b≠p→wy.heap[b]? = wr.heap[b]?:=fun b hb=>by rw [hwy,heap_setCell_other _ _ _ _ hb,heap_setCell_other _ _ _ _ hb]
     have hysz:wy.heap.size=wr.heap.size:=by rw [hwy];simp
     have hPy:PgAt wy p { x with pages:=now.length,com:=x.com+1 }:=by
      have h1:=Cch.blk_set (Cch.blk_set I.out.core.hd (i:=4) (v:=.int .i64 (np:Int))) (i:=10) (v:=.int .i64 ((x.com:Int)+1))
      unfold PgAt
      rw [hwy,h1,←HNN.out,show (x.com:Int)+1=((x.com+1:Nat):Int) by omega];rfl
     have hCy:Core wy p { x with pages:=now.length,com:=x.com+1 } P C2 d s2:=
      ⟨hPy,I.out.core.dk.stay (Nat.le_of_eq hysz.symm) (fun b _ hd=>hoth b (fun e=>I.out.core.dp (by rcases hd with h1 |h1;exact Or.inr (e▸h1);exact Or.inl (e▸h1)))),I.out.core.ck.stay (fun b _ hS=>hoth b (fun e=>I.out.core.cp (e▸hS))),I.out.core.dc,I.out.core.dp,I.out.core.cp⟩
     have hp0:0≠p:=fun e=>I.out.t0.2 (Or.inr (Or.inr e))
     have FF:Hid (∀ w',w'=(((((wy.setCell ⟨p,5,none⟩ (.bool false)).setCell ⟨p,6,none⟩ (.int .i64 (now.length:Int))).setCell ⟨p,7,none⟩ (.map (some wy.heap.size))).setCell ⟨p,8,none⟩ (.slice none 0 0)).setCell ⟨p,9,none⟩ (.int .i64 0)).alloc (.map #[] 0)→_):=
      hid (fun w' hw=>tx_fresh (x:={ x with pages:=now.length,com:=x.com+1 }) hCy I.out.fits rfl HWN.out (by have:=HNN.out;omega) (tab_of I.out.tab (hoth 0 hp0)) ⟨by rw [hysz];exact I.out.t0.1,I.out.t0.2⟩ hw)
     have ce:=hid (end_raw p { x with pages:=now.length,com:=x.com+1 } wy hPy)
     have FY:Hid (Fr (NC p x P C) w wy):=hid (fr_trans I.out.fr (S1:=fun b=>b=p) ⟨by rw [hwy];rfl,by rw [hwy];rfl,by rw [hwy];rfl,Nat.le_of_eq hysz.symm,fun b _ hn=>hoth b hn⟩ (fun b hb=>Or.inl (Or.inr (Or.inr hb))))
     have HWY:=hid hwy
     clear hwy hoth hysz hPy hCy
     go_wp2_with (go_at_call 44;rw [←HWY.out];refine ce.out.mono ?_;rintro e w9 ⟨rfl,hw9⟩;have HW9:=hid hw9;clear hw9)
     go_end0
     obtain ⟨t1,t2⟩:=FF.out w9 HW9.out
     exact ⟨rfl,C2,s2,wy.heap.size,t1,I.out.more,fr_trans FY.out t2 (fun b hb=>Or.inl (Or.inr (Or.inr hb))),I.out.cnt.1,I.out.cnt.2.1,I.out.cnt.2.2,FY.out.size⟩
end
end Go.Proofs.YtgjgkpnjchflaaaGreatDoor
