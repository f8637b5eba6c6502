/- Grow and Put; no statement of the seat is proved here. -/
import Derived.Test.YtfcikkechphmaaaGreatDoorW34
import Derived.Test.YtfcikkechphmaaaGreatDoorW13
import Derived.Test.YtfcikkechphmaaaGreatDoorW35
import Derived.Shelf.SlMaps.DeleteFunc
import Derived.Test.YtfcikkechphmaaaGreatDoorW25
import Derived.Laws.OwnMore
set_option maxHeartbeats 16000000
set_option maxRecDepth 20000
namespace Go.Proofs.YtfcikkechphmaaaGreatDoor
section
open Go.RowKit Go.Maps
open Dsk (gt hid undrew keep_old keep_cell lt_cell Rd DS FS Sec DiskP DFrame Grew From op_at idx dirtD was secD)
open Cch (CS CP Fr wpAnyK wpAnyK_take wpAnyK_pure wpAnyK_ready wpAnyK_done wp_region_K AllReadyK.cons AllReadyK.nil)
variable {m n:Nat} {w:World}
theorem cell_no_map{D:DataW Unit}(h:w.ownsMap Tryz.prog 3 slR m n D){o:Nat}{v:Value}(hc:w.cell? ⟨m,o,none⟩=some v):False:=by
 obtain ⟨es,clock,h1,_⟩:=h
 simp [World.cell?,h1]at hc
theorem Chg.note{w':World}{N:Nat→Prop}{z g o cap:Nat}{now now':List Pg}{c c':List Bool}{enc enc':List Sec}{b:Pg}(h:Chg w N m n now c enc)(hr:Rd w (some ⟨g,o,none⟩) 512 cap b)(hog:Out w N g)
  (hm:w'.ownsMap Tryz.prog 3 slR m (n+1) ((dirtD (false::c) enc).put (.int .i64 (z:Int)) (secD [g,o,512,cap]))) (hg:w.grownBy w' (some m)) (hl:c'.length=now'.length) (hel:enc'.length=c'.length+1)
  (hd:∀ j,(false::c').getD j false=((false::c).getD j false||decide (j=z))) (ho:∀ j,(false::c).getD j false=true→j≠z→was enc' j=was enc j) (hz:was enc' z = [g,o,512,cap]) (hb:now'.getD (z - 1) []=b) (hz1:1≤z) (hn:∀ i,i+1≠z→c.getD i false=true→now'.getD i []=now.getD i []) :
  Chg w' N m (n+1) now' c' enc':=by
 have hD:=put_ch hd ho hz (hm.canon (int_keyed Tryz.underlying3))
 rw [hD]at hm
 have key:∀ {a:Addr} {cp:Nat} {x:Pg},Rd w (some a) 512 cp x→Rd w' (some a) 512 cp x:=fun {a cp x} hx=>by
  refine ⟨hx.1,hx.2.1,hx.2.2.1,fun hp=>?_⟩
  obtain ⟨b',o',e',h2⟩:=hx.2.2.2 hp
  refine ⟨b',o',e',fun t ht=>cell_grown hg (h2 t ht) (fun e=>?_)⟩
  obtain rfl:=Option.some.inj e
  exact cell_no_map h.map (h2 t ht)
 refine ⟨hm,hl,hel,fun i hi=>?_⟩
 have hdi:=hd (i+1)
 simp only [List.getD_cons_succ]at hdi
 rw [hi]at hdi
 by_cases hiz:i+1=z
 ·subst hiz
  exact ⟨g,o,cap,hz,by rw [Nat.add_sub_cancel]at hb;rw [hb];exact key hr,hog.later hg.size⟩
 ·have hci:c.getD i false=true:=by simpa [hiz] using hdi.symm
  obtain ⟨b1,o1,c1,e1,hr1,ho1⟩:=h.at_ i hci
  exact ⟨b1,o1,c1,by rw [ho (i+1) (by simpa using hci) hiz];exact e1,by rw [hn i hiz hci];exact key hr1,ho1.later hg.size⟩
def EncTo(w:World)(enc enc':List Sec):Prop:=∀ e∈enc',e∈enc∨∃ g l c,e = [g,0,l,c]∧w.heap.size≤g
structure PutE (w w':World) (p:Nat) (x x':PC) (P:Dsk.Parts) (C:Cch.Parts) (d:DS) (s:CS) (sure:List Pg) (n:Nat) (now:List Pg) (c:List Bool) (enc:List Sec):Prop where
 is:∃ enc',Tx w' p x' P C d s sure n now c enc'∧EncTo w enc enc'
 fr:Fr (fun b=>b=p∨b=x.m) w w'
theorem getD_snoc(c:List Bool)(j:Nat):(c++[true]).getD j false=(c.getD j false||decide (j=c.length)):=by
 simp only [List.getD,List.getElem?_append]
 by_cases hj:j<c.length
 ·have:¬j=c.length:=by omega
  simp [hj,this]
 ·rw [if_neg hj,List.getElem?_eq_none (l:=c) (by omega)]
  by_cases hj2:j=c.length
  ·subst hj2;simp
  ·rw [List.getElem?_eq_none (by simp;omega)]
   simp [hj2]
theorem getD_setB(c:List Bool)(i j:Nat)(hi:i<c.length):(c.set i true).getD j false=(c.getD j false||decide (j=i)):=by
 simp only [List.getD,List.getElem?_set]
 by_cases h:i=j
 ·subst h;simp [hi]
 ·have:¬j=i:=fun e=>h e.symm
  simp [h,this]
def zeros:Pg:=List.replicate 512 0
theorem zeros_length:zeros.length=512:=List.length_replicate ..
theorem rd_madeN(n:Nat)(w:World):Rd (w.alloc (.cells (Array.replicate n (.int .u8 0)) 5)) (some ⟨w.heap.size,0,none⟩) n n (List.replicate n 0):=by
 refine ⟨List.length_replicate ..,Nat.le_refl _,fun h=>(by cases h),fun _=>⟨w.heap.size,0,rfl,fun t ht=>?_⟩⟩
 rw [World.cell?_alloc_at _ _ _ _ rfl]
 have:(List.replicate n 0).getD t 0=0:=by simp [List.getD,ht]
 rw [this]
 simp [ht]
theorem rd_made(w:World):Rd (w.alloc (.cells (Array.replicate 512 (.int .u8 0)) 5)) (some ⟨w.heap.size,0,none⟩) 512 512 zeros:=rd_madeN 512 w
theorem grow_calle(p:Nat)(x:PC)(P:Dsk.Parts)(C:Cch.Parts)(d:DS)(s:CS)(sure:List Pg)(n:Nat)(now:List Pg)(c:List Bool)(enc:List Sec)(w:World)(h:Tx w p x P C d s sure n now c enc)(hb:x.busy=true)(hn:now.length<4000)(hnb:n≤1000000) :
  Calls Tryz.prog 108 #[.pointer (some ⟨p,0,none⟩)] w fun e w'=>e=.returned (.tuple #[.int .i64 ((now.length+1:Nat):Int),.int .i64 0])∧PutE w w' p x { x with np:=now.length+1 } P C d s sure (n+1) (now++[zeros]) (c++[true]) enc:=by
 have cw:=within_live p x w h.core.hd
 rw [hb]at cw
 have CW:=hid cw
 have H:=hid h;have HB:=hid hb
 obtain ⟨L,hL⟩:∃ L,now.length=L:=⟨_,rfl⟩
 have HNL:Hid (x.np=L):=hid (h.np.trans hL)
 have HLL:=hid hL
 rw [hL]at hn ⊢
 clear cw h hb hL
 go_enter Tryz.func108,Tryz.ntmps108
 go_upto_region 7 with (go_at_call 86;refine CW.out.mono ?_;rintro e w1 ⟨rfl,hb1⟩;have H1:=hid (H.out.later hb1);have B1:=hid hb1;obtain ⟨a0,a1,a2,a3,a4,a5,a6,a7,a8,a9,a10,a11⟩:=H1.out.core.hd.cells;have f6:=H1.out.core.hd.frozen 6;rw [HNL.out]at a6;clear hb1)
 obtain ⟨z,hz⟩:∃ z,z=L+1:=⟨_,rfl⟩
 have HZ:=hid hz
 rw [show (L:Int)+1=(z:Int) by omega]
 obtain ⟨W2,hW2⟩:∃ W2,W2=w1.setCell ⟨p,6,none⟩ (.int .i64 (z:Int)):=⟨_,rfl⟩
 obtain ⟨NN,hNN⟩:∃ NN,NN=Array.replicate 512 (Value.int .u8 0):=⟨_,rfl⟩
 obtain ⟨W3,hW3⟩:∃ W3,W3=(W2.alloc (.cells NN 5)).drew:=⟨_,rfl⟩
 obtain ⟨g,hg⟩:∃ g,g=W2.heap.size:=⟨_,rfl⟩
 obtain ⟨X,hX⟩:∃ X:PC,X = { x with np:=z }:=⟨_,rfl⟩
 have mk:∀ W,(Instr.makeSlice 48 (.int .i64 512) (.int .i64 512)).run Tryz.prog W=.ok (.slice (some ⟨W.heap.size,0,none⟩) 512 512) (W.alloc (.cells NN 5)):=fun W=>by rw [hNN];exact Dsk.make_any 512 512 (Nat.le_refl _) (by omega) W
 have h2o:∀ b,b≠p→W2.heap[b]? = w1.heap[b]?:=fun b hb=>by rw [hW2,heap_setCell_other _ _ _ _ hb]
 have h2s:W2.heap.size=w1.heap.size:=by rw [hW2];simp
 have hP2:PgAt W2 p X:=by
  have h1:=Cch.blk_set H1.out.core.hd (i:=6) (v:=.int .i64 (z:Int))
  unfold PgAt
  rw [hW2,h1,hX];rfl
 have h3b:Below W2.heap.size W2 W3:=by rw [hW3];exact (Below.alloc (Below.refl _ _) (Nat.le_refl _) _).drew
 have hqk:X.q=x.q∧X.k=x.k∧X.m=x.m:=by rw [hX];exact ⟨rfl,rfl,rfl⟩
 have hC2:Core W2 p X P C d s:=by
  have hc:=H1.out.core
  subst hX
  exact ⟨hP2,hc.dk.stay (Nat.le_of_eq h2s.symm) (fun b _ hd=>h2o b (fun e=>hc.dp (by rcases hd with h1 |h1;exact Or.inr (e▸h1);exact Or.inl (e▸h1)))),hc.ck.stay (fun b _ hS=>h2o b (fun e=>hc.cp (e▸hS))),hc.dc,hc.dp,hc.cp⟩
 have hOp:∀ b,Out w1 (NC p x P C) b→b≠p:=fun b ho e=>ho.2 (Or.inr (Or.inr e))
 have hG2:Chg W2 (NC p x P C) x.m n now c enc:=H1.out.chg.turn (h2o _ (hOp _ H1.out.mo)) (fun b ho=>⟨by rw [h2s];exact ho.1,ho.2⟩) (fun b o v ho hc=>(World.cell?_of_block (h2o b (hOp b ho))).trans hc)
 have C3:=hid (hC2.later h3b);have G3:=hid (hG2.later h3b)
 have RD3:Hid (Rd W3 (some ⟨g,0,none⟩) 512 512 zeros):=hid (by rw [hW3,hg,hNN];exact (rd_made W2).keep (Below.refl _ _).drew)
 have OG3:Hid (Out W3 (NC p x P C) g):=hid ⟨by rw [hW3,hg];simp,fun hk=>by have:=H1.out.core.lt hk;omega⟩
 have hpm:Hid (p≠x.m):=hid (fun e=>H1.out.mo.2 (Or.inr (Or.inr e.symm)))
 have HPX0:Hid (PgAt W2.drew p X):=hid (hP2.later (Below.refl _ _).drew)
 have HPX:=hid C3.out.hd
 have MP:=hid G3.out.map
 have HNB:Hid (n<maxLen):=hid (by unfold maxLen;omega)
 have hwz:Hid ((Lit.int .i64 (z:Int)).wf=true):=hid (Dsk.wf_i64 z (by omega))
 have HW3:=hid hW3
 have HOS:Hid (W2.os=w.os∧W2.tape=w.tape∧W2.output=w.output):=hid (by rw [hW2];exact ⟨B1.out.os,B1.out.tape,B1.out.output⟩)
 have HG3:Hid (g=w1.heap.size):=hid (by rw [hg,h2s])
 have HNZ:Hid (X.np=z):=hid (by rw [hX])
 have HXM:=hid hqk;have HXX:=hid hX;have H2O:=hid h2o;have H2S:=hid h2s
 have hXm:X.m=x.m:=hqk.2.2
 rw [←hW2]
 have HW2s:Hid (W2.heap.size=g):=hid hg.symm
 obtain ⟨cp,hcp⟩:∃ cp,cp=512:=⟨_,rfl⟩
 clear hW2 hW3 hNN hg hX h2o h2s hP2 h3b hqk hC2 hG2 hz a0 a1 a2 a3 a4 a5 a6 a7 a8 a9 a10 a11 f6
 refine wp_region_K (S:=fun W=>PgAt W p X) (fun _=>false) (by kernel_rfl) HPX0.out (fun hHeld=>?_)
 refine gkp 0 ?_
 refine gkp 1 ?_
 refine gkp 2 ?_
 refine gkp 3 ?_
 refine gkt 4 ?_ (h:=by intro W hSw;obtain ⟨a0,a1,a2,a3,a4,a5,a6,a7,a8,a9,a10,a11⟩:=hSw.cells;(try rw [HXM.out.2.2]at a7);go_simp;first |done |with_reducible rfl)
 refine gkp 5 ?_
 refine gkp 6 ?_
 refine gkp 7 ?_
 refine gkp 8 ?_
 refine gkt 9 ?_ (h:=by intro W hSw;obtain ⟨a0,a1,a2,a3,a4,a5,a6,a7,a8,a9,a10,a11⟩:=hSw.cells;(try rw [HXM.out.2.2]at a7);rw [HNZ.out]at a6;go_simp;first |done |with_reducible rfl)
 refine gk1 10 (fun K hK=>?_)
 go_simp
 have hR:PgAt W3 p X:=HPX.out;(try rw [HW2s.out]);rw [←HW3.out]
 refine hK.out _ _ hR (fun hHeld=>?_)
 clear hK K
 (try simp only [Act.put,sA,sZ,sS])
 clear hR
 refine gk1 11 (fun K hK=>?_)
 refine Dsk.step_mapUpdate rfl (.tmp 29) (.tmp 34) (.tmp 35) 120 rfl 3 48 (int_keyed Tryz.underlying3) Tryz.underlying120 slR x.m n (dirtD (false::c) enc) rfl MP.out HNB.out _ _ (.int .i64 (z:Int)) rfl rfl (keyOf_int_mk Tryz.underlying3 hwz.out) (secD [g,0,512,512]) [] (slR_mk g 0 512 512) ?_;intro w6 ho6 hg6;have O6:=hid ho6;have G6:=hid hg6;have hR:PgAt w6 p X:=HPX.out.stay (hg6.block p HPX.out.lt (by intro e;exact hpm.out (Option.some.inj e)));clear ho6 hg6
 refine hK.out _ _ hR (fun hHeld=>?_)
 clear hK K
 (try simp only [Act.put])
 clear hR
 refine wpAnyK_done (by kernel_rfl) ?_ _
 have HP6:=hid (HPX.out.stay (G6.out.block p HPX.out.lt (by intro e;exact hpm.out (Option.some.inj e))))
 obtain ⟨a0,a1,a2,a3,a4,a5,a6,a7,a8,a9,a10,a11⟩:=HP6.out.cells
 rw [HNZ.out]at a6
 go_wp2
 go_ret2
 have hcl:=H1.out.chg.len;have hel:=H1.out.chg.el
 have hLn:=HLL.out;have hzL:=HZ.out
 have hgm:∀ b,b<W3.heap.size→b≠x.m→w6.heap[b]? = W3.heap[b]?:=fun b hb hbm=>G6.out.block b hb (fun e=>hbm (Option.some.inj e))
 have hchg:Chg w6 (NC p x P C) x.m (n+1) (now++[zeros]) (c++[true]) (enc++[[g,0,512,512]]):=
  G3.out.note (z:=z) RD3.out OG3.out O6.out G6.out (by simp [hcl]) (by simp [hel]) (fun j=>by
   cases j with
   | zero=>rw [show decide (0=z)=false by simp;omega];rfl
   | succ j=>
    simp only [List.getD_cons_succ]
    rw [getD_snoc,show decide (j=c.length)=decide (j+1=z) from decide_eq_decide.2 (by omega)]) (fun j hj hjz=>by
   have hjl:j<enc.length:=by
    rcases Nat.lt_or_ge j (false::c).length with h1 |h1
    ·rw [hel];simpa using h1
    ·rw [List.getD,List.getElem?_eq_none h1]at hj;cases hj
   simp only [was,List.getD,List.getElem?_append_left hjl]) (by
   simp only [was,List.getD]
   rw [List.getElem?_append_right (by omega),show z - enc.length=0 by omega];rfl) (by
   simp only [List.getD]
   rw [List.getElem?_append_right (by omega),show z - 1 - now.length=0 by omega];rfl) (by omega) (fun i hiz hci=>by
   have hil:i<now.length:=by
    rw [←hcl]
    rcases Nat.lt_or_ge i c.length with h1 |h1
    ·exact h1
    ·rw [List.getD,List.getElem?_eq_none h1]at hci;cases hci
   simp only [List.getD,List.getElem?_append_left hil])
 have hX:=HXX.out
 have hOm:¬NC p x P C x.m:=H1.out.mo.2
 have hW3s:w1.heap.size≤W3.heap.size:=by have h1:=C3.out.hd.lt;have h2:=H2S.out;have h3:=HW2s.out;have h4:=OG3.out.1;omega
 have h30:∀ b,b<w1.heap.size→b≠p→W3.heap[b]? = w1.heap[b]?:=fun b hb hbp=>by
  rw [HW3.out]
  have:=hao W2 (.cells NN 5) b (by rw [H2S.out];exact hb)
  exact this.trans (H2O.out b hbp)
 have hcore:Core w6 p { x with np:=L+1 } P C d s:=by
  rw [hX,hzL]at C3
  exact C3.out.stay G6.out.size (fun b hb hk=>hgm b hb (fun e=>hOm (e▸hk)))
 have hp0:0≠p:=fun e=>H1.out.t0.2 (Or.inr (Or.inr e))
 refine ⟨by rw [hzL];rfl,⟨enc++[[g,0,512,512]],⟨hcore,hchg,⟨Nat.lt_of_lt_of_le H1.out.mo.1 (Nat.le_trans hW3s G6.out.size),hOm⟩,H1.out.fits,H1.out.pages,by simp [hLn],H1.out.ws,?_,H1.out.bs,by simp;omega,?_,⟨Nat.lt_of_lt_of_le H1.out.t0.1 (Nat.le_trans hW3s G6.out.size),H1.out.t0.2⟩,H1.out.tm,?_⟩,fun e he=>(by rcases List.mem_append.1 he with h8 |h8;exact Or.inl h8;(simp at h8;right;exact ⟨g,512,512,h8,by have h9:=HG3.out;have h7:=B1.out.size;omega⟩))⟩,?_⟩
 ·intro i hi
  simp only [List.length_append,List.length_singleton]at hi
  by_cases hil:i<now.length
  ·simp only [List.getD,List.getElem?_append_left hil];exact H1.out.wn i hil
  ·obtain rfl:i=now.length:=by omega
   have e:(now++[zeros]).getD now.length []=zeros:=by simp [List.getD]
   rw [e]
   exact ⟨zeros_length,fun b hb=>by rw [List.eq_of_mem_replicate hb];omega⟩
 ·exact tab_of (tab_of H1.out.tab (h30 0 H1.out.t0.1 hp0)) (hgm 0 (Nat.lt_of_lt_of_le H1.out.t0.1 hW3s) (fun e=>H1.out.tm e.symm))
 ·intro i hi hci
  simp only [List.length_append,List.length_singleton]at hi
  by_cases hil:i<now.length
  ·simp only [List.getD,List.getElem?_append_left hil]
   refine H1.out.sm i hil ?_
   simpa only [List.getD,List.getElem?_append_left (show i<c.length by omega)] using hci
  ·obtain rfl:i=now.length:=by omega
   rw [←hcl]at hci
   simp [List.getD]at hci
 ·refine ⟨G6.out.os.trans ?_,G6.out.tape.trans ?_,G6.out.output.trans ?_,Nat.le_trans B1.out.size (Nat.le_trans hW3s G6.out.size),fun b hb hn=>?_⟩
  ·rw [HW3.out];exact HOS.out.1
  ·rw [HW3.out];exact HOS.out.2.1
  ·rw [HW3.out];exact HOS.out.2.2
  ·have h1:=Nat.lt_of_lt_of_le hb B1.out.size
   rw [hgm b (Nat.lt_of_lt_of_le h1 hW3s) (fun e=>hn (Or.inr e)),h30 b h1 (fun e=>hn (Or.inl e)),B1.out.block b hb]
theorem put_pagee(p z sb so cap:Nat)(b:Pg)(x:PC)(P:Dsk.Parts)(C:Cch.Parts)(d:DS)(s:CS)(sure:List Pg)(n:Nat)(now:List Pg)(c:List Bool)(enc:List Sec)(w:World)(h:Tx w p x P C d s sure n now c enc)(hb:x.busy=true)(hz1:1≤z)(hz2:z≤now.length)(hnb:n≤1000000)(hr:Rd w (some ⟨sb,so,none⟩) 512 cap b)(hbb:∀ y∈b,y<256) :
  Calls Tryz.prog 113 #[.pointer (some ⟨p,0,none⟩),.int .i64 (z:Int),.slice (some ⟨sb,so,none⟩) 512 cap] w fun e w'=>e=.returned (.int .i64 0)∧PutE w w' p x x P C d s sure (n+1) (now.set (z - 1) b) (c.set (z - 1) true) enc:=by
 have cw:=within_live p x w h.core.hd
 rw [hb]at cw
 have CW:=hid cw
 have CH:=hid (fun W (hW:Below w.heap.size w W)=>has_any p x (z:Int) W (h.core.hd.later hW))
 rw [show (decide (1≤(z:Int))&&decide ((z:Int)≤(x.np:Int)))=true by rw [h.np];simp;omega]at CH
 have H:=hid h;have HR:=hid hr;have HBB:=hid hbb
 have hbn:=h.bn
 have HZ:=hid (And.intro hz1 hz2)
 have hwz:Hid ((Lit.int .i64 (z:Int)).wf=true):=hid (Dsk.wf_i64 z (by omega))
 have HNB:Hid (n<maxLen):=hid (by unfold maxLen;omega)
 have hpm:Hid (p≠x.m):=hid (fun e=>h.mo.2 (Or.inr (Or.inr e.symm)))
 clear cw h hb hr hbb hz1 hz2 hbn
 go_enter Tryz.func113,Tryz.ntmps113
 go_upto_region 8 with (first
  | (go_at_call 86;refine CW.out.mono ?_;rintro e w1 ⟨rfl,hb1⟩;have B1:=hid hb1;clear hb1)
  | (go_at_call 172;refine (CH.out w1 B1.out).mono ?_;rintro e w2 ⟨rfl,hb2⟩;have B2:=hid (gt B1.out hb2);clear hb2))
 have T2:=hid (H.out.later (B2.out.drew))
 have HPX0:=hid T2.out.core.hd
 have CC:=hid (Cch.clone_any sb so 512 cap b w2.drew ((HR.out.keep B2.out).keep (Below.refl _ _).drew) (by omega))
 refine wp_region_K (S:=fun W=>PgAt W p x) (fun _=>false) (by kernel_rfl) HPX0.out (fun hHeld=>?_)
 refine gkp 0 ?_
 refine gkp 1 ?_
 refine gkp 2 ?_
 refine gkp 3 ?_
 refine gkt 4 ?_ (h:=by intro W hSw;obtain ⟨a0,a1,a2,a3,a4,a5,a6,a7,a8,a9,a10,a11⟩:=hSw.cells;go_simp;first |done |with_reducible rfl)
 refine gkp 5 ?_
 refine gkp 6 ?_
 refine gk1 7 (fun K hK=>?_)
 go_simp
 go_at_call 173;refine (CC.out).mono ?_;rintro e w5 ⟨a5,cp0,rfl,h5,hb5⟩;obtain ⟨g,cp,hv,hB,hlt⟩:=h5.form (by omega);simp only [Value.slice.injEq]at hv;obtain ⟨rfl,-,rfl⟩:=hv;have RD:Hid (Rd w5 (some ⟨g,0,none⟩) 512 cp0 b):=hid (Cch.rd_own h5);have HB5:=hid hb5;have HGB:Hid (w2.heap.size≤g):=hid hB;have HGL:=hid hlt;have T5:=hid (T2.out.later hb5);have HPX:=hid T5.out.core.hd;have hR:PgAt w5 p x:=HPX.out;have MP:=hid T5.out.chg.map;clear h5 hb5 hB hlt
 refine hK.out _ _ hR (fun hHeld=>?_)
 clear hK K
 (try simp only [Act.put,sA,sZ,sS])
 clear hR
 refine gk1 8 (fun K hK=>?_)
 refine Dsk.step_mapUpdate rfl (.tmp 24) (.tmp 25) (.tmp 27) 120 rfl 3 48 (int_keyed Tryz.underlying3) Tryz.underlying120 slR x.m n (dirtD (false::c) enc) rfl MP.out HNB.out _ _ (.int .i64 (z:Int)) rfl rfl (keyOf_int_mk Tryz.underlying3 hwz.out) (secD [g,0,512,cp0]) [] (slR_mk g 0 512 cp0) ?_;intro w6 ho6 hg6;have O6:=hid ho6;have G6:=hid hg6;have hR:PgAt w6 p x:=HPX.out.stay (hg6.block p HPX.out.lt (by intro e;exact hpm.out (Option.some.inj e)));clear ho6 hg6
 refine hK.out _ _ hR (fun hHeld=>?_)
 clear hK K
 (try simp only [Act.put])
 clear hR
 refine wpAnyK_done (by kernel_rfl) ?_ _
 go_wp2
 go_ret
 have hcl:=T5.out.chg.len;have hel:=T5.out.chg.el
 obtain ⟨hz1,hz2⟩:=HZ.out
 have OG:Out w5 (NC p x P C) g:=⟨HGL.out,fun hk=>by have h1:=T2.out.core.lt hk;have h2:=HGB.out;have h3:w2.drew.heap.size=w2.heap.size:=rfl;omega⟩
 have hgm:∀ y,y<w5.heap.size→y≠x.m→w6.heap[y]? = w5.heap[y]?:=fun y hy hym=>G6.out.block y hy (fun e=>hym (Option.some.inj e))
 have hchg:Chg w6 (NC p x P C) x.m (n+1) (now.set (z - 1) b) (c.set (z - 1) true) (enc.set z [g,0,512,cp0]):=
  T5.out.chg.note (z:=z) RD.out OG O6.out G6.out (by simp [hcl]) (by simp [hel]) (fun j=>by
   cases j with
   | zero=>rw [show decide (0=z)=false by simp;omega];rfl
   | succ j=>
    simp only [List.getD_cons_succ]
    rw [getD_setB _ _ _ (by omega),show decide (j=z - 1)=decide (j+1=z) from decide_eq_decide.2 (by omega)]) (fun j _ hjz=>by
   simp only [was,List.getD]
   rw [List.getElem?_set_ne (fun e=>hjz e.symm)]) (by
   simp only [was,List.getD]
   rw [List.getElem?_set_self (by omega)];rfl) (by rw [getD_set,if_pos ⟨rfl,by omega⟩]) hz1 (fun i hiz _=>by rw [getD_set,if_neg (by omega)])
 have hOm:¬NC p x P C x.m:=T5.out.mo.2
 refine ⟨rfl,⟨enc.set z [g,0,512,cp0],⟨T5.out.core.stay G6.out.size (fun y hy hk=>hgm y hy (fun e=>hOm (e▸hk))),hchg,T5.out.mo.later G6.out.size,T5.out.fits,T5.out.pages,by rw [List.length_set];exact T5.out.np,T5.out.ws,?_,T5.out.bs,by rw [List.length_set];exact T5.out.bn,tab_of T5.out.tab (hgm 0 T5.out.t0.1 (fun e=>T5.out.tm e.symm)),T5.out.t0.later G6.out.size,T5.out.tm,?_⟩,fun e he=>(by rcases List.mem_or_eq_of_mem_set he with h8 |h8;exact Or.inl h8;(right;exact ⟨g,512,cp0,h8,by have h9:=HGB.out;have h7:=B2.out.size;omega⟩))⟩,?_⟩
 ·intro i hi
  rw [List.length_set]at hi
  rw [getD_set]
  split
  ·exact ⟨RD.out.1,HBB.out⟩
  ·exact T5.out.wn i hi
 ·intro i hi hci
  rw [List.length_set]at hi
  rw [getD_setB _ _ _ (by omega)]at hci
  simp only [Bool.or_eq_false_iff,decide_eq_false_iff_not]at hci
  rw [getD_set,if_neg (by omega)]
  exact T5.out.sm i hi hci.1
 ·have hb5:=gt B2.out (undrew HB5.out)
  exact ⟨G6.out.os.trans hb5.os,G6.out.tape.trans hb5.tape,G6.out.output.trans hb5.output,Nat.le_trans hb5.size G6.out.size,fun y hy hn=>(hgm y (Nat.lt_of_lt_of_le hy hb5.size) (fun e=>hn (Or.inr e))).trans (hb5.block y hy)⟩
end
end Go.Proofs.YtfcikkechphmaaaGreatDoor
namespace Go.Proofs
open Go.Shelf
end Go.Proofs
namespace Go.Proofs.YtfcikkechphmaaaGreatDoor
open Go.RowKit Go.Maps
open Dsk (gt hid undrew keep_old keep_cell lt_cell Rd DS FS Sec DiskP DFrame Grew From op_at idx dirtD was secD)
open Cch (CS CP Fr wpAnyK wpAnyK_take wpAnyK_pure wpAnyK_ready wpAnyK_done wp_region_K AllReadyK.cons AllReadyK.nil)
theorem look_ok{ops:Array Oper}{rest:List Oper}{o:Oper}{a:Act}{w:World}{Q:Exit→Act→World→Prop}(hg:o.guard=none)(m x:Operand)(hop:o.op=Op.lookup 120 m x true)(b n:Nat)(D:DataW Unit)
  (hm:a.eval m=.map (some b)) (hown:w.ownsMap Tryz.prog 3 slR b n D) (key:Value) (kl:Lit) (hx:a.eval x=key) (hkey:keyOf Tryz.prog 3 key=some kl) (h:Bool) (hh:Maps.has D kl=h)
  (hK:∀ v ps,slR v=some (D.atKey kl (secD []),ps)→wpList Tryz.prog ops Q rest (a.put o.dst (.tuple #[v,.bool h])) w):wpList Tryz.prog ops Q (o::rest) a w:=
 wpList_lookup_own_ok w hg m x 120 hop 3 48 (int_keyed Tryz.underlying3) Tryz.underlying120 slR (zeroB w) (secD []) [] slR_nil b n D hm hown key kl hx hkey (fun v ps hv=>by
  rw [hh]
  exact hK v ps hv)
structure GetTo (w w':World) (p:Nat) (x:PC) (P:Dsk.Parts) (C:Cch.Parts) (d:DS) (s:CS) (sure:List Pg) (n:Nat) (now:List Pg) (c:List Bool) (enc:List Sec) (b:Nat):Prop where
 is:∃ C' s',Tx w' p x P C' d s' sure n now c enc∧Out w' (NC p x P C') b∧More p x P P C C' w∧s'.hit+s'.miss≤s.hit+s.miss+1∧s'.room=s.room
 fr:Fr (NC p x P C) w w'
theorem get_own(p i:Nat)(x:PC)(P:Dsk.Parts)(C:Cch.Parts)(d:DS)(s:CS)(sure:List Pg)(n:Nat)(now:List Pg)(c:List Bool)(enc:List Sec)(w:World)(h:Tx w p x P C d s sure n now c enc)(hi:i<now.length)(hf:d.f0.now=secsOf sure)(ho:d.off=false)(hh:s.hit+s.miss≤900000) :
  Calls Tryz.prog 115 #[.pointer (some ⟨p,0,none⟩),.int .i64 ((i+1:Nat):Int)] w fun e w'=>∃ a cap,e=.returned (.tuple #[.slice (some a) 512 cap,.int .i64 0])∧(Rd w' (some a) 512 cap (now.getD i [])∧w'.ownsRow w.heap.size 5 1 (.slice (some a) 512 cap) 512 (Cch.bs (now.getD i [])))∧w.heap.size≤a.block∧GetTo w w' p x P C d s sure n now c enc a.block:=by
 have cf:=hid (fault_any p true 0 w h.core.hd.fate)
 have CH:=hid (fun W (hW:Below w.heap.size w W)=>has_any p x ((i+1:Nat):Int) W (h.core.hd.later hW))
 rw [show (decide (1≤((i+1:Nat):Int))&&decide (((i+1:Nat):Int)≤(x.np:Int)))=true by rw [h.np];simp;omega]at CH
 have hbn:=h.bn
 have H:=hid h
 obtain ⟨z,hz⟩:∃ z,z=i+1:=⟨_,rfl⟩
 have hwz:=Dsk.wf_i64 z (by omega)
 have HWZ:=hid hwz
 cases hci:c.getD i false with
 | true=>
  obtain ⟨b,o,cap,e1,e2,e3⟩:=h.chg.at_ i hci
  have hat:Hid ((dirtD (false::c) enc).atKey (.int .i64 (z:Int)) (secD [])=secD [b,o,512,cap]):=hid (by
   rw [Dsk.at_dirt _ _ _ (by rw [hz];simpa using hci),hz,e1])
  have hhas:Hid (Maps.has (dirtD (false::c) enc) (.int .i64 (z:Int))=true):=hid (by rw [Dsk.has_dirt,hz];simpa using hci)
  have CC:=hid (fun W (hW:Below w.heap.size w W)=>Cch.clone_any b o 512 cap (now.getD i []) W (e2.keep hW) (by omega))
  rw [←hz]at CH ⊢
  clear h hci e1 e2 e3 hz hf ho hh
  go_enter Tryz.func115,Tryz.ntmps115
  go_wp2_with (first
   | (go_at_call 65;refine cf.out.mono ?_;rintro e w1 ⟨rfl,hb1⟩;have B1:=hid hb1;clear hb1)
   | (go_at_call 172;refine (CH.out w1 B1.out).mono ?_;rintro e w2 ⟨rfl,hb2⟩;have B2:=hid (gt B1.out hb2);obtain ⟨a0,a1,a2,a3,a4,a5,a6,a7,a8,a9,a10,a11⟩:=(H.out.core.hd.later B2.out).cells;clear hb2)
   | ((with_reducible refine Dsk.here_op 25 ?_);refine look_ok rfl (.tmp 23) (.tmp 24) rfl x.m n (dirtD (false::c) enc) rfl (H.out.later B2.out).chg.map (.int .i64 (z:Int)) (.int .i64 (z:Int)) rfl (keyOf_int_mk Tryz.underlying3 HWZ.out) true hhas.out ?_;intro v ps hv;rw [hat.out]at hv;obtain rfl:=slR_inv hv;clear hv)
   | (go_at_call 173;refine (CC.out w2 B2.out).mono ?_;rintro e w3 ⟨ao,cp,rfl,hr3,hb3⟩;have R3:=hid hr3;have B3:=hid (gt B2.out hb3);have S3:=hid hb3.size;clear hr3 hb3))
  go_ret2
  obtain ⟨g,cp',hv,hB,hlt⟩:=R3.out.form (by omega)
  simp only [Value.slice.injEq]at hv
  obtain ⟨rfl,-,rfl⟩:=hv
  refine ⟨⟨g,0,none⟩,cp,rfl,⟨Cch.rd_own R3.out,own_dn R3.out B2.out.size⟩,Nat.le_trans B2.out.size hB,⟨C,s,H.out.later B3.out,⟨hlt,fun hk=>?_⟩,More.refl _ _ _ _ _,by omega,rfl⟩,fr_below B3.out⟩
  have h1:g<w.heap.size:=H.out.core.lt hk
  have h2:=B2.out.size
  omega
 | false=>
  obtain ⟨hsi,hsg⟩:=h.sm i hi hci
  have hhas:Hid (Maps.has (dirtD (false::c) enc) (.int .i64 (z:Int))=false):=hid (by rw [Dsk.has_dirt,hz];simpa using hci)
  have CB:=hid (fun W (hW:Below w.heap.size w W)=>before_own p x P C d s sure i W (h.core.later hW) h.fits hf (fun j hj=>(h.ws j hj).1) ho hsi h.bs (by omega))
  rw [←hz]at CH CB ⊢
  rw [hsg]
  clear h hci hz hf ho hsi hsg
  go_enter Tryz.func115,Tryz.ntmps115
  go_wp2_with (first
   | (go_at_call 65;refine cf.out.mono ?_;rintro e w1 ⟨rfl,hb1⟩;have B1:=hid hb1;clear hb1)
   | (go_at_call 172;refine (CH.out w1 B1.out).mono ?_;rintro e w2 ⟨rfl,hb2⟩;have B2:=hid (gt B1.out hb2);obtain ⟨a0,a1,a2,a3,a4,a5,a6,a7,a8,a9,a10,a11⟩:=(H.out.core.hd.later B2.out).cells;clear hb2)
   | ((with_reducible refine Dsk.here_op 25 ?_);refine look_ok rfl (.tmp 23) (.tmp 24) rfl x.m n (dirtD (false::c) enc) rfl (H.out.later B2.out).chg.map (.int .i64 (z:Int)) (.int .i64 (z:Int)) rfl (keyOf_int_mk Tryz.underlying3 HWZ.out) false hhas.out ?_;intro v ps hv;clear hv)
   | (go_at_call 175;refine (CB.out w2 B2.out).mono ?_;rintro e w3 ⟨a3,cp,rfl,⟨hr3,ho3⟩,hl3,hto⟩;have R3:=hid hr3;have O3:=hid ho3;clear ho3;have T3:=hid hto;have L3:=hid hl3;clear hr3 hl3 hto))
  go_ret2
  obtain ⟨C',s',n1,n2,n3,n4,n5,n6⟩:=T3.out.is
  have hf3:=T3.out.fr
  have hT:=(H.out.later B2.out).turn n2 n3 n4 hf3.size (fun b hb=>hf3.blk b hb.1 (fun hS=>hb.2 (Or.inr (Or.inl hS))))
  refine ⟨a3,cp,rfl,⟨R3.out,own_dn O3.out B2.out.size⟩,Nat.le_trans B2.out.size L3.out,⟨C',s',hT,⟨?_,fun hk=>?_⟩,fun b hb=>?_,n5,n6⟩,fr_trans (fr_below (S:=NC p x P C) B2.out) (fr_imp hf3 (S1:=NC p x P C) (fun b hb=>Or.inr (Or.inl hb))) (fun b hb=>Or.inl hb)⟩
  ·obtain ⟨b',o',eb,hc⟩:=R3.out.2.2.2 (by omega)
   obtain rfl:=Option.some.inj eb
   exact lt_cell (hc 0 (by omega))
  ·rcases hk with hk |hk |hk
   ·have h1:=DN.lt (H.out.later B2.out).core.dk hk;have h2:=L3.out;omega
   ·exact n1 hk
   ·have h1:=(H.out.later B2.out).core.hd.lt;have h2:=L3.out;omega
  ·rcases n4 b hb with h1 |h1
   ·exact Or.inl h1
   ·exact Or.inr (Nat.le_trans B2.out.size h1)
end Go.Proofs.YtfcikkechphmaaaGreatDoor
namespace Go.Proofs.YtfcikkechphmaaaGreatDoor
namespace Dsk
open Go.RowKit Go.Maps
end Dsk
end Go.Proofs.YtfcikkechphmaaaGreatDoor
