/- The document's pager: Grow, Shrink; no statement of the seat is proved here. -/
import Derived.Test.YtadhdedjdgjboaaGreatDoorH33
import Derived.Test.YtadhdedjdgjboaaGreatDoorH30
import Derived.Test.YtadhdedjdgjboaaGreatDoorH17
set_option maxHeartbeats 16000000
set_option maxRecDepth 20000
namespace Go.Proofs.YtadhdedjdgjboaaGreatDoor
section
open Go.RowKit Go.Maps
open Dsk (gt hid undrew keep_old keep_cell lt_cell Rd bs bs_length bs_one own_lt own_ne own_set own_later El row_form src_row el37 el66 el30 op_at)
open Cch (Fr wpAnyK wpAnyK_take wpAnyK_pure wpAnyK_ready wpAnyK_done wp_region_K AllReadyK.cons AllReadyK.nil AllReadyK.late)
structure BQ (Q:Nat→Prop) (w:World) (r:Nat) (cs:List Value) (W:World):Prop where
 fr:Fr (fun b=>b=r∨Q b) w W
 lt:r<w.heap.size
 box:W.heap[r]? = some (.cells cs.toArray 35 (0,0))
variable {cs:List Value} {r:Nat} {w W:World} {Q:Nat→Prop}
theorem BQ.move{E:Nat→Prop}{W':World}(h:BQ Q w r cs W)(hf:Fr E W W')(hE:∀ b,E b→b≠r∧(b<w.heap.size→Q b)):BQ Q w r cs W':=
 ⟨h.fr.trans hf (fun j hj hj2=>Or.inr ((hE j hj2).2 hj)),h.lt,(hf.blk r (Nat.lt_of_lt_of_le h.lt h.fr.size) (fun hr=>(hE r hr).1 rfl)).trans h.box⟩
theorem BQ.alloc(h:BQ Q w r cs W)(o:Obj):BQ Q w r cs (W.alloc o):=h.move (fr_alloc (fun _=>False) W o) (fun _ h=>h.elim)
theorem BQ.set(h:BQ Q w r cs W)(i:Nat)(v:Value):BQ Q w r (cs.set i v) (W.setCell ⟨r,i,none⟩ v):=
 ⟨h.fr.trans (fr_setb W r i v) (fun _ _ h=>Or.inl h),h.lt,Cch.blk_set h.box⟩
theorem BQ.cell(h:BQ Q w r cs W)(i:Nat):W.cell? ⟨r,i,none⟩=cs[i]?:=Cch.hd_cell h.box i
theorem BQ.frozen(h:BQ Q w r cs W)(i:Nat):W.frozen? ⟨r,i,none⟩=false:=Cch.hd_frozen h.box i
variable {t:RS} {V:RV} {S:Nat→Prop}
theorem RefP.bq(h:RefP w r S V t):BQ Q w.drew r (boxL V t) w.drew:=⟨⟨rfl,rfl,rfl,Nat.le_refl _,fun _ _ _=>rfl⟩,h.rlt,h.box⟩
theorem lit_row(W:World)(B:Nat)(us:List Value)(e:TypeId)(hB:B≤W.heap.size)(hm:us.length≤1000000):(W.alloc (.cells us.toArray e)).ownsRow B e 1 (.slice (some ⟨W.heap.size,0,none⟩) us.length us.length) us.length us:=
 ⟨by simp,.inr ⟨W.heap.size,us.length,us.toArray,rfl,hB,heap_alloc_new _ _,Nat.le_refl _,by unfold maxLen;omega,by simp,by simp⟩⟩
theorem noughts_row(W:World)(B n:Nat)(NN:Array Value)(hN:NN=Array.replicate n (.int .u8 0))(hB:B≤W.heap.size)(hn:n≤1000000):(W.alloc (.cells NN 5)).ownsRow B 5 1 (.slice (some ⟨W.heap.size,0,none⟩) n n) n (bs (List.replicate n 0)):=by
 subst hN
 have e:bs (List.replicate n 0)=List.replicate n (.int .u8 0):=by unfold bs;rw [List.map_replicate];rfl
 rw [e]
 refine ⟨by simp,.inr ⟨W.heap.size,n,_,rfl,hB,heap_alloc_new _ _,Nat.le_refl _,by unfold maxLen;omega,by simp,?_⟩⟩
 simp
def RS.grow(t:RS):RS:={ t with now:=t.now++[zeros],c:=t.c++[true] }
def RS.shrink(t:RS)(n:Nat):RS:={ t with now:=t.now.take n,c:=t.c.take n }
variable {w1:World}
theorem turn_fin(h:RefP w r S V t)(hb:t.busy=true){nv cv:Value}{now:List Pg}{c:List Bool}{vs:List Value}(X:BQ (fun b=>V.nv.ownBlock=some b∨V.cv.ownBlock=some b) w.drew r (boxL V t) w1)
  (N:w1.ownsRow 0 60 1 nv now.length vs) (hp:∀ W',Fr (E3 r V) w W'→W'.heap.size=w1.heap.size→(∀ k,k≠r→W'.heap[k]? = w1.heap[k]?)→PagesAt W' (New S w W') vs now) (C:w1.ownsRow 0 4 1 cv c.length (bv c)) (hl:c.length=now.length)
  (bn:∀ k,nv.ownBlock=some k→V.nv.ownBlock=some k∨w.heap.size≤k) (bc:∀ k,cv.ownBlock=some k→V.cv.ownBlock=some k∨w.heap.size≤k)
  (hW:W=(w1.setCell ⟨r,1,none⟩ nv).setCell ⟨r,2,none⟩ cv):RTo w W r S { t with now:=now,c:=c }:=by
 have X2:=(X.set 1 nv).set 2 cv
 rw [←hW]at X2
 have fr1:Fr (E3 r V) w W:=⟨X2.fr.os,X2.fr.tape,X2.fr.output,X2.fr.size,fun k hk hn=>X2.fr.blk k hk (fun e=>hn (by rcases e with e |e;exact Or.inl e;exact Or.inr e))⟩
 have hs:W.heap.size=w1.heap.size:=by rw [hW];simp
 have ho:∀ k,k≠r→W.heap[k]? = w1.heap[k]?:=fun k hk=>by rw [hW,heap_setCell_other _ _ _ _ hk,heap_setCell_other _ _ _ _ hk]
 have hrl:=h.rlt
 have hnr:∀ k,nv.ownBlock=some k→k≠r:=fun k hk e=>by
  subst e
  rcases bn k hk with h1 |h1
  ·exact h.nr (h.now.own k h1)
  ·omega
 have hcr:∀ k,cv.ownBlock=some k→k≠r:=fun k hk e=>by
  subst e
  rcases bc k hk with h1 |h1
  ·exact h.nr (h.c.own k h1)
  ·omega
 have f2:Fr (fun k=>k=r) w1 W:=by rw [hW];exact (fr_setb w1 r 1 nv).trans (fr_setb _ r 2 cv) (fun _ _ h=>h)
 have N2:=rr_fr N f2 hnr
 have C2:=rr_fr C f2 hcr
 refine h.turned (nv:=nv) (cv:=cv) (now:=now) (c:=c) hb fr1 ?_ ⟨⟨vs,N2,hp W fr1 hs ho⟩,fun k hk=>?_⟩ ⟨C2,fun k hk=>?_⟩ hl bn bc
 ·have:=X2.box
  simp only [boxL,hb]at this
  exact this
 ·rcases bn k hk with h1 |h1
  ·exact Or.inl (h.now.own k h1)
  ·exact Or.inr ⟨h1,(rr_blk N2 hk).2⟩
 ·rcases bc k hk with h1 |h1
  ·exact Or.inl (h.c.own k h1)
  ·exact Or.inr ⟨h1,(rr_blk C2 hk).2⟩
variable {n:Nat}
theorem src_take{ao:Option Addr}{m c:Nat}{xs:List Value}(h:Dsk.Src w ao n c xs)(hm:m≤n):Dsk.Src w ao m c (xs.take m):=
 ⟨by rw [List.length_take,h.len];omega,fun h0=>⟨by have:=(h.no h0).1;omega,(h.no h0).2⟩,fun ad ha j u hu=>h.at_ ad ha j u (by rw [List.getElem?_take]at hu;split at hu;exact hu;cases hu),fun u hu=>h.one u (List.mem_of_mem_take hu)⟩
theorem rgrow_no(r:Nat)(S:Nat→Prop)(V:RV)(t:RS)(w:World)(h:RefP w r S V t)(hb:t.busy=false):Calls Tryz.prog 47 #[.pointer (some ⟨r,0,none⟩)] w fun e w'=>e=.returned (.tuple #[.int .i64 0,.int .i64 6])∧w'=w:=by
 obtain ⟨_,_,_,c3,_⟩:=h.cells
 rw [hb]at c3
 clear h
 go_enter Tryz.func47,Tryz.ntmps47
 go_wp2
 go_ret2
 exact ⟨rfl,rfl⟩
theorem grow_fin(h:RefP w r S V t)(hb:t.busy=true){nv cv pv:Value}{vs:List Value}(hvs:PagesAt w S vs t.now)(X:BQ (fun b=>V.nv.ownBlock=some b∨V.cv.ownBlock=some b) w.drew r (boxL V t) w1)(P:w1.ownsRow w.heap.size 5 1 pv 512 (bs zeros))
  (N:w1.ownsRow 0 60 1 nv (t.now.length+1) (vs++[pv])) (C:w1.ownsRow 0 4 1 cv (t.now.length+1) (bv t.c++[.bool true]))
  (bn:∀ k,nv.ownBlock=some k→V.nv.ownBlock=some k∨w.heap.size≤k) (bc:∀ k,cv.ownBlock=some k→V.cv.ownBlock=some k∨w.heap.size≤k) (hW:W=(w1.setCell ⟨r,1,none⟩ nv).setCell ⟨r,2,none⟩ cv):RTo w W r S t.grow:=by
 have hcn:=h.cn
 refine turn_fin (vs:=vs++[pv]) h hb X (by rw [List.length_append];exact N) (fun W' hf hs ho=>(hvs.far hf h.no5 (fun _ h=>Or.inl h)).snoc ?_) (by rw [List.length_append,hcn];simpa [bv] using C) (by simp [hcn]) bn bc hW
 have h5:W'.ownsRow w.heap.size 5 1 pv 512 (bs zeros):=rr_fr (E:=fun k=>k=r) P ⟨hf.os.trans (by have:=X.fr.os;exact this.symm),hf.tape.trans (by have:=X.fr.tape;exact this.symm),hf.output.trans (by have:=X.fr.output;exact this.symm),Nat.le_of_eq hs.symm,fun k _ hk=>ho k hk⟩ (fun k hk e=>by have h1:=(rr_blk P hk).1;have:=h.rlt;omega)
 exact ⟨rr_base h5 (Nat.zero_le _),fun k hk=>Or.inr (rr_blk h5 hk)⟩
theorem rgrow_yes(r:Nat)(S:Nat→Prop)(V:RV)(t:RS)(w:World)(h:RefP w r S V t)(hb:t.busy=true)(hl:t.now.length<4000) :
  Calls Tryz.prog 47 #[.pointer (some ⟨r,0,none⟩)] w fun e w'=>e=.returned (.tuple #[.int .i64 ((t.now.length+1:Nat):Int),.int .i64 0])∧RTo w w' r S t.grow:=by
 obtain ⟨_,c1,c2,c3,_⟩:=h.cells
 rw [hb]at c3
 obtain ⟨aN,cN,hNV,hN0,hN1⟩:=h.now.form
 obtain ⟨aC,cC,hCV,hC0,hC1⟩:=row_form h.c.row
 rw [h.cn]at hCV hC0 hC1
 obtain ⟨vs,hnr,hvs⟩:=h.now.row
 have hcr:=h.c.row
 rw [h.cn]at hcr
 have HNR:Hid ((∀ b,(Value.slice aN t.now.length cN).ownBlock=some b→b≠r)∧∀ b,(Value.slice aC t.now.length cC).ownBlock=some b→b≠r):=hid ⟨fun b hb e=>h.nr (h.now.own r (by rw [hNV,←e];exact hb)),fun b hb e=>h.nr (h.c.own r (by rw [hCV,←e];exact hb))⟩
 have hX:BQ (fun b=>V.nv.ownBlock=some b∨V.cv.ownBlock=some b) w.drew r (boxL V t) w.drew:=h.bq
 have FIN:=hid (fun w1 W nv cv pv (_:Unit) (_:Unit) X P N C bn bc hW=>grow_fin (w1:=w1) (W:=W) (nv:=nv) (cv:=cv) (pv:=pv) h hb hvs X P N C bn bc hW)
 rw [hNV]at c1 hnr FIN hX;rw [hCV]at c2 hcr FIN hX
 simp only [boxL]at FIN hX
 rw [hNV,hCV]at FIN hX
 have X:=hid hX
 have NR:=hid (rr_fr (E:=fun _=>False) (w':=w.drew) hnr ⟨rfl,rfl,rfl,Nat.le_refl _,fun _ _ _=>rfl⟩ (fun _ _ h=>h));have CR:=hid (rr_fr (E:=fun _=>False) (w':=w.drew) hcr ⟨rfl,rfl,rfl,Nat.le_refl _,fun _ _ _=>rfl⟩ (fun _ _ h=>h));have HRL:=hid h.rlt
 generalize t.c=cc at *
 clear h hb hNV hCV hnr hcr hvs hX
 generalize t.now.length=L at *
 have hL:¬(4000:Int)≤(L:Int):=by omega
 clear hN0 hN1 hC0 hC1
 have e1:((L+1:Nat):Int)=(L:Int)+1:=by omega
 obtain ⟨NN,hNN⟩:∃ NN,NN=Array.replicate 512 (Value.int .u8 0):=⟨_,rfl⟩
 have mk:∀ W,(Instr.makeSlice 60 (.int .i64 512) (.int .i64 512)).run Tryz.prog W=.ok (.slice (some ⟨W.heap.size,0,none⟩) 512 512) (W.alloc (.cells NN 5)):=fun W=>by rw [hNN];exact Dsk.make_any 512 512 (Nat.le_refl _) (by omega) W
 have HNN:=hid hNN
 clear hNN
 go_enter Tryz.func47,Tryz.ntmps47
 go_upto_region 5 with fail
 refine wp_region_K (S:=S12 r (.slice aN L cN) (.slice aC L cC)) (fun i=>i == 17||i == 20) (by kernel_rfl) (⟨c1,c2⟩) (fun hHeld=>?_)
 refine gkp 0 ?_
 refine gkp 1 ?_
 refine gkp 2 ?_
 refine gkp 3 ?_
 refine gkp 4 ?_
 refine gkt 5 ?_ (h:=by intro W hSw;obtain ⟨k1,k2⟩:=hSw;go_simp;first |done |with_reducible rfl)
 refine gkp 9 ?_
 refine gkp 10 ?_
 refine gkp 11 ?_
 refine gkt 12 ?_ (h:=by intro W hSw;obtain ⟨k1,k2⟩:=hSw;go_simp;first |done |with_reducible rfl)
 refine wpAnyK_ready (rs:=[6,13]) (by kernel_rfl) (by simp) ?_
 refine AllReadyK.cons (op_at _ 6 _ rfl) (fun K hK=>?_) ?_
 ·go_simp
  have st:=fr_alloc (fun _=>False) w.drew (.cells NN 5);replace NR:=rz NR st;replace CR:=rz CR st;have hsz:w.heap.size≤w.drew.heap.size:=X.out.fr.size;replace X:=hid (X.out.alloc (.cells NN 5));have hR:=S12.fr hHeld st (fun h=>h);have P6:Hid ((w.drew.alloc (.cells NN 5)).ownsRow w.heap.size 5 1 (.slice (some ⟨w.heap.size,0,none⟩) 512 512) 512 (bs zeros)):=hid (by have q:w.drew.heap.size=w.heap.size:=(by first |rfl |simp);rw [←q];exact noughts_row w.drew w.heap.size 512 NN HNN.out hsz (by omega));clear st hsz
  refine hK.out _ _ hR (fun hHeld=>?_)
  clear hK K
  (try simp only [Act.put,sA,sZ,sS])
  refine wpAnyK_ready (rs:=[7,13]) (by kernel_rfl) (by simp) ?_
  refine AllReadyK.cons (op_at _ 7 _ rfl) (fun K hK=>?_) ?_
  ·go_simp
   have st:=fr_alloc (fun _=>False) (w.drew.alloc (.cells NN 5)) (.cells #[.slice (some ⟨w.heap.size,0,none⟩) 512 512] 60);replace NR:=rz NR st;replace CR:=rz CR st;replace P6:=rz P6 st;have hsz:w.heap.size≤(w.drew.alloc (.cells NN 5)).heap.size:=X.out.fr.size;replace X:=hid (X.out.alloc (.cells #[.slice (some ⟨w.heap.size,0,none⟩) 512 512] 60));have hR:=S12.fr hHeld st (fun h=>h);have L7:Hid (((w.drew.alloc (.cells NN 5)).alloc (.cells #[.slice (some ⟨w.heap.size,0,none⟩) 512 512] 60)).ownsRow w.heap.size 60 1 (.slice (some ⟨w.heap.size+1,0,none⟩) 1 1) 1 [.slice (some ⟨w.heap.size,0,none⟩) 512 512]):=hid (by have q:(w.drew.alloc (.cells NN 5)).heap.size=w.heap.size+1:=(by first |rfl |simp);rw [←q];exact lit_row (w.drew.alloc (.cells NN 5)) w.heap.size [.slice (some ⟨w.heap.size,0,none⟩) 512 512] 60 hsz (by simp));clear st hsz
   refine hK.out _ _ hR (fun hHeld=>?_)
   clear hK K
   (try simp only [Act.put,sA,sZ,sS])
   refine wpAnyK_ready (rs:=[8,13]) (by kernel_rfl) (by simp) ?_
   refine AllReadyK.cons (op_at _ 8 _ rfl) (fun K hK=>?_) ?_
   ·refine Dsk.step_app rfl (.tmp 20) (.tmp 22) el66 rfl (Value.slice aN L cN) L vs rfl (rr_base NR.out (Nat.zero_le _)) (some ⟨w.heap.size+1,0,none⟩) 1 1 [.slice (some ⟨w.heap.size,0,none⟩) 512 512] rfl (src_row (rr_base L7.out (Nat.zero_le _)) (by intro u hu;simp at hu;subst hu;rfl)) (by omega) ?_;intro a8 c8 w8 ho hg ha;have st:=fr_grown hg;have hE:∀ b,(Value.slice aN L cN).ownBlock=some b→b≠r∧(b<w.heap.size→(fun b=>(Value.slice aN L cN).ownBlock=some b∨(Value.slice aC L cC).ownBlock=some b) b):=fun b hb=>⟨HNR.out.1 b hb,fun _=>Or.inl hb⟩;have N8:=hid ho;have D8:=own_from (B:=w.heap.size) (n:=(L+1)) (c:=c8) ha X.out.fr.size;replace CR:=rn CR NR st;replace P6:=rn P6 NR st;have hR:=S12.fr hHeld st (fun h=>(hE r h).1 rfl);replace X:=hid (X.out.move st hE);clear ho hg ha st hE
    refine hK.out _ _ hR (fun hHeld=>?_)
    clear hK K
    (try simp only [Act.put,sA,sZ,sS])
    refine gk1 13 (fun K hK=>?_)
    go_simp
    have st:=fr_alloc (fun _=>False) w8 (.cells #[.bool true] 4);replace CR:=rz CR st;replace P6:=rz P6 st;replace N8:=rz N8 st;have hsz:w.heap.size≤w8.heap.size:=X.out.fr.size;replace X:=hid (X.out.alloc (.cells #[.bool true] 4));have hR:=S12.fr hHeld st (fun h=>h);have L13:Hid ((w8.alloc (.cells #[.bool true] 4)).ownsRow w.heap.size 4 1 (.slice (some ⟨w8.heap.size,0,none⟩) 1 1) 1 [.bool true]):=hid (by have q:w8.heap.size=w8.heap.size:=(by first |rfl |simp);rw [←q];exact lit_row w8 w.heap.size [.bool true] 4 hsz (by simp));clear st hsz
    refine hK.out _ _ hR (fun hHeld=>?_)
    clear hK K
    (try simp only [Act.put,sA,sZ,sS])
    refine gk1 14 (fun K hK=>?_)
    refine Dsk.step_app rfl (.tmp 27) (.tmp 28) el30 rfl (Value.slice aC L cC) L (bv cc) rfl (rr_base CR.out (Nat.zero_le _)) (some ⟨w8.heap.size,0,none⟩) 1 1 [.bool true] rfl (src_row (rr_base L13.out (Nat.zero_le _)) (by intro u hu;simp at hu;subst hu;rfl)) (by omega) ?_;intro a14 c14 w14 ho hg ha;have st:=fr_grown hg;have hE:∀ b,(Value.slice aC L cC).ownBlock=some b→b≠r∧(b<w.heap.size→(fun b=>(Value.slice aN L cN).ownBlock=some b∨(Value.slice aC L cC).ownBlock=some b) b):=fun b hb=>⟨HNR.out.2 b hb,fun _=>Or.inr hb⟩;have N14:=hid ho;have D14:=own_from (B:=w.heap.size) (n:=(L+1)) (c:=c14) ha X.out.fr.size;replace P6:=rn P6 CR st;replace N8:=rn N8 CR st;have hR:=S12.fr hHeld st (fun h=>(hE r h).1 rfl);replace X:=hid (X.out.move st hE);clear ho hg ha st hE
    refine hK.out _ _ hR (fun hHeld=>?_)
    clear hK K
    (try simp only [Act.put,sA,sZ,sS])
    refine gkp 15 ?_
    refine gkp 16 ?_
    have k1:w14.cell? ⟨r,1,none⟩=some _:=(X.out.cell 1).trans rfl
    have k2:w14.cell? ⟨r,2,none⟩=some _:=(X.out.cell 2).trans rfl
    have f1:=X.out.frozen 1
    have f2:=X.out.frozen 2
    refine gkl 17 (fun K hK=>?_)
    go_simp
    refine hK.out _ _ ?_
    clear hK K
    (try simp only [Act.put,sA,sZ,sS])
    refine gkp 18 ?_
    refine gkp 19 ?_
    refine gkl 20 (fun K hK=>?_)
    go_simp
    refine hK.out _ _ ?_
    clear hK K
    (try simp only [Act.put,sA,sZ,sS])
    refine wpAnyK_done (by kernel_rfl) ?_ _
    clear hHeld hR
    go_wp2
    go_ret2
    exact ⟨rfl,FIN.out _ _ _ _ _ () () X.out P6.out N8.out N14.out D8.out D14.out rfl⟩
   refine AllReadyK.cons (op_at _ 13 _ rfl) (fun K hK=>?_) ?_
   ·go_simp
    have st:=fr_alloc (fun _=>False) ((w.drew.alloc (.cells NN 5)).alloc (.cells #[.slice (some ⟨w.heap.size,0,none⟩) 512 512] 60)) (.cells #[.bool true] 4);replace NR:=rz NR st;replace CR:=rz CR st;replace P6:=rz P6 st;replace L7:=rz L7 st;have hsz:w.heap.size≤((w.drew.alloc (.cells NN 5)).alloc (.cells #[.slice (some ⟨w.heap.size,0,none⟩) 512 512] 60)).heap.size:=X.out.fr.size;replace X:=hid (X.out.alloc (.cells #[.bool true] 4));have hR:=S12.fr hHeld st (fun h=>h);have L13:Hid ((((w.drew.alloc (.cells NN 5)).alloc (.cells #[.slice (some ⟨w.heap.size,0,none⟩) 512 512] 60)).alloc (.cells #[.bool true] 4)).ownsRow w.heap.size 4 1 (.slice (some ⟨w.heap.size+1+1,0,none⟩) 1 1) 1 [.bool true]):=hid (by have q:((w.drew.alloc (.cells NN 5)).alloc (.cells #[.slice (some ⟨w.heap.size,0,none⟩) 512 512] 60)).heap.size=w.heap.size+1+1:=(by first |rfl |simp);rw [←q];exact lit_row ((w.drew.alloc (.cells NN 5)).alloc (.cells #[.slice (some ⟨w.heap.size,0,none⟩) 512 512] 60)) w.heap.size [.bool true] 4 hsz (by simp));clear st hsz
    refine hK.out _ _ hR (fun hHeld=>?_)
    clear hK K
    (try simp only [Act.put,sA,sZ,sS])
    refine gk1 8 (fun K hK=>?_)
    refine Dsk.step_app rfl (.tmp 20) (.tmp 22) el66 rfl (Value.slice aN L cN) L vs rfl (rr_base NR.out (Nat.zero_le _)) (some ⟨w.heap.size+1,0,none⟩) 1 1 [.slice (some ⟨w.heap.size,0,none⟩) 512 512] rfl (src_row (rr_base L7.out (Nat.zero_le _)) (by intro u hu;simp at hu;subst hu;rfl)) (by omega) ?_;intro a8 c8 w8 ho hg ha;have st:=fr_grown hg;have hE:∀ b,(Value.slice aN L cN).ownBlock=some b→b≠r∧(b<w.heap.size→(fun b=>(Value.slice aN L cN).ownBlock=some b∨(Value.slice aC L cC).ownBlock=some b) b):=fun b hb=>⟨HNR.out.1 b hb,fun _=>Or.inl hb⟩;have N8:=hid ho;have D8:=own_from (B:=w.heap.size) (n:=(L+1)) (c:=c8) ha X.out.fr.size;replace CR:=rn CR NR st;replace P6:=rn P6 NR st;replace L13:=rn L13 NR st;have hR:=S12.fr hHeld st (fun h=>(hE r h).1 rfl);replace X:=hid (X.out.move st hE);clear ho hg ha st hE
    refine hK.out _ _ hR (fun hHeld=>?_)
    clear hK K
    (try simp only [Act.put,sA,sZ,sS])
    refine gk1 14 (fun K hK=>?_)
    refine Dsk.step_app rfl (.tmp 27) (.tmp 28) el30 rfl (Value.slice aC L cC) L (bv cc) rfl (rr_base CR.out (Nat.zero_le _)) (some ⟨w.heap.size+1+1,0,none⟩) 1 1 [.bool true] rfl (src_row (rr_base L13.out (Nat.zero_le _)) (by intro u hu;simp at hu;subst hu;rfl)) (by omega) ?_;intro a14 c14 w14 ho hg ha;have st:=fr_grown hg;have hE:∀ b,(Value.slice aC L cC).ownBlock=some b→b≠r∧(b<w.heap.size→(fun b=>(Value.slice aN L cN).ownBlock=some b∨(Value.slice aC L cC).ownBlock=some b) b):=fun b hb=>⟨HNR.out.2 b hb,fun _=>Or.inr hb⟩;have N14:=hid ho;have D14:=own_from (B:=w.heap.size) (n:=(L+1)) (c:=c14) ha X.out.fr.size;replace P6:=rn P6 CR st;replace N8:=rn N8 CR st;have hR:=S12.fr hHeld st (fun h=>(hE r h).1 rfl);replace X:=hid (X.out.move st hE);clear ho hg ha st hE
    refine hK.out _ _ hR (fun hHeld=>?_)
    clear hK K
    (try simp only [Act.put,sA,sZ,sS])
    refine gkp 15 ?_
    refine gkp 16 ?_
    have k1:w14.cell? ⟨r,1,none⟩=some _:=(X.out.cell 1).trans rfl
    have k2:w14.cell? ⟨r,2,none⟩=some _:=(X.out.cell 2).trans rfl
    have f1:=X.out.frozen 1
    have f2:=X.out.frozen 2
    refine gkl 17 (fun K hK=>?_)
    go_simp
    refine hK.out _ _ ?_
    clear hK K
    (try simp only [Act.put,sA,sZ,sS])
    refine gkp 18 ?_
    refine gkp 19 ?_
    refine gkl 20 (fun K hK=>?_)
    go_simp
    refine hK.out _ _ ?_
    clear hK K
    (try simp only [Act.put,sA,sZ,sS])
    refine wpAnyK_done (by kernel_rfl) ?_ _
    clear hHeld hR
    go_wp2
    go_ret2
    exact ⟨rfl,FIN.out _ _ _ _ _ () () X.out P6.out N8.out N14.out D8.out D14.out rfl⟩
   exact AllReadyK.nil
  refine AllReadyK.cons (op_at _ 13 _ rfl) (fun K hK=>?_) ?_
  ·go_simp
   have st:=fr_alloc (fun _=>False) (w.drew.alloc (.cells NN 5)) (.cells #[.bool true] 4);replace NR:=rz NR st;replace CR:=rz CR st;replace P6:=rz P6 st;have hsz:w.heap.size≤(w.drew.alloc (.cells NN 5)).heap.size:=X.out.fr.size;replace X:=hid (X.out.alloc (.cells #[.bool true] 4));have hR:=S12.fr hHeld st (fun h=>h);have L13:Hid (((w.drew.alloc (.cells NN 5)).alloc (.cells #[.bool true] 4)).ownsRow w.heap.size 4 1 (.slice (some ⟨w.heap.size+1,0,none⟩) 1 1) 1 [.bool true]):=hid (by have q:(w.drew.alloc (.cells NN 5)).heap.size=w.heap.size+1:=(by first |rfl |simp);rw [←q];exact lit_row (w.drew.alloc (.cells NN 5)) w.heap.size [.bool true] 4 hsz (by simp));clear st hsz
   refine hK.out _ _ hR (fun hHeld=>?_)
   clear hK K
   (try simp only [Act.put,sA,sZ,sS])
   refine gk1 7 (fun K hK=>?_)
   go_simp
   have st:=fr_alloc (fun _=>False) ((w.drew.alloc (.cells NN 5)).alloc (.cells #[.bool true] 4)) (.cells #[.slice (some ⟨w.heap.size,0,none⟩) 512 512] 60);replace NR:=rz NR st;replace CR:=rz CR st;replace P6:=rz P6 st;replace L13:=rz L13 st;have hsz:w.heap.size≤((w.drew.alloc (.cells NN 5)).alloc (.cells #[.bool true] 4)).heap.size:=X.out.fr.size;replace X:=hid (X.out.alloc (.cells #[.slice (some ⟨w.heap.size,0,none⟩) 512 512] 60));have hR:=S12.fr hHeld st (fun h=>h);have L7:Hid ((((w.drew.alloc (.cells NN 5)).alloc (.cells #[.bool true] 4)).alloc (.cells #[.slice (some ⟨w.heap.size,0,none⟩) 512 512] 60)).ownsRow w.heap.size 60 1 (.slice (some ⟨w.heap.size+1+1,0,none⟩) 1 1) 1 [.slice (some ⟨w.heap.size,0,none⟩) 512 512]):=hid (by have q:((w.drew.alloc (.cells NN 5)).alloc (.cells #[.bool true] 4)).heap.size=w.heap.size+1+1:=(by first |rfl |simp);rw [←q];exact lit_row ((w.drew.alloc (.cells NN 5)).alloc (.cells #[.bool true] 4)) w.heap.size [.slice (some ⟨w.heap.size,0,none⟩) 512 512] 60 hsz (by simp));clear st hsz
   refine hK.out _ _ hR (fun hHeld=>?_)
   clear hK K
   (try simp only [Act.put,sA,sZ,sS])
   refine gk1 8 (fun K hK=>?_)
   refine Dsk.step_app rfl (.tmp 20) (.tmp 22) el66 rfl (Value.slice aN L cN) L vs rfl (rr_base NR.out (Nat.zero_le _)) (some ⟨w.heap.size+1+1,0,none⟩) 1 1 [.slice (some ⟨w.heap.size,0,none⟩) 512 512] rfl (src_row (rr_base L7.out (Nat.zero_le _)) (by intro u hu;simp at hu;subst hu;rfl)) (by omega) ?_;intro a8 c8 w8 ho hg ha;have st:=fr_grown hg;have hE:∀ b,(Value.slice aN L cN).ownBlock=some b→b≠r∧(b<w.heap.size→(fun b=>(Value.slice aN L cN).ownBlock=some b∨(Value.slice aC L cC).ownBlock=some b) b):=fun b hb=>⟨HNR.out.1 b hb,fun _=>Or.inl hb⟩;have N8:=hid ho;have D8:=own_from (B:=w.heap.size) (n:=(L+1)) (c:=c8) ha X.out.fr.size;replace CR:=rn CR NR st;replace P6:=rn P6 NR st;replace L13:=rn L13 NR st;have hR:=S12.fr hHeld st (fun h=>(hE r h).1 rfl);replace X:=hid (X.out.move st hE);clear ho hg ha st hE
   refine hK.out _ _ hR (fun hHeld=>?_)
   clear hK K
   (try simp only [Act.put,sA,sZ,sS])
   refine gk1 14 (fun K hK=>?_)
   refine Dsk.step_app rfl (.tmp 27) (.tmp 28) el30 rfl (Value.slice aC L cC) L (bv cc) rfl (rr_base CR.out (Nat.zero_le _)) (some ⟨w.heap.size+1,0,none⟩) 1 1 [.bool true] rfl (src_row (rr_base L13.out (Nat.zero_le _)) (by intro u hu;simp at hu;subst hu;rfl)) (by omega) ?_;intro a14 c14 w14 ho hg ha;have st:=fr_grown hg;have hE:∀ b,(Value.slice aC L cC).ownBlock=some b→b≠r∧(b<w.heap.size→(fun b=>(Value.slice aN L cN).ownBlock=some b∨(Value.slice aC L cC).ownBlock=some b) b):=fun b hb=>⟨HNR.out.2 b hb,fun _=>Or.inr hb⟩;have N14:=hid ho;have D14:=own_from (B:=w.heap.size) (n:=(L+1)) (c:=c14) ha X.out.fr.size;replace P6:=rn P6 CR st;replace N8:=rn N8 CR st;have hR:=S12.fr hHeld st (fun h=>(hE r h).1 rfl);replace X:=hid (X.out.move st hE);clear ho hg ha st hE
   refine hK.out _ _ hR (fun hHeld=>?_)
   clear hK K
   (try simp only [Act.put,sA,sZ,sS])
   refine gkp 15 ?_
   refine gkp 16 ?_
   have k1:w14.cell? ⟨r,1,none⟩=some _:=(X.out.cell 1).trans rfl
   have k2:w14.cell? ⟨r,2,none⟩=some _:=(X.out.cell 2).trans rfl
   have f1:=X.out.frozen 1
   have f2:=X.out.frozen 2
   refine gkl 17 (fun K hK=>?_)
   go_simp
   refine hK.out _ _ ?_
   clear hK K
   (try simp only [Act.put,sA,sZ,sS])
   refine gkp 18 ?_
   refine gkp 19 ?_
   refine gkl 20 (fun K hK=>?_)
   go_simp
   refine hK.out _ _ ?_
   clear hK K
   (try simp only [Act.put,sA,sZ,sS])
   refine wpAnyK_done (by kernel_rfl) ?_ _
   clear hHeld hR
   go_wp2
   go_ret2
   exact ⟨rfl,FIN.out _ _ _ _ _ () () X.out P6.out N8.out N14.out D8.out D14.out rfl⟩
  exact AllReadyK.nil
 refine AllReadyK.cons (op_at _ 13 _ rfl) (fun K hK=>?_) ?_
 ·go_simp
  have st:=fr_alloc (fun _=>False) w.drew (.cells #[.bool true] 4);replace NR:=rz NR st;replace CR:=rz CR st;have hsz:w.heap.size≤w.drew.heap.size:=X.out.fr.size;replace X:=hid (X.out.alloc (.cells #[.bool true] 4));have hR:=S12.fr hHeld st (fun h=>h);have L13:Hid ((w.drew.alloc (.cells #[.bool true] 4)).ownsRow w.heap.size 4 1 (.slice (some ⟨w.heap.size,0,none⟩) 1 1) 1 [.bool true]):=hid (by have q:w.drew.heap.size=w.heap.size:=(by first |rfl |simp);rw [←q];exact lit_row w.drew w.heap.size [.bool true] 4 hsz (by simp));clear st hsz
  refine hK.out _ _ hR (fun hHeld=>?_)
  clear hK K
  (try simp only [Act.put,sA,sZ,sS])
  refine gk1 6 (fun K hK=>?_)
  go_simp
  have st:=fr_alloc (fun _=>False) (w.drew.alloc (.cells #[.bool true] 4)) (.cells NN 5);replace NR:=rz NR st;replace CR:=rz CR st;replace L13:=rz L13 st;have hsz:w.heap.size≤(w.drew.alloc (.cells #[.bool true] 4)).heap.size:=X.out.fr.size;replace X:=hid (X.out.alloc (.cells NN 5));have hR:=S12.fr hHeld st (fun h=>h);have P6:Hid (((w.drew.alloc (.cells #[.bool true] 4)).alloc (.cells NN 5)).ownsRow w.heap.size 5 1 (.slice (some ⟨w.heap.size+1,0,none⟩) 512 512) 512 (bs zeros)):=hid (by have q:(w.drew.alloc (.cells #[.bool true] 4)).heap.size=w.heap.size+1:=(by first |rfl |simp);rw [←q];exact noughts_row (w.drew.alloc (.cells #[.bool true] 4)) w.heap.size 512 NN HNN.out hsz (by omega));clear st hsz
  refine hK.out _ _ hR (fun hHeld=>?_)
  clear hK K
  (try simp only [Act.put,sA,sZ,sS])
  refine gk1 7 (fun K hK=>?_)
  go_simp
  have st:=fr_alloc (fun _=>False) ((w.drew.alloc (.cells #[.bool true] 4)).alloc (.cells NN 5)) (.cells #[.slice (some ⟨w.heap.size+1,0,none⟩) 512 512] 60);replace NR:=rz NR st;replace CR:=rz CR st;replace L13:=rz L13 st;replace P6:=rz P6 st;have hsz:w.heap.size≤((w.drew.alloc (.cells #[.bool true] 4)).alloc (.cells NN 5)).heap.size:=X.out.fr.size;replace X:=hid (X.out.alloc (.cells #[.slice (some ⟨w.heap.size+1,0,none⟩) 512 512] 60));have hR:=S12.fr hHeld st (fun h=>h);have L7:Hid ((((w.drew.alloc (.cells #[.bool true] 4)).alloc (.cells NN 5)).alloc (.cells #[.slice (some ⟨w.heap.size+1,0,none⟩) 512 512] 60)).ownsRow w.heap.size 60 1 (.slice (some ⟨w.heap.size+1+1,0,none⟩) 1 1) 1 [.slice (some ⟨w.heap.size+1,0,none⟩) 512 512]):=hid (by have q:((w.drew.alloc (.cells #[.bool true] 4)).alloc (.cells NN 5)).heap.size=w.heap.size+1+1:=(by first |rfl |simp);rw [←q];exact lit_row ((w.drew.alloc (.cells #[.bool true] 4)).alloc (.cells NN 5)) w.heap.size [.slice (some ⟨w.heap.size+1,0,none⟩) 512 512] 60 hsz (by simp));clear st hsz
  refine hK.out _ _ hR (fun hHeld=>?_)
  clear hK K
  (try simp only [Act.put,sA,sZ,sS])
  refine gk1 8 (fun K hK=>?_)
  refine Dsk.step_app rfl (.tmp 20) (.tmp 22) el66 rfl (Value.slice aN L cN) L vs rfl (rr_base NR.out (Nat.zero_le _)) (some ⟨w.heap.size+1+1,0,none⟩) 1 1 [.slice (some ⟨w.heap.size+1,0,none⟩) 512 512] rfl (src_row (rr_base L7.out (Nat.zero_le _)) (by intro u hu;simp at hu;subst hu;rfl)) (by omega) ?_;intro a8 c8 w8 ho hg ha;have st:=fr_grown hg;have hE:∀ b,(Value.slice aN L cN).ownBlock=some b→b≠r∧(b<w.heap.size→(fun b=>(Value.slice aN L cN).ownBlock=some b∨(Value.slice aC L cC).ownBlock=some b) b):=fun b hb=>⟨HNR.out.1 b hb,fun _=>Or.inl hb⟩;have N8:=hid ho;have D8:=own_from (B:=w.heap.size) (n:=(L+1)) (c:=c8) ha X.out.fr.size;replace CR:=rn CR NR st;replace L13:=rn L13 NR st;replace P6:=rn P6 NR st;have hR:=S12.fr hHeld st (fun h=>(hE r h).1 rfl);replace X:=hid (X.out.move st hE);clear ho hg ha st hE
  refine hK.out _ _ hR (fun hHeld=>?_)
  clear hK K
  (try simp only [Act.put,sA,sZ,sS])
  refine gk1 14 (fun K hK=>?_)
  refine Dsk.step_app rfl (.tmp 27) (.tmp 28) el30 rfl (Value.slice aC L cC) L (bv cc) rfl (rr_base CR.out (Nat.zero_le _)) (some ⟨w.heap.size,0,none⟩) 1 1 [.bool true] rfl (src_row (rr_base L13.out (Nat.zero_le _)) (by intro u hu;simp at hu;subst hu;rfl)) (by omega) ?_;intro a14 c14 w14 ho hg ha;have st:=fr_grown hg;have hE:∀ b,(Value.slice aC L cC).ownBlock=some b→b≠r∧(b<w.heap.size→(fun b=>(Value.slice aN L cN).ownBlock=some b∨(Value.slice aC L cC).ownBlock=some b) b):=fun b hb=>⟨HNR.out.2 b hb,fun _=>Or.inr hb⟩;have N14:=hid ho;have D14:=own_from (B:=w.heap.size) (n:=(L+1)) (c:=c14) ha X.out.fr.size;replace P6:=rn P6 CR st;replace N8:=rn N8 CR st;have hR:=S12.fr hHeld st (fun h=>(hE r h).1 rfl);replace X:=hid (X.out.move st hE);clear ho hg ha st hE
  refine hK.out _ _ hR (fun hHeld=>?_)
  clear hK K
  (try simp only [Act.put,sA,sZ,sS])
  refine gkp 15 ?_
  refine gkp 16 ?_
  have k1:w14.cell? ⟨r,1,none⟩=some _:=(X.out.cell 1).trans rfl
  have k2:w14.cell? ⟨r,2,none⟩=some _:=(X.out.cell 2).trans rfl
  have f1:=X.out.frozen 1
  have f2:=X.out.frozen 2
  refine gkl 17 (fun K hK=>?_)
  go_simp
  refine hK.out _ _ ?_
  clear hK K
  (try simp only [Act.put,sA,sZ,sS])
  refine gkp 18 ?_
  refine gkp 19 ?_
  refine gkl 20 (fun K hK=>?_)
  go_simp
  refine hK.out _ _ ?_
  clear hK K
  (try simp only [Act.put,sA,sZ,sS])
  refine wpAnyK_done (by kernel_rfl) ?_ _
  clear hHeld hR
  go_wp2
  go_ret2
  exact ⟨rfl,FIN.out _ _ _ _ _ () () X.out P6.out N8.out N14.out D8.out D14.out rfl⟩
 exact AllReadyK.nil
theorem rshrink_no(r:Nat)(S:Nat→Prop)(V:RV)(t:RS)(z:Int)(w:World)(h:RefP w r S V t)(hb:t.busy=false):Calls Tryz.prog 48 #[.pointer (some ⟨r,0,none⟩),.int .i64 z] w fun e w'=>e=.returned (.int .i64 6)∧w'=w:=by
 obtain ⟨_,_,_,c3,_⟩:=h.cells
 rw [hb]at c3
 clear h
 go_enter Tryz.func48,Tryz.ntmps48
 go_wp2
 go_ret
 exact ⟨rfl,rfl⟩
theorem rshrink_range(r:Nat)(S:Nat→Prop)(V:RV)(t:RS)(z:Int)(w:World)(h:RefP w r S V t)(hb:t.busy=true)(hz:z<0∨(t.now.length:Int)<z):Calls Tryz.prog 48 #[.pointer (some ⟨r,0,none⟩),.int .i64 z] w fun e w'=>e=.returned (.int .i64 11)∧w'=w:=by
 obtain ⟨_,c1,_,c3,_⟩:=h.cells
 obtain ⟨ao,cap,hv,_,_⟩:=h.now.form
 rw [hb]at c3
 rw [hv]at c1
 clear h hv
 generalize t.now.length=L at *
 by_cases h1:z<0
 ·go_enter Tryz.func48,Tryz.ntmps48
  go_wp2
  go_ret
  exact ⟨rfl,rfl⟩
 ·have h2:(L:Int)<z:=by omega
  go_enter Tryz.func48,Tryz.ntmps48
  go_wp2
  go_ret
  exact ⟨rfl,rfl⟩
theorem shrink_fin(h:RefP w r S V t)(hb:t.busy=true)(hn:n≤t.now.length){nv cv:Value}{vs:List Value}(hvs:PagesAt w S vs t.now)(X:BQ (fun b=>V.nv.ownBlock=some b∨V.cv.ownBlock=some b) w.drew r (boxL V t) w1)
  (N:w1.ownsRow 0 60 1 nv n (vs.take n)) (C:w1.ownsRow 0 4 1 cv n ((bv t.c).take n)) (bn:∀ k,nv.ownBlock=some k→w.heap.size≤k) (bc:∀ k,cv.ownBlock=some k→w.heap.size≤k) (hW:W=(w1.setCell ⟨r,1,none⟩ nv).setCell ⟨r,2,none⟩ cv):RTo w W r S (t.shrink n):=by
 have hcn:=h.cn
 have e1:(t.now.take n).length=n:=by rw [List.length_take];omega
 have e2:(t.c.take n).length=n:=by rw [List.length_take];omega
 exact turn_fin (vs:=vs.take n) h hb X (by rw [e1];exact N) (fun W' hf hs ho=>(hvs.far hf h.no5 (fun _ h=>Or.inl h)).take n) (by rw [e2];simpa [bv,List.map_take] using C) (by rw [e1,e2]) (fun k hk=>Or.inr (bn k hk)) (fun k hk=>Or.inr (bc k hk)) hW
theorem rshrink_yes(r:Nat)(S:Nat→Prop)(V:RV)(t:RS)(n:Nat)(w:World)(h:RefP w r S V t)(hb:t.busy=true)(hn:n≤t.now.length)(hl:t.now.length≤4000) :
  Calls Tryz.prog 48 #[.pointer (some ⟨r,0,none⟩),.int .i64 (n:Int)] w fun e w'=>e=.returned (.int .i64 0)∧RTo w w' r S (t.shrink n):=by
 obtain ⟨_,c1,c2,c3,_⟩:=h.cells
 rw [hb]at c3
 obtain ⟨aN,cN,hNV,hN0,hN1⟩:=h.now.form
 obtain ⟨aC,cC,hCV,hC0,hC1⟩:=row_form h.c.row
 rw [h.cn]at hCV hC0 hC1
 obtain ⟨vs,hnr,hvs⟩:=h.now.row
 have hcr:=h.c.row
 rw [h.cn]at hcr
 have HNR:Hid ((∀ b,(Value.slice aN t.now.length cN).ownBlock=some b→b≠r)∧∀ b,(Value.slice aC t.now.length cC).ownBlock=some b→b≠r):=hid ⟨fun b hb e=>h.nr (h.now.own r (by rw [hNV,←e];exact hb)),fun b hb e=>h.nr (h.c.own r (by rw [hCV,←e];exact hb))⟩
 have hX:BQ (fun b=>V.nv.ownBlock=some b∨V.cv.ownBlock=some b) w.drew r (boxL V t) w.drew:=h.bq
 have FIN:=hid (fun w1 W nv cv X N C bn bc hW=>shrink_fin (w1:=w1) (W:=W) (nv:=nv) (cv:=cv) h hb hn hvs X N C bn bc hW)
 rw [hNV]at c1 hnr FIN hX;rw [hCV]at c2 hcr FIN hX
 simp only [boxL]at FIN hX
 rw [hNV,hCV]at FIN hX
 have X:=hid hX
 have HV1:=hid hvs.one
 have NR:=hid (rr_fr (E:=fun _=>False) (w':=w.drew) hnr ⟨rfl,rfl,rfl,Nat.le_refl _,fun _ _ _=>rfl⟩ (fun _ _ h=>h));have CR:=hid (rr_fr (E:=fun _=>False) (w':=w.drew) hcr ⟨rfl,rfl,rfl,Nat.le_refl _,fun _ _ _=>rfl⟩ (fun _ _ h=>h));have HRL:=hid h.rlt
 generalize t.c=cc at *
 clear h hb hNV hCV hnr hcr hvs hX
 generalize t.now.length=L at *
 have hcN:n≤cN:=by
  cases aN with
  | none=>have:=hN0 rfl;omega
  | some a=>have:=(hN1 a rfl).2.1;omega
 have hcC:n≤cC:=by
  cases aC with
  | none=>have:=hC0 rfl;omega
  | some a=>have:=(hC1 a rfl).2.1;omega
 have HNL:=hid hn
 clear hN0 hN1 hC0 hC1
 have n1:¬(n:Int)<0:=by omega
 have n2:¬(L:Int)<(n:Int):=by omega
 go_enter Tryz.func48,Tryz.ntmps48
 go_upto_region 5 with fail
 refine wp_region_K (S:=S12 r (.slice (aN) L cN) (.slice (aC) L cC)) (fun i=>i == 20||i == 23) (by kernel_rfl) (⟨c1,c2⟩) (fun hHeld=>?_)
 refine gkp 0 ?_
 refine gkp 1 ?_
 refine gkp 3 ?_
 refine gkp 4 ?_
 refine gkp 5 ?_
 refine gkt 6 ?_ (h:=by intro W hSw;obtain ⟨k1,k2⟩:=hSw;go_simp;first |done |with_reducible rfl)
 refine gkp 7 ?_
 refine gkp 8 ?_
 refine gkp 11 ?_
 refine gkp 12 ?_
 refine gkp 13 ?_
 refine gkt 14 ?_ (h:=by intro W hSw;obtain ⟨k1,k2⟩:=hSw;go_simp;first |done |with_reducible rfl)
 refine gkp 15 ?_
 refine gkp 16 ?_
 refine wpAnyK_ready (rs:=[2,10]) (by kernel_rfl) (by simp) ?_
 refine AllReadyK.cons (op_at _ 2 _ rfl) (fun K hK=>?_) ?_
 ·go_simp
  have st:=fr_alloc (fun _=>False) w.drew (.cells #[] 60);replace NR:=rz NR st;replace CR:=rz CR st;have hsz:w.heap.size≤w.drew.heap.size:=X.out.fr.size;replace X:=hid (X.out.alloc (.cells #[] 60));have hR:=S12.fr hHeld st (fun h=>h);have E2:Hid ((w.drew.alloc (.cells #[] 60)).ownsRow w.heap.size 60 1 (.slice (some ⟨w.heap.size,0,none⟩) 0 0) 0 []):=hid (by have q:w.drew.heap.size=w.heap.size:=(by first |rfl |simp);rw [←q];exact World.ownsRow_made w.drew #[] 0 hsz (by decide) rfl);clear st hsz
  refine hK.out _ _ hR (fun hHeld=>?_)
  clear hK K
  (try simp only [Act.put,sA,sZ,sS])
  refine wpAnyK_ready (rs:=[9,10]) (by kernel_rfl) (by simp) ?_
  refine AllReadyK.cons (op_at _ 9 _ rfl) (fun K hK=>?_) ?_
  ·refine Dsk.step_app rfl (.tmp 25) (.tmp 31) el66 rfl (Value.slice (some ⟨w.heap.size,0,none⟩) 0 0) 0 [] rfl (rr_base E2.out (Nat.zero_le _)) aN n cN (vs.take n) rfl (src_take (src_row NR.out HV1.out) HNL.out) (by omega) ?_;simp only [Nat.zero_add,List.nil_append];intro a9 c9 w9 ho hg ha;have st:=fr_grown hg;have hE:∀ b,(Value.slice (some ⟨w.heap.size,0,none⟩) 0 0).ownBlock=some b→b≠r∧(b<w.heap.size→(fun b=>(Value.slice (aN) L cN).ownBlock=some b∨(Value.slice (aC) L cC).ownBlock=some b) b):=fun b hb=>⟨fun e=>(by have h8:=(rr_blk E2.out hb).1;have h9:=HRL.out;omega),fun h=>(by have h8:=(rr_blk E2.out hb).1;have h9:w.drew.heap.size=w.heap.size:=rfl;omega)⟩;have N9:=hid ho;have D9:Hid (∀ k,(Value.slice a9 (n) c9).ownBlock=some k→w.heap.size≤k):=hid (fun k hk=>(by cases a9 with |none=>cases hk |some a=>(cases hk;rcases ha a rfl with h |h;exact (rr_blk E2.out h).1;(rw [h];exact X.out.fr.size))));replace CR:=rn CR E2 st;have hR:=S12.fr hHeld st (fun h=>(hE r h).1 rfl);replace X:=hid (X.out.move st hE);clear ho hg ha st hE
   refine hK.out _ _ hR (fun hHeld=>?_)
   clear hK K
   (try simp only [Act.put,sA,sZ,sS])
   refine gk1 10 (fun K hK=>?_)
   go_simp
   have st:=fr_alloc (fun _=>False) w9 (.cells #[] 4);replace CR:=rz CR st;replace N9:=rz N9 st;have hsz:w.heap.size≤w9.heap.size:=X.out.fr.size;replace X:=hid (X.out.alloc (.cells #[] 4));have hR:=S12.fr hHeld st (fun h=>h);have E10:Hid ((w9.alloc (.cells #[] 4)).ownsRow w.heap.size 4 1 (.slice (some ⟨w9.heap.size,0,none⟩) 0 0) 0 []):=hid (by have q:w9.heap.size=w9.heap.size:=(by first |rfl |simp);rw [←q];exact World.ownsRow_made w9 #[] 0 hsz (by decide) rfl);clear st hsz
   refine hK.out _ _ hR (fun hHeld=>?_)
   clear hK K
   (try simp only [Act.put,sA,sZ,sS])
   refine gk1 17 (fun K hK=>?_)
   refine Dsk.step_app rfl (.tmp 33) (.tmp 39) el30 rfl (Value.slice (some ⟨w9.heap.size,0,none⟩) 0 0) 0 [] rfl (rr_base E10.out (Nat.zero_le _)) aC n cC ((bv cc).take n) rfl (src_take (src_row CR.out (bv_one _)) HNL.out) (by omega) ?_;simp only [Nat.zero_add,List.nil_append];intro a17 c17 w17 ho hg ha;have st:=fr_grown hg;have hE:∀ b,(Value.slice (some ⟨w9.heap.size,0,none⟩) 0 0).ownBlock=some b→b≠r∧(b<w.heap.size→(fun b=>(Value.slice (aN) L cN).ownBlock=some b∨(Value.slice (aC) L cC).ownBlock=some b) b):=fun b hb=>⟨fun e=>(by have h8:=(rr_blk E10.out hb).1;have h9:=HRL.out;omega),fun h=>(by have h8:=(rr_blk E10.out hb).1;have h9:w.drew.heap.size=w.heap.size:=rfl;omega)⟩;have N17:=hid ho;have D17:Hid (∀ k,(Value.slice a17 (n) c17).ownBlock=some k→w.heap.size≤k):=hid (fun k hk=>(by cases a17 with |none=>cases hk |some a=>(cases hk;rcases ha a rfl with h |h;exact (rr_blk E10.out h).1;(rw [h];exact X.out.fr.size))));replace N9:=rn N9 E10 st;have hR:=S12.fr hHeld st (fun h=>(hE r h).1 rfl);replace X:=hid (X.out.move st hE);clear ho hg ha st hE
   refine hK.out _ _ hR (fun hHeld=>?_)
   clear hK K
   (try simp only [Act.put,sA,sZ,sS])
   refine gkp 18 ?_
   refine gkp 19 ?_
   have k1:w17.cell? ⟨r,1,none⟩=some _:=(X.out.cell 1).trans rfl
   have k2:w17.cell? ⟨r,2,none⟩=some _:=(X.out.cell 2).trans rfl
   have f1:=X.out.frozen 1
   have f2:=X.out.frozen 2
   refine gkl 20 (fun K hK=>?_)
   go_simp
   refine hK.out _ _ ?_
   clear hK K
   (try simp only [Act.put,sA,sZ,sS])
   refine gkp 21 ?_
   refine gkp 22 ?_
   refine gkl 23 (fun K hK=>?_)
   go_simp
   refine hK.out _ _ ?_
   clear hK K
   (try simp only [Act.put,sA,sZ,sS])
   refine wpAnyK_done (by kernel_rfl) ?_ _
   clear hHeld hR
   go_wp2
   go_ret
   exact ⟨rfl,FIN.out _ _ _ _ X.out N9.out N17.out D9.out D17.out rfl⟩
  refine AllReadyK.cons (op_at _ 10 _ rfl) (fun K hK=>?_) ?_
  ·go_simp
   have st:=fr_alloc (fun _=>False) (w.drew.alloc (.cells #[] 60)) (.cells #[] 4);replace NR:=rz NR st;replace CR:=rz CR st;replace E2:=rz E2 st;have hsz:w.heap.size≤(w.drew.alloc (.cells #[] 60)).heap.size:=X.out.fr.size;replace X:=hid (X.out.alloc (.cells #[] 4));have hR:=S12.fr hHeld st (fun h=>h);have E10:Hid (((w.drew.alloc (.cells #[] 60)).alloc (.cells #[] 4)).ownsRow w.heap.size 4 1 (.slice (some ⟨w.heap.size+1,0,none⟩) 0 0) 0 []):=hid (by have q:(w.drew.alloc (.cells #[] 60)).heap.size=w.heap.size+1:=(by first |rfl |simp);rw [←q];exact World.ownsRow_made (w.drew.alloc (.cells #[] 60)) #[] 0 hsz (by decide) rfl);clear st hsz
   refine hK.out _ _ hR (fun hHeld=>?_)
   clear hK K
   (try simp only [Act.put,sA,sZ,sS])
   refine gk1 9 (fun K hK=>?_)
   refine Dsk.step_app rfl (.tmp 25) (.tmp 31) el66 rfl (Value.slice (some ⟨w.heap.size,0,none⟩) 0 0) 0 [] rfl (rr_base E2.out (Nat.zero_le _)) aN n cN (vs.take n) rfl (src_take (src_row NR.out HV1.out) HNL.out) (by omega) ?_;simp only [Nat.zero_add,List.nil_append];intro a9 c9 w9 ho hg ha;have st:=fr_grown hg;have hE:∀ b,(Value.slice (some ⟨w.heap.size,0,none⟩) 0 0).ownBlock=some b→b≠r∧(b<w.heap.size→(fun b=>(Value.slice (aN) L cN).ownBlock=some b∨(Value.slice (aC) L cC).ownBlock=some b) b):=fun b hb=>⟨fun e=>(by have h8:=(rr_blk E2.out hb).1;have h9:=HRL.out;omega),fun h=>(by have h8:=(rr_blk E2.out hb).1;have h9:w.drew.heap.size=w.heap.size:=rfl;omega)⟩;have N9:=hid ho;have D9:Hid (∀ k,(Value.slice a9 (n) c9).ownBlock=some k→w.heap.size≤k):=hid (fun k hk=>(by cases a9 with |none=>cases hk |some a=>(cases hk;rcases ha a rfl with h |h;exact (rr_blk E2.out h).1;(rw [h];exact X.out.fr.size))));replace CR:=rn CR E2 st;replace E10:=rn E10 E2 st;have hR:=S12.fr hHeld st (fun h=>(hE r h).1 rfl);replace X:=hid (X.out.move st hE);clear ho hg ha st hE
   refine hK.out _ _ hR (fun hHeld=>?_)
   clear hK K
   (try simp only [Act.put,sA,sZ,sS])
   refine gk1 17 (fun K hK=>?_)
   refine Dsk.step_app rfl (.tmp 33) (.tmp 39) el30 rfl (Value.slice (some ⟨w.heap.size+1,0,none⟩) 0 0) 0 [] rfl (rr_base E10.out (Nat.zero_le _)) aC n cC ((bv cc).take n) rfl (src_take (src_row CR.out (bv_one _)) HNL.out) (by omega) ?_;simp only [Nat.zero_add,List.nil_append];intro a17 c17 w17 ho hg ha;have st:=fr_grown hg;have hE:∀ b,(Value.slice (some ⟨w.heap.size+1,0,none⟩) 0 0).ownBlock=some b→b≠r∧(b<w.heap.size→(fun b=>(Value.slice (aN) L cN).ownBlock=some b∨(Value.slice (aC) L cC).ownBlock=some b) b):=fun b hb=>⟨fun e=>(by have h8:=(rr_blk E10.out hb).1;have h9:=HRL.out;omega),fun h=>(by have h8:=(rr_blk E10.out hb).1;have h9:w.drew.heap.size=w.heap.size:=rfl;omega)⟩;have N17:=hid ho;have D17:Hid (∀ k,(Value.slice a17 (n) c17).ownBlock=some k→w.heap.size≤k):=hid (fun k hk=>(by cases a17 with |none=>cases hk |some a=>(cases hk;rcases ha a rfl with h |h;exact (rr_blk E10.out h).1;(rw [h];exact X.out.fr.size))));replace N9:=rn N9 E10 st;have hR:=S12.fr hHeld st (fun h=>(hE r h).1 rfl);replace X:=hid (X.out.move st hE);clear ho hg ha st hE
   refine hK.out _ _ hR (fun hHeld=>?_)
   clear hK K
   (try simp only [Act.put,sA,sZ,sS])
   refine gkp 18 ?_
   refine gkp 19 ?_
   have k1:w17.cell? ⟨r,1,none⟩=some _:=(X.out.cell 1).trans rfl
   have k2:w17.cell? ⟨r,2,none⟩=some _:=(X.out.cell 2).trans rfl
   have f1:=X.out.frozen 1
   have f2:=X.out.frozen 2
   refine gkl 20 (fun K hK=>?_)
   go_simp
   refine hK.out _ _ ?_
   clear hK K
   (try simp only [Act.put,sA,sZ,sS])
   refine gkp 21 ?_
   refine gkp 22 ?_
   refine gkl 23 (fun K hK=>?_)
   go_simp
   refine hK.out _ _ ?_
   clear hK K
   (try simp only [Act.put,sA,sZ,sS])
   refine wpAnyK_done (by kernel_rfl) ?_ _
   clear hHeld hR
   go_wp2
   go_ret
   exact ⟨rfl,FIN.out _ _ _ _ X.out N9.out N17.out D9.out D17.out rfl⟩
  exact AllReadyK.nil
 refine AllReadyK.cons (op_at _ 10 _ rfl) (fun K hK=>?_) ?_
 ·go_simp
  have st:=fr_alloc (fun _=>False) w.drew (.cells #[] 4);replace NR:=rz NR st;replace CR:=rz CR st;have hsz:w.heap.size≤w.drew.heap.size:=X.out.fr.size;replace X:=hid (X.out.alloc (.cells #[] 4));have hR:=S12.fr hHeld st (fun h=>h);have E10:Hid ((w.drew.alloc (.cells #[] 4)).ownsRow w.heap.size 4 1 (.slice (some ⟨w.heap.size,0,none⟩) 0 0) 0 []):=hid (by have q:w.drew.heap.size=w.heap.size:=(by first |rfl |simp);rw [←q];exact World.ownsRow_made w.drew #[] 0 hsz (by decide) rfl);clear st hsz
  refine hK.out _ _ hR (fun hHeld=>?_)
  clear hK K
  (try simp only [Act.put,sA,sZ,sS])
  refine gk1 2 (fun K hK=>?_)
  go_simp
  have st:=fr_alloc (fun _=>False) (w.drew.alloc (.cells #[] 4)) (.cells #[] 60);replace NR:=rz NR st;replace CR:=rz CR st;replace E10:=rz E10 st;have hsz:w.heap.size≤(w.drew.alloc (.cells #[] 4)).heap.size:=X.out.fr.size;replace X:=hid (X.out.alloc (.cells #[] 60));have hR:=S12.fr hHeld st (fun h=>h);have E2:Hid (((w.drew.alloc (.cells #[] 4)).alloc (.cells #[] 60)).ownsRow w.heap.size 60 1 (.slice (some ⟨w.heap.size+1,0,none⟩) 0 0) 0 []):=hid (by have q:(w.drew.alloc (.cells #[] 4)).heap.size=w.heap.size+1:=(by first |rfl |simp);rw [←q];exact World.ownsRow_made (w.drew.alloc (.cells #[] 4)) #[] 0 hsz (by decide) rfl);clear st hsz
  refine hK.out _ _ hR (fun hHeld=>?_)
  clear hK K
  (try simp only [Act.put,sA,sZ,sS])
  refine gk1 9 (fun K hK=>?_)
  refine Dsk.step_app rfl (.tmp 25) (.tmp 31) el66 rfl (Value.slice (some ⟨w.heap.size+1,0,none⟩) 0 0) 0 [] rfl (rr_base E2.out (Nat.zero_le _)) aN n cN (vs.take n) rfl (src_take (src_row NR.out HV1.out) HNL.out) (by omega) ?_;simp only [Nat.zero_add,List.nil_append];intro a9 c9 w9 ho hg ha;have st:=fr_grown hg;have hE:∀ b,(Value.slice (some ⟨w.heap.size+1,0,none⟩) 0 0).ownBlock=some b→b≠r∧(b<w.heap.size→(fun b=>(Value.slice (aN) L cN).ownBlock=some b∨(Value.slice (aC) L cC).ownBlock=some b) b):=fun b hb=>⟨fun e=>(by have h8:=(rr_blk E2.out hb).1;have h9:=HRL.out;omega),fun h=>(by have h8:=(rr_blk E2.out hb).1;have h9:w.drew.heap.size=w.heap.size:=rfl;omega)⟩;have N9:=hid ho;have D9:Hid (∀ k,(Value.slice a9 (n) c9).ownBlock=some k→w.heap.size≤k):=hid (fun k hk=>(by cases a9 with |none=>cases hk |some a=>(cases hk;rcases ha a rfl with h |h;exact (rr_blk E2.out h).1;(rw [h];exact X.out.fr.size))));replace CR:=rn CR E2 st;replace E10:=rn E10 E2 st;have hR:=S12.fr hHeld st (fun h=>(hE r h).1 rfl);replace X:=hid (X.out.move st hE);clear ho hg ha st hE
  refine hK.out _ _ hR (fun hHeld=>?_)
  clear hK K
  (try simp only [Act.put,sA,sZ,sS])
  refine gk1 17 (fun K hK=>?_)
  refine Dsk.step_app rfl (.tmp 33) (.tmp 39) el30 rfl (Value.slice (some ⟨w.heap.size,0,none⟩) 0 0) 0 [] rfl (rr_base E10.out (Nat.zero_le _)) aC n cC ((bv cc).take n) rfl (src_take (src_row CR.out (bv_one _)) HNL.out) (by omega) ?_;simp only [Nat.zero_add,List.nil_append];intro a17 c17 w17 ho hg ha;have st:=fr_grown hg;have hE:∀ b,(Value.slice (some ⟨w.heap.size,0,none⟩) 0 0).ownBlock=some b→b≠r∧(b<w.heap.size→(fun b=>(Value.slice (aN) L cN).ownBlock=some b∨(Value.slice (aC) L cC).ownBlock=some b) b):=fun b hb=>⟨fun e=>(by have h8:=(rr_blk E10.out hb).1;have h9:=HRL.out;omega),fun h=>(by have h8:=(rr_blk E10.out hb).1;have h9:w.drew.heap.size=w.heap.size:=rfl;omega)⟩;have N17:=hid ho;have D17:Hid (∀ k,(Value.slice a17 (n) c17).ownBlock=some k→w.heap.size≤k):=hid (fun k hk=>(by cases a17 with |none=>cases hk |some a=>(cases hk;rcases ha a rfl with h |h;exact (rr_blk E10.out h).1;(rw [h];exact X.out.fr.size))));replace N9:=rn N9 E10 st;have hR:=S12.fr hHeld st (fun h=>(hE r h).1 rfl);replace X:=hid (X.out.move st hE);clear ho hg ha st hE
  refine hK.out _ _ hR (fun hHeld=>?_)
  clear hK K
  (try simp only [Act.put,sA,sZ,sS])
  refine gkp 18 ?_
  refine gkp 19 ?_
  have k1:w17.cell? ⟨r,1,none⟩=some _:=(X.out.cell 1).trans rfl
  have k2:w17.cell? ⟨r,2,none⟩=some _:=(X.out.cell 2).trans rfl
  have f1:=X.out.frozen 1
  have f2:=X.out.frozen 2
  refine gkl 20 (fun K hK=>?_)
  go_simp
  refine hK.out _ _ ?_
  clear hK K
  (try simp only [Act.put,sA,sZ,sS])
  refine gkp 21 ?_
  refine gkp 22 ?_
  refine gkl 23 (fun K hK=>?_)
  go_simp
  refine hK.out _ _ ?_
  clear hK K
  (try simp only [Act.put,sA,sZ,sS])
  refine wpAnyK_done (by kernel_rfl) ?_ _
  clear hHeld hR
  go_wp2
  go_ret
  exact ⟨rfl,FIN.out _ _ _ _ X.out N9.out N17.out D9.out D17.out rfl⟩
 exact AllReadyK.nil
end
end Go.Proofs.YtadhdedjdgjboaaGreatDoor
