/- The document's pager: Mark; no statement of the seat is proved here. -/
import Derived.Test.YtadhdedjdgjboaaGreatDoorH35
import Derived.Test.YtadhdedjdgjboaaGreatDoorH17
set_option maxHeartbeats 16000000
set_option maxRecDepth 20000
namespace Go.Proofs.YtadhdedjdgjboaaGreatDoor
section
open Go.RowKit Go.Maps
open Dsk (gt hid undrew keep_old keep_cell lt_cell Rd bs bs_length bs_one own_lt own_ne own_set own_later El row_form src_row el37 el66 el30 op_at)
open Cch (Fr wpAnyK wpAnyK_take wpAnyK_pure wpAnyK_ready wpAnyK_done wp_region_K AllReadyK.cons AllReadyK.nil AllReadyK.late)
def E4(r:Nat)(V:RV):Nat→Prop:=fun b=>b=r∨V.mv.ownBlock=some b
variable {t:RS} {V:RV} {S:Nat→Prop} {r:Nat} {w:World}
theorem RefP.e4(h:RefP w r S V t):No5 (E4 r V) w:=fun k cur hk he=>by
 rcases he with rfl |he
 ·rw [h.box]at hk;simp at hk
 ·obtain ⟨c2,h2⟩:=rr_kind h.mrow he
  rw [hk]at h2;simp at h2
theorem RefP.e4l(h:RefP w r S V t){v:Value}{l:List Pg}(hl:LAt w S v l):∀ k,v.ownBlock=some k→¬E4 r V k:=fun k hk he=>by
 rcases he with rfl |he
 ·exact h.nr (hl.own k hk)
 ·obtain ⟨vs,hr,_⟩:=hl.row
  exact rr_ne hr h.mrow (by decide) hk he rfl
theorem RefP.e4b(h:RefP w r S V t){v:Value}{c:List Bool}(hl:BAt w S v c):∀ k,v.ownBlock=some k→¬E4 r V k:=fun k hk he=>by
 rcases he with rfl |he
 ·exact h.nr (hl.own k hk)
 ·exact rr_ne hl.row h.mrow (by decide) hk he rfl
def RS.mark(t:RS):RS:={ t with last:=t.last+1,marks:=t.marks++[⟨t.last+1,t.now,t.c⟩] }
variable {W:World}
theorem mark_fin{w1:World}(h:RefP w r S V t)(hb:t.busy=true){nv cv mv:Value}{vs:List Value}(hvs:PagesAt w S vs t.now)
  (X:BQ (fun b=>V.mv.ownBlock=some b) w.drew r [V.sv,V.nv,V.cv,.bool t.busy,V.mv,.int .i64 ((t.last+1:Nat):Int),.int .i64 (t.n:Int)] w1)
  (N:w1.ownsRow 0 60 1 nv t.now.length vs) (C:w1.ownsRow 0 4 1 cv t.now.length (bv t.c)) (bn:∀ k,nv.ownBlock=some k→w.heap.size≤k) (bc:∀ k,cv.ownBlock=some k→w.heap.size≤k)
  (R:w1.ownsRow 0 129 3 mv (t.marks.length+1) (mcells t.marks V.ml++[.int .i64 ((t.last+1:Nat):Int),nv,cv])) (bm:∀ k,mv.ownBlock=some k→V.mv.ownBlock=some k∨w.heap.size≤k)
  (hW:W=w1.setCell ⟨r,4,none⟩ mv):RTo w W r S t.mark:=by
 have X2:=X.set 4 mv
 rw [←hW]at X2
 have hrl:=h.rlt
 have fr1:Fr (E4 r V) w W:=⟨X2.fr.os,X2.fr.tape,X2.fr.output,X2.fr.size,fun k hk hn=>X2.fr.blk k hk hn⟩
 have f2:Fr (fun k=>k=r) w1 W:=by rw [hW];exact fr_setb w1 r 4 mv
 have hmr:∀ k,mv.ownBlock=some k→k≠r:=fun k hk e=>by
  subst e
  rcases bm k hk with h1 |h1
  ·exact h.nr (h.mown k h1)
  ·omega
 have N2:=rr_fr N f2 (fun k hk e=>by have:=bn k hk;omega)
 have C2:=rr_fr C f2 (fun k hk e=>by have:=bc k hk;omega)
 have R2:=rr_fr R f2 hmr
 have hi:∀ k,S k→New S w W k:=fun _ h=>Or.inl h
 have ha:=h.ap hb
 have hnew:LAt W (New S w W) nv t.now∧BAt W (New S w W) cv t.c:=⟨⟨⟨vs,N2,hvs.far fr1 h.e4 hi⟩,fun k hk=>Or.inr ⟨bn k hk,(rr_blk N2 hk).2⟩⟩,⟨by rw [h.cn];exact C2,fun k hk=>Or.inr ⟨bc k hk,(rr_blk C2 hk).2⟩⟩⟩
 have hml:=h.mlen
 refine ⟨⟨New S w W,{ V with mv:=mv,ml:=V.ml++[(nv,cv)] },⟨?_,h.new_nr,h.new_lt fr1.size,h.sure.far fr1 h.e4 (h.e4l h.sure) hi,h.now.far fr1 h.e4 (h.e4l h.now) hi,h.c.far fr1 (h.e4b h.c) hi,h.cn,?_,fun k hk=>?_,by simp [RS.mark,hml],fun i m v hm hv=>?_,fun _=>⟨fun k hk=>⟨(ha.1 k hk).1,fun v hv e=>?_⟩,fun k hk v hv e=>?_⟩⟩,fun k hk=>?_⟩,⟨fr1.os,fr1.tape,fr1.output,fr1.size,fun k hk hn=>fr1.blk k hk (fun e=>?_)⟩⟩
 ·have:=X2.box
  exact this
 ·have e:t.mark.marks.length=t.marks.length+1:=by simp [RS.mark]
  rw [e]
  show W.ownsRow 0 129 3 mv (t.marks.length+1) (mcells (t.marks++[⟨t.last+1,t.now,t.c⟩]) (V.ml++[(nv,cv)]))
  rw [mcells_snoc _ _ _ _ hml];exact R2
 ·rcases bm k hk with h1 |h1
  ·exact hi k (h.mown k h1)
  ·exact Or.inr ⟨h1,(rr_blk R2 hk).2⟩
 ·simp only [RS.mark]at hm
  rcases Nat.lt_trichotomy i t.marks.length with h1 |h1 |h1
  ·rw [List.getElem?_append_left h1]at hm;rw [List.getElem?_append_left (by omega)]at hv
   have hm2:=h.each i m v hm hv
   exact ⟨hm2.1.far fr1 h.e4 (h.e4l hm2.1) hi,hm2.2.far fr1 (h.e4b hm2.2) hi⟩
  ·subst h1
   rw [List.getElem?_append_right (Nat.le_refl _)]at hm;rw [List.getElem?_append_right (by omega),hml]at hv
   simp at hm hv;subst hm;subst hv;exact hnew
  ·rw [List.getElem?_eq_none (by simp;omega)]at hm;cases hm
 ·rcases List.mem_append.1 hv with hv |hv
  ·exact (ha.1 k hk).2 v hv e
  ·simp at hv;subst hv
   have h1:=bn k e
   have:=h.lt k (h.now.own k hk);omega
 ·rcases List.mem_append.1 hv with hv |hv
  ·exact ha.2 k hk v hv e
  ·simp at hv;subst hv
   have h1:=bc k e
   have:=h.lt k (h.c.own k hk);omega
 ·rcases hk with hk |hk
  ·exact Or.inl hk
  ·exact Or.inr hk.1
 ·rcases e with e |e
  ·exact hn (Or.inl e)
  ·exact hn (Or.inr (h.mown k e))
theorem rmark_no(r:Nat)(S:Nat→Prop)(V:RV)(t:RS)(w:World)(h:RefP w r S V t)(hb:t.busy=false):Calls Tryz.prog 49 #[.pointer (some ⟨r,0,none⟩)] w fun e w'=>e=.returned (.tuple #[.int .i64 0,.int .i64 6])∧w'=w:=by
 obtain ⟨_,_,_,c3,_⟩:=h.cells
 rw [hb]at c3
 clear h
 go_enter Tryz.func49,Tryz.ntmps49
 go_wp2
 go_ret2
 exact ⟨rfl,rfl⟩
abbrev SM(r:Nat)(nv cv mv:Value)(l:Nat)(W:World):Prop:=W.cell? ⟨r,1,none⟩=some nv∧W.cell? ⟨r,2,none⟩=some cv∧W.cell? ⟨r,4,none⟩=some mv∧W.cell? ⟨r,5,none⟩=some (.int .i64 (l:Int))
theorem SM.fr{E:Nat→Prop}{nv cv mv:Value}{l:Nat}{W':World}(h:SM r nv cv mv l W)(hf:Fr E W W')(hr:¬E r):SM r nv cv mv l W':=
 have k:=fun {i v} (hc:W.cell? ⟨r,i,none⟩=some v)=>(World.cell?_of_block (hf.blk r (lt_cell h.1) hr)).trans hc
 ⟨k h.1,k h.2.1,k h.2.2.1,k h.2.2.2⟩
theorem rmark_yes(r:Nat)(S:Nat→Prop)(V:RV)(t:RS)(w:World)(h:RefP w r S V t)(hb:t.busy=true)(hl:t.now.length≤4000)(hm:t.marks.length≤1000)(hla:t.last≤1000000) :
  Calls Tryz.prog 49 #[.pointer (some ⟨r,0,none⟩)] w fun e w'=>e=.returned (.tuple #[.int .i64 ((t.last+1:Nat):Int),.int .i64 0])∧RTo w w' r S t.mark:=by
 obtain ⟨_,c1,c2,c3,c4,c5,_⟩:=h.cells
 rw [hb]at c3
 have f5:=h.frozen 5
 obtain ⟨aN,cN,hNV,_,_⟩:=h.now.form
 obtain ⟨aC,cC,hCV,_,_⟩:=row_form h.c.row
 rw [h.cn]at hCV
 obtain ⟨aM,cM,hMV,_,_⟩:=row_form3 h.mrow
 obtain ⟨vs,hnr,hvs⟩:=h.now.row
 have hcr:=h.c.row
 rw [h.cn]at hcr
 have hmr:=h.mrow
 have HMR:Hid (∀ b,(Value.slice aM t.marks.length cM).ownBlock=some b→b≠r):=hid (fun b hb e=>h.nr (h.mown r (by rw [hMV,←e];exact hb)))
 obtain ⟨l1,hl1⟩:∃ l1,l1=t.last+1:=⟨_,rfl⟩
 have e1:IntKind.i64.wrap ((t.last:Int)+1)=(l1:Int):=by rw [IntWalk.i64_in _ ⟨by omega,by omega⟩];omega
 obtain ⟨w0,hw0⟩:∃ w0,w0=w.setCell ⟨r,5,none⟩ (.int .i64 (l1:Int)):=⟨_,rfl⟩
 have f0:Fr (fun k=>k=r) w w0:=by rw [hw0];exact fr_setb _ _ _ _
 have hX:BQ (fun b=>V.mv.ownBlock=some b) w.drew r [V.sv,V.nv,V.cv,.bool t.busy,V.mv,.int .i64 (l1:Int),.int .i64 (t.n:Int)] w0.drew:=by
  have:=(h.bq (Q:=fun b=>V.mv.ownBlock=some b)).set 5 (.int .i64 (l1:Int))
  refine ⟨⟨?_,?_,?_,?_,?_⟩,this.lt,?_⟩
  ·rw [hw0];rfl
  ·rw [hw0];rfl
  ·rw [hw0];rfl
  ·rw [hw0];exact this.fr.size
  ·rw [hw0];exact this.fr.blk
  ·rw [hw0];exact this.box
 have FIN:=hid (fun w1 W nv cv mv X N C bn bc R bm hW=>mark_fin (w1:=w1) (W:=W) (nv:=nv) (cv:=cv) (mv:=mv) h hb hvs X N C bn bc R bm hW)
 rw [←hl1]at FIN ⊢
 have hone:=h.one
 have b0:∀ {B n sz:Nat} {e:TypeId} {v:Value} {xs:List Value},w.ownsRow B e sz v n xs→(∀ k,v.ownBlock=some k→¬k=r)→w0.drew.ownsRow B e sz v n xs:=fun h hk=>rr_fr (E:=fun k=>k=r) h ⟨f0.os,f0.tape,f0.output,f0.size,f0.blk⟩ hk
 have NR:=b0 hnr (fun k hk e=>h.nr (e▸h.now.own k hk))
 have CR:=b0 hcr (fun k hk e=>h.nr (e▸h.c.own k hk))
 have MR:=b0 hmr (fun k hk e=>h.nr (e▸h.mown k hk))
 rw [hNV]at c1 NR FIN hX;rw [hCV]at c2 CR FIN hX;rw [hMV]at c4 MR FIN hX
 have d1:w0.drew.cell? ⟨r,1,none⟩=some _:=(hX.cell 1).trans rfl
 have d2:w0.drew.cell? ⟨r,2,none⟩=some _:=(hX.cell 2).trans rfl
 have d4:w0.drew.cell? ⟨r,4,none⟩=some _:=(hX.cell 4).trans rfl
 have d5:w0.drew.cell? ⟨r,5,none⟩=some _:=(hX.cell 5).trans rfl
 have X:=hid hX;have HV1:=hid hvs.one;have HRL:=hid h.rlt;have HL1:=hid hl1
 replace NR:=hid NR;replace CR:=hid CR;replace MR:=hid MR
 obtain ⟨MC,hMC⟩:∃ MC,mcells t.marks V.ml=MC:=⟨_,rfl⟩
 rw [hMC]at MR FIN
 generalize t.c=cc at *
 clear h hb hNV hCV hMV hnr hcr hmr hvs hX hone f0 b0 hl1 hMC
 generalize t.now.length=L at *
 generalize t.marks.length=LM at *
 generalize t.last=LA at *
 go_enter Tryz.func49,Tryz.ntmps49
 go_upto_region 4 with fail
 (try rw [e1])
 rw [←hw0]
 clear hw0 c1 c2 c3 c4 c5 f5
 refine wp_region_K (S:=SM r (.slice aN L cN) (.slice aC L cC) (.slice aM LM cM) l1) (fun i=>i == 26) (by kernel_rfl) (⟨d1,d2,d4,d5⟩) (fun hHeld=>?_)
 refine gkp 0 ?_
 refine gkp 1 ?_
 refine gkp 2 ?_
 refine gkp 3 ?_
 refine gkt 4 ?_ (h:=by intro W hSw;obtain ⟨k1,k2,k4,k5⟩:=hSw;go_simp;first |done |with_reducible rfl)
 refine gkp 5 ?_
 refine gkp 6 ?_
 refine gkp 7 ?_
 refine gkt 8 ?_ (h:=by intro W hSw;obtain ⟨k1,k2,k4,k5⟩:=hSw;go_simp;first |done |with_reducible rfl)
 refine gkp 10 ?_
 refine gkp 11 ?_
 refine gkp 12 ?_
 refine gkt 13 ?_ (h:=by intro W hSw;obtain ⟨k1,k2,k4,k5⟩:=hSw;go_simp;first |done |with_reducible rfl)
 refine gkp 16 ?_
 refine gkp 17 ?_
 refine gkp 18 ?_
 refine gkt 19 ?_ (h:=by intro W hSw;obtain ⟨k1,k2,k4,k5⟩:=hSw;go_simp;first |done |with_reducible rfl)
 refine wpAnyK_ready (rs:=[9,15]) (by kernel_rfl) (by simp) ?_
 refine AllReadyK.cons (op_at _ 9 _ rfl) (fun K hK=>?_) ?_
 ·go_simp
  have st:=fr_alloc (fun _=>False) w0.drew (.cells #[] 60);replace NR:=rz NR st;replace CR:=rz CR st;replace MR:=rz MR st;have hsz:w.heap.size≤w0.drew.heap.size:=X.out.fr.size;replace X:=hid (X.out.alloc (.cells #[] 60));have hR:=SM.fr hHeld st (fun h=>h);have E9:Hid ((w0.drew.alloc (.cells #[] 60)).ownsRow w.heap.size 60 1 (.slice (some ⟨w0.heap.size,0,none⟩) 0 0) 0 []):=hid (by have q:w0.drew.heap.size=w0.heap.size:=(by first |rfl |simp);rw [←q];exact World.ownsRow_made w0.drew #[] 0 hsz (by decide) rfl);clear st hsz
  refine hK.out _ _ hR (fun hHeld=>?_)
  clear hK K
  (try simp only [Act.put,sA,sZ,sS])
  refine wpAnyK_ready (rs:=[14,15]) (by kernel_rfl) (by simp) ?_
  refine AllReadyK.cons (op_at _ 14 _ rfl) (fun K hK=>?_) ?_
  ·refine Dsk.step_app rfl (.tmp 25) (.tmp 29) el66 rfl (Value.slice (some ⟨w0.heap.size,0,none⟩) 0 0) 0 [] rfl (rr_base E9.out (Nat.zero_le _)) aN L cN vs rfl (src_row NR.out HV1.out) (by omega) ?_;simp only [Nat.zero_add,List.nil_append];intro a14 c14 w14 ho hg ha;have st:=fr_grown hg;have hE:∀ b,(Value.slice (some ⟨w0.heap.size,0,none⟩) 0 0).ownBlock=some b→b≠r∧(b<w.heap.size→(fun b=>(Value.slice aM LM cM).ownBlock=some b) b):=fun b hb=>⟨fun e=>(by have h8:=(rr_blk E9.out hb).1;have h9:=HRL.out;omega),fun h=>(by have h8:=(rr_blk E9.out hb).1;have h9:w.drew.heap.size=w.heap.size:=rfl;omega)⟩;have N14:=hid ho;have D14:Hid (∀ k,(Value.slice a14 (L) c14).ownBlock=some k→w.heap.size≤k):=hid (fun k hk=>(by cases a14 with |none=>cases hk |some a=>(cases hk;rcases ha a rfl with h |h;exact (rr_blk E9.out h).1;(rw [h];exact X.out.fr.size))));replace CR:=rn CR E9 st;replace MR:=rn MR E9 st;have hR:=SM.fr hHeld st (fun h=>(hE r h).1 rfl);replace X:=hid (X.out.move st hE);clear ho hg ha st hE
   refine hK.out _ _ hR (fun hHeld=>?_)
   clear hK K
   (try simp only [Act.put,sA,sZ,sS])
   refine gk1 15 (fun K hK=>?_)
   go_simp
   have st:=fr_alloc (fun _=>False) w14 (.cells #[] 4);replace CR:=rz CR st;replace MR:=rz MR st;replace N14:=rz N14 st;have hsz:w.heap.size≤w14.heap.size:=X.out.fr.size;replace X:=hid (X.out.alloc (.cells #[] 4));have hR:=SM.fr hHeld st (fun h=>h);have E15:Hid ((w14.alloc (.cells #[] 4)).ownsRow w.heap.size 4 1 (.slice (some ⟨w14.heap.size,0,none⟩) 0 0) 0 []):=hid (by have q:w14.heap.size=w14.heap.size:=(by first |rfl |simp);rw [←q];exact World.ownsRow_made w14 #[] 0 hsz (by decide) rfl);clear st hsz
   refine hK.out _ _ hR (fun hHeld=>?_)
   clear hK K
   (try simp only [Act.put,sA,sZ,sS])
   refine gk1 20 (fun K hK=>?_)
   refine Dsk.step_app rfl (.tmp 31) (.tmp 35) el30 rfl (Value.slice (some ⟨w14.heap.size,0,none⟩) 0 0) 0 [] rfl (rr_base E15.out (Nat.zero_le _)) aC L cC (bv cc) rfl (src_row CR.out (bv_one _)) (by omega) ?_;simp only [Nat.zero_add,List.nil_append];intro a20 c20 w20 ho hg ha;have st:=fr_grown hg;have hE:∀ b,(Value.slice (some ⟨w14.heap.size,0,none⟩) 0 0).ownBlock=some b→b≠r∧(b<w.heap.size→(fun b=>(Value.slice aM LM cM).ownBlock=some b) b):=fun b hb=>⟨fun e=>(by have h8:=(rr_blk E15.out hb).1;have h9:=HRL.out;omega),fun h=>(by have h8:=(rr_blk E15.out hb).1;have h9:w.drew.heap.size=w.heap.size:=rfl;omega)⟩;have N20:=hid ho;have D20:Hid (∀ k,(Value.slice a20 (L) c20).ownBlock=some k→w.heap.size≤k):=hid (fun k hk=>(by cases a20 with |none=>cases hk |some a=>(cases hk;rcases ha a rfl with h |h;exact (rr_blk E15.out h).1;(rw [h];exact X.out.fr.size))));replace MR:=rn MR E15 st;replace N14:=rn N14 E15 st;have hR:=SM.fr hHeld st (fun h=>(hE r h).1 rfl);replace X:=hid (X.out.move st hE);clear ho hg ha st hE
   refine hK.out _ _ hR (fun hHeld=>?_)
   clear hK K
   (try simp only [Act.put,sA,sZ,sS])
   refine gkp 21 ?_
   refine gk1 22 (fun K hK=>?_)
   go_simp
   have st:=fr_alloc (fun _=>False) w20 (.cells #[.int .i64 (l1:Int),.slice a14 L c14,.slice a20 L c20] 129);replace MR:=rz MR st;replace N14:=rz N14 st;replace N20:=rz N20 st;have hsz:w.heap.size≤w20.heap.size:=X.out.fr.size;replace X:=hid (X.out.alloc (.cells #[.int .i64 (l1:Int),.slice a14 L c14,.slice a20 L c20] 129));have hR:=SM.fr hHeld st (fun h=>h);have L22:Hid ((w20.alloc (.cells #[.int .i64 (l1:Int),.slice a14 L c14,.slice a20 L c20] 129)).ownsRow w.heap.size 129 3 (.slice (some ⟨w20.heap.size,0,none⟩) 1 1) 1 [.int .i64 (l1:Int),.slice a14 L c14,.slice a20 L c20]):=hid (by have q:w20.heap.size=w20.heap.size:=(by first |rfl |simp);rw [←q];exact lit_row3 w20 w.heap.size _ _ _ 129 hsz);clear st hsz
   refine hK.out _ _ hR (fun hHeld=>?_)
   clear hK K
   (try simp only [Act.put,sA,sZ,sS])
   refine gk1 23 (fun K hK=>?_)
   refine step_app3 rfl (.tmp 20) (.tmp 38) el33 rfl (Value.slice aM LM cM) LM MC rfl MR.out (some ⟨w20.heap.size,0,none⟩) 1 1 [.int .i64 (l1:Int),.slice a14 L c14,.slice a20 L c20] rfl (src3_row (rr_base L22.out (Nat.zero_le _)) (by intro u hu;simp at hu;rcases hu with rfl |rfl |rfl<;>rfl)) (by omega) ?_;intro a23 c23 w23 ho hg ha;have st:=fr_grown hg;have hE:∀ b,(Value.slice aM LM cM).ownBlock=some b→b≠r∧(b<w.heap.size→(fun b=>(Value.slice aM LM cM).ownBlock=some b) b):=fun b hb=>⟨HMR.out b hb,fun _=>hb⟩;have N23:=hid ho;have D23:=own_from (B:=w.heap.size) (n:=(LM+1)) (c:=c23) ha X.out.fr.size;replace N14:=rn N14 MR st;replace N20:=rn N20 MR st;have hR:=SM.fr hHeld st (fun h=>(hE r h).1 rfl);replace X:=hid (X.out.move st hE);clear ho hg ha st hE
   refine hK.out _ _ hR (fun hHeld=>?_)
   clear hK K
   (try simp only [Act.put,sA,sZ,sS])
   refine gkp 24 ?_
   refine gkp 25 ?_
   have k1:w23.cell? ⟨r,4,none⟩=some _:=(X.out.cell 4).trans rfl
   have k5:w23.cell? ⟨r,5,none⟩=some _:=(X.out.cell 5).trans rfl
   have f1:=X.out.frozen 4
   refine gkl 26 (fun K hK=>?_)
   go_simp
   refine hK.out _ _ ?_
   clear hK K
   (try simp only [Act.put,sA,sZ,sS])
   refine wpAnyK_done (by kernel_rfl) ?_ _
   clear hHeld hR
   go_wp2
   go_ret2
   exact ⟨by rw [HL1.out];rfl,FIN.out _ _ _ _ _ X.out N14.out N20.out D14.out D20.out N23.out D23.out rfl⟩
  refine AllReadyK.cons (op_at _ 15 _ rfl) (fun K hK=>?_) ?_
  ·go_simp
   have st:=fr_alloc (fun _=>False) (w0.drew.alloc (.cells #[] 60)) (.cells #[] 4);replace NR:=rz NR st;replace CR:=rz CR st;replace MR:=rz MR st;replace E9:=rz E9 st;have hsz:w.heap.size≤(w0.drew.alloc (.cells #[] 60)).heap.size:=X.out.fr.size;replace X:=hid (X.out.alloc (.cells #[] 4));have hR:=SM.fr hHeld st (fun h=>h);have E15:Hid (((w0.drew.alloc (.cells #[] 60)).alloc (.cells #[] 4)).ownsRow w.heap.size 4 1 (.slice (some ⟨w0.heap.size+1,0,none⟩) 0 0) 0 []):=hid (by have q:(w0.drew.alloc (.cells #[] 60)).heap.size=w0.heap.size+1:=(by first |rfl |simp);rw [←q];exact World.ownsRow_made (w0.drew.alloc (.cells #[] 60)) #[] 0 hsz (by decide) rfl);clear st hsz
   refine hK.out _ _ hR (fun hHeld=>?_)
   clear hK K
   (try simp only [Act.put,sA,sZ,sS])
   refine gk1 14 (fun K hK=>?_)
   refine Dsk.step_app rfl (.tmp 25) (.tmp 29) el66 rfl (Value.slice (some ⟨w0.heap.size,0,none⟩) 0 0) 0 [] rfl (rr_base E9.out (Nat.zero_le _)) aN L cN vs rfl (src_row NR.out HV1.out) (by omega) ?_;simp only [Nat.zero_add,List.nil_append];intro a14 c14 w14 ho hg ha;have st:=fr_grown hg;have hE:∀ b,(Value.slice (some ⟨w0.heap.size,0,none⟩) 0 0).ownBlock=some b→b≠r∧(b<w.heap.size→(fun b=>(Value.slice aM LM cM).ownBlock=some b) b):=fun b hb=>⟨fun e=>(by have h8:=(rr_blk E9.out hb).1;have h9:=HRL.out;omega),fun h=>(by have h8:=(rr_blk E9.out hb).1;have h9:w.drew.heap.size=w.heap.size:=rfl;omega)⟩;have N14:=hid ho;have D14:Hid (∀ k,(Value.slice a14 (L) c14).ownBlock=some k→w.heap.size≤k):=hid (fun k hk=>(by cases a14 with |none=>cases hk |some a=>(cases hk;rcases ha a rfl with h |h;exact (rr_blk E9.out h).1;(rw [h];exact X.out.fr.size))));replace CR:=rn CR E9 st;replace MR:=rn MR E9 st;replace E15:=rn E15 E9 st;have hR:=SM.fr hHeld st (fun h=>(hE r h).1 rfl);replace X:=hid (X.out.move st hE);clear ho hg ha st hE
   refine hK.out _ _ hR (fun hHeld=>?_)
   clear hK K
   (try simp only [Act.put,sA,sZ,sS])
   refine gk1 20 (fun K hK=>?_)
   refine Dsk.step_app rfl (.tmp 31) (.tmp 35) el30 rfl (Value.slice (some ⟨w0.heap.size+1,0,none⟩) 0 0) 0 [] rfl (rr_base E15.out (Nat.zero_le _)) aC L cC (bv cc) rfl (src_row CR.out (bv_one _)) (by omega) ?_;simp only [Nat.zero_add,List.nil_append];intro a20 c20 w20 ho hg ha;have st:=fr_grown hg;have hE:∀ b,(Value.slice (some ⟨w0.heap.size+1,0,none⟩) 0 0).ownBlock=some b→b≠r∧(b<w.heap.size→(fun b=>(Value.slice aM LM cM).ownBlock=some b) b):=fun b hb=>⟨fun e=>(by have h8:=(rr_blk E15.out hb).1;have h9:=HRL.out;omega),fun h=>(by have h8:=(rr_blk E15.out hb).1;have h9:w.drew.heap.size=w.heap.size:=rfl;omega)⟩;have N20:=hid ho;have D20:Hid (∀ k,(Value.slice a20 (L) c20).ownBlock=some k→w.heap.size≤k):=hid (fun k hk=>(by cases a20 with |none=>cases hk |some a=>(cases hk;rcases ha a rfl with h |h;exact (rr_blk E15.out h).1;(rw [h];exact X.out.fr.size))));replace MR:=rn MR E15 st;replace N14:=rn N14 E15 st;have hR:=SM.fr hHeld st (fun h=>(hE r h).1 rfl);replace X:=hid (X.out.move st hE);clear ho hg ha st hE
   refine hK.out _ _ hR (fun hHeld=>?_)
   clear hK K
   (try simp only [Act.put,sA,sZ,sS])
   refine gkp 21 ?_
   refine gk1 22 (fun K hK=>?_)
   go_simp
   have st:=fr_alloc (fun _=>False) w20 (.cells #[.int .i64 (l1:Int),.slice a14 L c14,.slice a20 L c20] 129);replace MR:=rz MR st;replace N14:=rz N14 st;replace N20:=rz N20 st;have hsz:w.heap.size≤w20.heap.size:=X.out.fr.size;replace X:=hid (X.out.alloc (.cells #[.int .i64 (l1:Int),.slice a14 L c14,.slice a20 L c20] 129));have hR:=SM.fr hHeld st (fun h=>h);have L22:Hid ((w20.alloc (.cells #[.int .i64 (l1:Int),.slice a14 L c14,.slice a20 L c20] 129)).ownsRow w.heap.size 129 3 (.slice (some ⟨w20.heap.size,0,none⟩) 1 1) 1 [.int .i64 (l1:Int),.slice a14 L c14,.slice a20 L c20]):=hid (by have q:w20.heap.size=w20.heap.size:=(by first |rfl |simp);rw [←q];exact lit_row3 w20 w.heap.size _ _ _ 129 hsz);clear st hsz
   refine hK.out _ _ hR (fun hHeld=>?_)
   clear hK K
   (try simp only [Act.put,sA,sZ,sS])
   refine gk1 23 (fun K hK=>?_)
   refine step_app3 rfl (.tmp 20) (.tmp 38) el33 rfl (Value.slice aM LM cM) LM MC rfl MR.out (some ⟨w20.heap.size,0,none⟩) 1 1 [.int .i64 (l1:Int),.slice a14 L c14,.slice a20 L c20] rfl (src3_row (rr_base L22.out (Nat.zero_le _)) (by intro u hu;simp at hu;rcases hu with rfl |rfl |rfl<;>rfl)) (by omega) ?_;intro a23 c23 w23 ho hg ha;have st:=fr_grown hg;have hE:∀ b,(Value.slice aM LM cM).ownBlock=some b→b≠r∧(b<w.heap.size→(fun b=>(Value.slice aM LM cM).ownBlock=some b) b):=fun b hb=>⟨HMR.out b hb,fun _=>hb⟩;have N23:=hid ho;have D23:=own_from (B:=w.heap.size) (n:=(LM+1)) (c:=c23) ha X.out.fr.size;replace N14:=rn N14 MR st;replace N20:=rn N20 MR st;have hR:=SM.fr hHeld st (fun h=>(hE r h).1 rfl);replace X:=hid (X.out.move st hE);clear ho hg ha st hE
   refine hK.out _ _ hR (fun hHeld=>?_)
   clear hK K
   (try simp only [Act.put,sA,sZ,sS])
   refine gkp 24 ?_
   refine gkp 25 ?_
   have k1:w23.cell? ⟨r,4,none⟩=some _:=(X.out.cell 4).trans rfl
   have k5:w23.cell? ⟨r,5,none⟩=some _:=(X.out.cell 5).trans rfl
   have f1:=X.out.frozen 4
   refine gkl 26 (fun K hK=>?_)
   go_simp
   refine hK.out _ _ ?_
   clear hK K
   (try simp only [Act.put,sA,sZ,sS])
   refine wpAnyK_done (by kernel_rfl) ?_ _
   clear hHeld hR
   go_wp2
   go_ret2
   exact ⟨by rw [HL1.out];rfl,FIN.out _ _ _ _ _ X.out N14.out N20.out D14.out D20.out N23.out D23.out rfl⟩
  exact AllReadyK.nil
 refine AllReadyK.cons (op_at _ 15 _ rfl) (fun K hK=>?_) ?_
 ·go_simp
  have st:=fr_alloc (fun _=>False) w0.drew (.cells #[] 4);replace NR:=rz NR st;replace CR:=rz CR st;replace MR:=rz MR st;have hsz:w.heap.size≤w0.drew.heap.size:=X.out.fr.size;replace X:=hid (X.out.alloc (.cells #[] 4));have hR:=SM.fr hHeld st (fun h=>h);have E15:Hid ((w0.drew.alloc (.cells #[] 4)).ownsRow w.heap.size 4 1 (.slice (some ⟨w0.heap.size,0,none⟩) 0 0) 0 []):=hid (by have q:w0.drew.heap.size=w0.heap.size:=(by first |rfl |simp);rw [←q];exact World.ownsRow_made w0.drew #[] 0 hsz (by decide) rfl);clear st hsz
  refine hK.out _ _ hR (fun hHeld=>?_)
  clear hK K
  (try simp only [Act.put,sA,sZ,sS])
  refine gk1 9 (fun K hK=>?_)
  go_simp
  have st:=fr_alloc (fun _=>False) (w0.drew.alloc (.cells #[] 4)) (.cells #[] 60);replace NR:=rz NR st;replace CR:=rz CR st;replace MR:=rz MR st;replace E15:=rz E15 st;have hsz:w.heap.size≤(w0.drew.alloc (.cells #[] 4)).heap.size:=X.out.fr.size;replace X:=hid (X.out.alloc (.cells #[] 60));have hR:=SM.fr hHeld st (fun h=>h);have E9:Hid (((w0.drew.alloc (.cells #[] 4)).alloc (.cells #[] 60)).ownsRow w.heap.size 60 1 (.slice (some ⟨w0.heap.size+1,0,none⟩) 0 0) 0 []):=hid (by have q:(w0.drew.alloc (.cells #[] 4)).heap.size=w0.heap.size+1:=(by first |rfl |simp);rw [←q];exact World.ownsRow_made (w0.drew.alloc (.cells #[] 4)) #[] 0 hsz (by decide) rfl);clear st hsz
  refine hK.out _ _ hR (fun hHeld=>?_)
  clear hK K
  (try simp only [Act.put,sA,sZ,sS])
  refine gk1 14 (fun K hK=>?_)
  refine Dsk.step_app rfl (.tmp 25) (.tmp 29) el66 rfl (Value.slice (some ⟨w0.heap.size+1,0,none⟩) 0 0) 0 [] rfl (rr_base E9.out (Nat.zero_le _)) aN L cN vs rfl (src_row NR.out HV1.out) (by omega) ?_;simp only [Nat.zero_add,List.nil_append];intro a14 c14 w14 ho hg ha;have st:=fr_grown hg;have hE:∀ b,(Value.slice (some ⟨w0.heap.size+1,0,none⟩) 0 0).ownBlock=some b→b≠r∧(b<w.heap.size→(fun b=>(Value.slice aM LM cM).ownBlock=some b) b):=fun b hb=>⟨fun e=>(by have h8:=(rr_blk E9.out hb).1;have h9:=HRL.out;omega),fun h=>(by have h8:=(rr_blk E9.out hb).1;have h9:w.drew.heap.size=w.heap.size:=rfl;omega)⟩;have N14:=hid ho;have D14:Hid (∀ k,(Value.slice a14 (L) c14).ownBlock=some k→w.heap.size≤k):=hid (fun k hk=>(by cases a14 with |none=>cases hk |some a=>(cases hk;rcases ha a rfl with h |h;exact (rr_blk E9.out h).1;(rw [h];exact X.out.fr.size))));replace CR:=rn CR E9 st;replace MR:=rn MR E9 st;replace E15:=rn E15 E9 st;have hR:=SM.fr hHeld st (fun h=>(hE r h).1 rfl);replace X:=hid (X.out.move st hE);clear ho hg ha st hE
  refine hK.out _ _ hR (fun hHeld=>?_)
  clear hK K
  (try simp only [Act.put,sA,sZ,sS])
  refine gk1 20 (fun K hK=>?_)
  refine Dsk.step_app rfl (.tmp 31) (.tmp 35) el30 rfl (Value.slice (some ⟨w0.heap.size,0,none⟩) 0 0) 0 [] rfl (rr_base E15.out (Nat.zero_le _)) aC L cC (bv cc) rfl (src_row CR.out (bv_one _)) (by omega) ?_;simp only [Nat.zero_add,List.nil_append];intro a20 c20 w20 ho hg ha;have st:=fr_grown hg;have hE:∀ b,(Value.slice (some ⟨w0.heap.size,0,none⟩) 0 0).ownBlock=some b→b≠r∧(b<w.heap.size→(fun b=>(Value.slice aM LM cM).ownBlock=some b) b):=fun b hb=>⟨fun e=>(by have h8:=(rr_blk E15.out hb).1;have h9:=HRL.out;omega),fun h=>(by have h8:=(rr_blk E15.out hb).1;have h9:w.drew.heap.size=w.heap.size:=rfl;omega)⟩;have N20:=hid ho;have D20:Hid (∀ k,(Value.slice a20 (L) c20).ownBlock=some k→w.heap.size≤k):=hid (fun k hk=>(by cases a20 with |none=>cases hk |some a=>(cases hk;rcases ha a rfl with h |h;exact (rr_blk E15.out h).1;(rw [h];exact X.out.fr.size))));replace MR:=rn MR E15 st;replace N14:=rn N14 E15 st;have hR:=SM.fr hHeld st (fun h=>(hE r h).1 rfl);replace X:=hid (X.out.move st hE);clear ho hg ha st hE
  refine hK.out _ _ hR (fun hHeld=>?_)
  clear hK K
  (try simp only [Act.put,sA,sZ,sS])
  refine gkp 21 ?_
  refine gk1 22 (fun K hK=>?_)
  go_simp
  have st:=fr_alloc (fun _=>False) w20 (.cells #[.int .i64 (l1:Int),.slice a14 L c14,.slice a20 L c20] 129);replace MR:=rz MR st;replace N14:=rz N14 st;replace N20:=rz N20 st;have hsz:w.heap.size≤w20.heap.size:=X.out.fr.size;replace X:=hid (X.out.alloc (.cells #[.int .i64 (l1:Int),.slice a14 L c14,.slice a20 L c20] 129));have hR:=SM.fr hHeld st (fun h=>h);have L22:Hid ((w20.alloc (.cells #[.int .i64 (l1:Int),.slice a14 L c14,.slice a20 L c20] 129)).ownsRow w.heap.size 129 3 (.slice (some ⟨w20.heap.size,0,none⟩) 1 1) 1 [.int .i64 (l1:Int),.slice a14 L c14,.slice a20 L c20]):=hid (by have q:w20.heap.size=w20.heap.size:=(by first |rfl |simp);rw [←q];exact lit_row3 w20 w.heap.size _ _ _ 129 hsz);clear st hsz
  refine hK.out _ _ hR (fun hHeld=>?_)
  clear hK K
  (try simp only [Act.put,sA,sZ,sS])
  refine gk1 23 (fun K hK=>?_)
  refine step_app3 rfl (.tmp 20) (.tmp 38) el33 rfl (Value.slice aM LM cM) LM MC rfl MR.out (some ⟨w20.heap.size,0,none⟩) 1 1 [.int .i64 (l1:Int),.slice a14 L c14,.slice a20 L c20] rfl (src3_row (rr_base L22.out (Nat.zero_le _)) (by intro u hu;simp at hu;rcases hu with rfl |rfl |rfl<;>rfl)) (by omega) ?_;intro a23 c23 w23 ho hg ha;have st:=fr_grown hg;have hE:∀ b,(Value.slice aM LM cM).ownBlock=some b→b≠r∧(b<w.heap.size→(fun b=>(Value.slice aM LM cM).ownBlock=some b) b):=fun b hb=>⟨HMR.out b hb,fun _=>hb⟩;have N23:=hid ho;have D23:=own_from (B:=w.heap.size) (n:=(LM+1)) (c:=c23) ha X.out.fr.size;replace N14:=rn N14 MR st;replace N20:=rn N20 MR st;have hR:=SM.fr hHeld st (fun h=>(hE r h).1 rfl);replace X:=hid (X.out.move st hE);clear ho hg ha st hE
  refine hK.out _ _ hR (fun hHeld=>?_)
  clear hK K
  (try simp only [Act.put,sA,sZ,sS])
  refine gkp 24 ?_
  refine gkp 25 ?_
  have k1:w23.cell? ⟨r,4,none⟩=some _:=(X.out.cell 4).trans rfl
  have k5:w23.cell? ⟨r,5,none⟩=some _:=(X.out.cell 5).trans rfl
  have f1:=X.out.frozen 4
  refine gkl 26 (fun K hK=>?_)
  go_simp
  refine hK.out _ _ ?_
  clear hK K
  (try simp only [Act.put,sA,sZ,sS])
  refine wpAnyK_done (by kernel_rfl) ?_ _
  clear hHeld hR
  go_wp2
  go_ret2
  exact ⟨by rw [HL1.out];rfl,FIN.out _ _ _ _ _ X.out N14.out N20.out D14.out D20.out N23.out D23.out rfl⟩
 exact AllReadyK.nil
end
end Go.Proofs.YtadhdedjdgjboaaGreatDoor
