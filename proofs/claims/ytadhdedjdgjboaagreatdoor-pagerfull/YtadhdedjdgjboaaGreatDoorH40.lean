/- The document's pager: Undo; no statement of the seat is proved here. -/
import Derived.Test.YtadhdedjdgjboaaGreatDoorH39
import Derived.Test.YtadhdedjdgjboaaGreatDoorH17
set_option maxHeartbeats 16000000
set_option maxRecDepth 20000
namespace Go.Proofs.YtadhdedjdgjboaaGreatDoor
section
open Go.RowKit Go.Maps
open Dsk (gt hid undrew keep_old keep_cell lt_cell Rd bs bs_length bs_one own_lt own_ne own_set own_later El row_form src_row el37 el66 el30 op_at)
open Cch (Fr wpAnyK wpAnyK_take wpAnyK_pure wpAnyK_ready wpAnyK_done wp_region_K AllReadyK.cons AllReadyK.nil AllReadyK.late)
def RS.undo(t:RS)(i:Nat):RS:={ t with now:=(t.marks.getD i ⟨0,[],[]⟩).l,c:=(t.marks.getD i ⟨0,[],[]⟩).c,marks:=t.marks.take (i+1) }
theorem rundo_no(r:Nat)(S:Nat→Prop)(V:RV)(t:RS)(z:Int)(w:World)(h:RefP w r S V t)(hb:t.busy=false):Calls Tryz.prog 50 #[.pointer (some ⟨r,0,none⟩),.int .i64 z] w fun e w'=>e=.returned (.int .i64 6)∧w'=w:=by
 obtain ⟨_,_,_,c3,_⟩:=h.cells
 rw [hb]at c3
 clear h
 go_enter Tryz.func50,Tryz.ntmps50
 go_wp2
 go_ret
 exact ⟨rfl,rfl⟩
variable {r:Nat} {w W:World}
theorem undo_fin{w2:World}{i:Nat}{S:Nat→Prop}{V:RV}{t:RS}{m:RM}(h:RefP w r S V t)(hm:t.marks[i]? = some m){nv cv mv:Value}{vs:List Value}(hvs:PagesAt w S vs m.l)(hlen:m.c.length=m.l.length)
  (X:BQ (fun _=>False) w r [V.sv,nv,cv,.bool t.busy,V.mv,.int .i64 (t.last:Int),.int .i64 (t.n:Int)] w2)
  (N:w2.ownsRow 0 60 1 nv m.l.length vs) (C:w2.ownsRow 0 4 1 cv m.l.length (bv m.c)) (bn:∀ k,nv.ownBlock=some k→w.heap.size≤k) (bc:∀ k,cv.ownBlock=some k→w.heap.size≤k)
  (R:w2.ownsRow 0 129 3 mv (i+1) ((mcells t.marks V.ml).take ((i+1)*3))) (bm:∀ k,mv.ownBlock=some k→w.heap.size≤k)
  (hW:W=w2.setCell ⟨r,4,none⟩ mv):RTo w W r S (t.undo i):=by
 have hil:i<t.marks.length:=(List.getElem?_eq_some_iff.1 hm).1
 have hu:t.undo i = { t with now:=m.l,c:=m.c,marks:=t.marks.take (i+1) }:=by
  unfold RS.undo;rw [List.getD,hm];rfl
 have hrl:=h.rlt
 have X3:=X.set 4 mv
 rw [←hW]at X3
 have fr1:Fr (fun k=>k=r) w W:=⟨X3.fr.os,X3.fr.tape,X3.fr.output,X3.fr.size,fun k hk hn=>X3.fr.blk k hk (fun e=>by rcases e with e |e;exact hn e;exact e)⟩
 have f2:Fr (fun k=>k=r) w2 W:=by rw [hW];exact fr_setb w2 r 4 mv
 have N2:=rr_fr N f2 (fun k hk e=>by have:=bn k hk;omega)
 have C2:=rr_fr C f2 (fun k hk e=>by have:=bc k hk;omega)
 have R2:=rr_fr R f2 (fun k hk e=>by have:=bm k hk;omega)
 have hi:∀ k,S k→New S w W k:=fun _ h=>Or.inl h
 have hml:=h.mlen
 rw [hu]
 refine ⟨⟨New S w W,⟨V.sv,nv,cv,mv,V.ml.take (i+1)⟩,⟨X3.box,h.new_nr,h.new_lt fr1.size,h.sure.fr fr1 h.no hi,⟨⟨vs,N2,hvs.fr fr1 h.no hi⟩,fun k hk=>Or.inr ⟨bn k hk,(rr_blk N2 hk).2⟩⟩,⟨by rw [hlen];exact C2,fun k hk=>Or.inr ⟨bc k hk,(rr_blk C2 hk).2⟩⟩,hlen,?_,fun k hk=>Or.inr ⟨bm k hk,(rr_blk R2 hk).2⟩,by simp [hml],fun j m' v hm' hv=>?_,fun _=>⟨fun k hk=>⟨fun e=>?_,fun v hv e=>?_⟩,fun k hk v hv e=>?_⟩⟩,fun k hk=>?_⟩,⟨fr1.os,fr1.tape,fr1.output,fr1.size,fun k hk hn=>fr1.blk k hk (fun e=>hn (Or.inl e))⟩⟩
 ·have e:(t.marks.take (i+1)).length=i+1:=by rw [List.length_take];omega
  simp only [e]
  rw [mcells_take _ _ _ hml];exact R2
 ·simp only [List.getElem?_take]at hm' hv
  split at hm'
  ·rename_i hj
   rw [if_pos hj]at hv
   have hm2:=h.each j m' v hm' hv
   exact ⟨hm2.1.fr fr1 h.no hi,hm2.2.fr fr1 h.no hi⟩
  ·cases hm'
 ·have h1:=bn k hk
  have:=h.lt k (h.sure.own k e);omega
 ·have h1:=bn k hk
  obtain ⟨j,hj2⟩:=List.mem_iff_getElem?.1 (List.mem_of_mem_take hv)
  have hjl:j<t.marks.length:=by rw [←hml];exact (List.getElem?_eq_some_iff.1 hj2).1
  have:=h.lt k ((h.each j _ v (List.getElem?_eq_getElem hjl) hj2).1.own k e);omega
 ·have h1:=bc k hk
  obtain ⟨j,hj2⟩:=List.mem_iff_getElem?.1 (List.mem_of_mem_take hv)
  have hjl:j<t.marks.length:=by rw [←hml];exact (List.getElem?_eq_some_iff.1 hj2).1
  have:=h.lt k ((h.each j _ v (List.getElem?_eq_getElem hjl) hj2).2.own k e);omega
 ·rcases hk with hk |hk
  ·exact Or.inl hk
  ·exact Or.inr hk.1
abbrev SU(B:Nat)(nv cv:Value)(W:World):Prop:=W.cell? ⟨B,1,none⟩=some nv∧W.cell? ⟨B,2,none⟩=some cv
variable {nv cv:Value} {B:Nat}
theorem SU.fr{E:Nat→Prop}{W':World}(h:SU B nv cv W)(hf:Fr E W W')(hr:¬E B):SU B nv cv W':=⟨(World.cell?_of_block (hf.blk B (lt_cell h.1) hr)).trans h.1,(World.cell?_of_block (hf.blk B (lt_cell h.1) hr)).trans h.2⟩
variable {k:Nat}
theorem lt_kind{o:Obj}(h:w.heap[k]? = some o):k<w.heap.size:=(Array.getElem?_eq_some_iff.1 h).1
theorem B6ne{e1 e2:TypeId}{cs:Array Value}(h1:∃ cur,w.heap[k]? = some (.cells cur e1 (0,0)))(h2:w.heap[B]? = some (.cells cs e2 (0,0)))(hne:e1≠e2)(e:k=B):False:=by
 obtain ⟨cur,h1⟩:=h1
 subst e
 rw [h1]at h2
 cases h2
 exact hne rfl
structure AfU (w:World) (r:Nat) (sv mv:Value) (bz:Value) (la tn:Nat) (nv cv:Value) (L:Nat) (vs cs:List Value) (g:Nat) (u:World):Prop where
 x:BQ (fun _=>False) w r [sv,nv,cv,bz,mv,.int .i64 (la:Int),.int .i64 (tn:Int)] u
 n:u.ownsRow 0 60 1 nv L vs
 c:u.ownsRow 0 4 1 cv L cs
 e:u.ownsRow w.heap.size 129 3 (.slice (some ⟨g,0,none⟩) 0 0) 0 []
variable {vs cs:List Value} {L la tn:Nat} {sv mv bz:Value}
theorem af_undo{w9 u2:World}{nv0 cv0:Value}(X:BQ (fun _=>False) w r [sv,nv0,cv0,bz,mv,.int .i64 (la:Int),.int .i64 (tn:Int)] w9)(N:w9.ownsRow 0 60 1 nv L vs)(C:w9.ownsRow 0 4 1 cv L cs)(bn:∀ k,nv.ownBlock=some k→w.heap.size≤k)(bc:∀ k,cv.ownBlock=some k→w.heap.size≤k)
  (hu:u2=((w9.setCell ⟨r,1,none⟩ nv).setCell ⟨r,2,none⟩ cv).alloc (.cells #[] 129)):AfU w r sv mv bz la tn nv cv L vs cs w9.heap.size u2:=by
 have hrl:=X.lt
 obtain ⟨u1,hu1⟩:∃ u1,u1=(w9.setCell ⟨r,1,none⟩ nv).setCell ⟨r,2,none⟩ cv:=⟨_,rfl⟩
 have X1:=(X.set 1 nv).set 2 cv
 rw [←hu1]at X1 hu
 have hs:u1.heap.size=w9.heap.size:=by rw [hu1];simp
 have f1:Fr (fun k=>k=r) w9 u1:=by rw [hu1];exact (fr_setb w9 r 1 nv).trans (fr_setb _ r 2 cv) (fun _ _ h=>h)
 have f2:Fr (fun _=>False) u1 u2:=by rw [hu];exact fr_alloc _ _ _
 refine ⟨by rw [hu];exact X1.alloc _,rr_fr (rr_fr N f1 (fun k hk e=>by have:=bn k hk;omega)) f2 (fun _ _ h=>h),rr_fr (rr_fr C f1 (fun k hk e=>by have:=bc k hk;omega)) f2 (fun _ _ h=>h),?_⟩
 rw [hu,←hs]
 exact World.ownsRow_made u1 #[] 0 X1.fr.size (by decide) rfl
theorem AfU.after{u wR:World}{n g:Nat}{ys:List Value}{aR:Option Addr}{cR:Nat}(A:AfU w r sv mv bz la tn nv cv L vs cs g u)(ho:wR.ownsRow 0 129 3 (.slice aR n cR) n ys)(hg:u.grownBy wR (Value.slice (some ⟨g,0,none⟩) 0 0).ownBlock)(ha:∀ a,aR=some a→((Value.slice (some ⟨g,0,none⟩) 0 0).ownBlock=some a.block∨a.block=u.heap.size)) :
  BQ (fun _=>False) w r [sv,nv,cv,bz,mv,.int .i64 (la:Int),.int .i64 (tn:Int)] wR∧wR.ownsRow 0 60 1 nv L vs∧wR.ownsRow 0 4 1 cv L cs∧wR.ownsRow 0 129 3 (.slice aR n cR) n ys∧∀ k,(Value.slice aR n cR).ownBlock=some k→w.heap.size≤k:=by
 have st:=fr_grown hg
 have hE:∀ b,(Value.slice (some ⟨g,0,none⟩) 0 0).ownBlock=some b→w.heap.size≤b:=fun b hb=>(rr_blk A.e hb).1
 have hrl:=A.x.lt
 refine ⟨A.x.move st (fun b hb=>⟨fun e=>by have:=hE b hb;omega,fun hlt=>by have:=hE b hb;omega⟩),rr_fr A.n st (fun k hk h=>rr_ne A.n A.e (by decide) hk h rfl),rr_fr A.c st (fun k hk h=>rr_ne A.c A.e (by decide) hk h rfl),ho,fun k hk=>?_⟩
 cases aR with
 | none=>cases hk
 | some a=>
  cases hk
  rcases ha a rfl with h |h
  ·exact hE _ h
  ·rw [h];exact A.x.fr.size
theorem rundo_any(r:Nat)(S:Nat→Prop)(V:RV)(t:RS)(z:Int)(i0:Nat)(w:World)(h:RefP w r S V t)(hb:t.busy=true)(hle:i0≤t.marks.length)(hbe:∀ j m,j<i0→t.marks[j]? = some m→(m.id:Int)≠z)(hat:∀ m,t.marks[i0]? = some m→(m.id:Int)=z)(hlm:t.marks.length≤1000)(hml:∀ m∈t.marks,m.c.length=m.l.length∧m.l.length≤4000)(hid2:∀ m∈t.marks,m.id≤1000000) :
  Calls Tryz.prog 50 #[.pointer (some ⟨r,0,none⟩),.int .i64 z] w fun e w'=>(i0<t.marks.length→e=.returned (.int .i64 0)∧RTo w w' r S (t.undo i0))∧(i0=t.marks.length→e=.returned (.int .i64 5)∧Below w.heap.size w w'):=by
 obtain ⟨_,_,_,c3,c4,_⟩:=h.cells
 rw [hb]at c3
 obtain ⟨aM,cM,hMV,hM0,hM1⟩:=row_form3 h.mrow
 have hmr:=h.mrow
 rw [hMV]at hmr c4
 have HMR:Hid (∀ b,(Value.slice aM t.marks.length cM).ownBlock=some b→b≠r):=hid (fun b hb e=>h.nr (h.mown r (by rw [hMV,←e];exact hb)))
 have hcM:t.marks.length≤cM:=by
  cases aM with
  | none=>have:=hM0 rfl;omega
  | some a=>exact (hM1 a rfl).2.1
 have HX:=hid (h.bq (Q:=fun _=>False))
 have HH:=hid h;have HBE:=hid hbe;have HAT:=hid hat;have HML:=hid hml;have HID:=hid hid2;have HBZ:=hid hb
 have HMRW:=hid hmr;have HONE:=hid h.one;have HRL:=hid h.rlt;have HMV:=hid hMV;have HM1:=hid hM1;have HM0:=hid hM0
 obtain ⟨LM,hLM⟩:∃ LM,LM=t.marks.length:=⟨_,rfl⟩
 rw [←hLM]at HMR HMRW c4 hcM hle hlm HM0 HM1 HMV ⊢
 have HLM:=hid hLM
 clear h hb hbe hat hml hid2 hmr hMV hM0 hM1 hLM
 go_enter Tryz.func50,Tryz.ntmps50
 go_wp2
 go_loopw [17] (fun v17 W=>∃ k:Nat,k≤i0∧v17=.int .i64 (k:Int)∧Hid (Below w.heap.size w W)) (fun v17 _=>LM - (Lib.intOf v17).toNat)
 case atStart=>exact ⟨0,by omega,rfl,hid (Below.refl _ _)⟩
 case round=>
  obtain ⟨k,hk,rfl,B⟩:=hrel
  by_cases hkL:k<LM
  ·obtain ⟨m,hm⟩:∃ m,t.marks[k]? = some m:=⟨_,List.getElem?_eq_getElem (by rw [←HLM.out];exact hkL)⟩
   obtain ⟨mm,hmm⟩:∃ mm,V.ml[k]? = some mm:=⟨_,List.getElem?_eq_getElem (by rw [HH.out.mlen,←HLM.out];exact hkL)⟩
   have hmem:m∈t.marks:=List.mem_of_getElem? hm
   have hidb:=HID.out m hmem
   have hlen:=HML.out m hmem
   obtain ⟨q0,q1,q2⟩:=mcells_get _ _ _ _ _ hm hmm
   obtain ⟨eL,eC⟩:=HH.out.each k m mm hm hmm
   obtain ⟨aL,cL,hLV,_,_⟩:=eL.form
   obtain ⟨aC,cC,hCV,_,_⟩:=row_form eC.row
   rw [hlen.1]at hCV
   rw [hLV]at q1;rw [hCV]at q2
   obtain ⟨gM,haM2⟩:∃ gM,aM=some ⟨gM,0,none⟩:=by
    cases haM:aM with
    | none=>have:=(HM0.out haM).1;omega
    | some a=>
     obtain ⟨ea,_,_⟩:=HM1.out a haM
     exact ⟨a.block,by rw [←ea]⟩
   have cells:=fun j u hu=>(HMRW.out.cells (g:=gM) (by rw [haM2];rfl) j u hu)
   have d0:wr.cell? ⟨gM,k*3,none⟩=some _:=keep_old B.out (by have:=cells _ _ q0;rw [Addr.add_lit]at this;simpa using this)
   have d1:wr.cell? ⟨gM,k*3+1,none⟩=some _:=keep_old B.out (by have:=cells _ _ q1;rw [Addr.add_lit]at this;simpa using this)
   have d2:wr.cell? ⟨gM,k*3+2,none⟩=some _:=keep_old B.out (by have:=cells _ _ q2;rw [Addr.add_lit]at this;simpa using this)
   have r4:=keep_old B.out c4
   subst haM2
   have hkI:(k:Int)<(LM:Int):=by omega
   have hk0:(0:Int)≤(k:Int):=by omega
   have n5:IntKind.i64.wrap (k:Int)=(k:Int):=IntWalk.i64_in _ ⟨by omega,by omega⟩
   clear cells q0 q1 q2
   by_cases hki:k=i0
   ·have hz:=HAT.out m (by rw [←hki];exact hm)
    subst hki
    obtain ⟨vs,hLr,hvs⟩:=eL.row
    have hCr:=eC.row
    rw [hlen.1]at hCr
    have FIN:=hid (fun w2 W nv cv mv X N C bn bc R bm hW=>undo_fin (w2:=w2) (W:=W) (nv:=nv) (cv:=cv) (mv:=mv) HH.out hm hvs hlen.1 X N C bn bc R bm hW)
    rw [hLV]at hLr;rw [hCV]at hCr
    have hX1:BQ (fun _=>False) w r (boxL V t) wr:=⟨Fr.of_below B.out,HRL.out,(B.out.block r HRL.out).trans HH.out.box⟩
    simp only [boxL]at hX1
    rw [HMV.out]at hX1 FIN
    have hne3:∀ b,(Value.slice aL m.l.length cL).ownBlock=some b→¬b=r:=fun b hb e=>HH.out.nr (by rw [←e];exact eL.own b (by rw [hLV];exact hb))
    have hne4:∀ b,(Value.slice aC m.l.length cC).ownBlock=some b→¬b=r:=fun b hb e=>HH.out.nr (by rw [←e];exact eC.own b (by rw [hCV];exact hb))
    have HV1:=hid hvs.one
    have hll:=hlen.2
    generalize m.l.length=L at *
    generalize m.c=cc at *
    generalize mcells t.marks V.ml=MC at *
    rw [hz]at d0
    obtain ⟨w6,hw6⟩:∃ w6,w6=wr.alloc (.cells #[.int .i64 z,.slice aL L cL,.slice aC L cC] 129):=⟨_,rfl⟩
    obtain ⟨B6,hB6⟩:∃ B6,B6=wr.heap.size:=⟨_,rfl⟩
    have X6:Hid (w6.drew.heap[B6]? = some (.cells #[.int .i64 z,.slice aL L cL,.slice aC L cC] 129 (0,0))):=hid (by rw [hw6,hB6];exact heap_alloc_new _ _)
    have b6:Below w.heap.size w w6:=by rw [hw6];exact B.out.alloc B.out.size _
    have hX6:=hX1.alloc (.cells #[.int .i64 z,.slice aL L cL,.slice aC L cC] 129)
    rw [←hw6]at hX6
    have X:=hid (hX6.move (show Fr (fun _=>False) w6 w6.drew from ⟨rfl,rfl,rfl,Nat.le_refl _,fun _ _ _=>rfl⟩) (fun _ h=>h.elim))
    have NR:=hid (rr_fr hLr (fr_below (S:=fun _=>False) b6.drew) (fun _ _ h=>h));have CR:=hid (rr_fr hCr (fr_below (S:=fun _=>False) b6.drew) (fun _ _ h=>h))
    have u1:w6.drew.cell? ⟨B6,1,none⟩=some (.slice aL L cL):=by rw [World.cell?,X6.out];rfl
    have u2:w6.drew.cell? ⟨B6,2,none⟩=some (.slice aC L cC):=by rw [World.cell?,X6.out];rfl
    have B6r:Hid (¬B6=r):=hid (fun e=>by have h1:=HRL.out;have h2:=B.out.size;omega)
    have e1:IntKind.i64.wrap ((k:Int)+1)=((k+1:Nat):Int):=by rw [IntWalk.i64_in _ ⟨by omega,by omega⟩];omega
    have hkc:k+1≤cM:=by omega
    generalize V.sv=sv at *
    generalize V.nv=nv0 at *
    generalize V.cv=cv0 at *
    generalize t.last=la at *
    generalize t.n=tn at *
    obtain ⟨bz,hbz⟩:∃ bz,bz=Value.bool t.busy:=⟨_,rfl⟩
    rw [←hbz]at X FIN
    clear hX1 hX6 b6 hLr hCr hvs eL eC hLV hCV hm hmm hmem HH HX HBE HAT HML HID HM0 HM1 HMV hz hbz hlen hidb
    go_upto_region 7 with fail
    rw [←hw6,←hB6]
    clear hw6 hB6 d0 d1 d2 r4 c3
    refine wp_region_K (S:=SU B6 (.slice aL L cL) (.slice aC L cC)) (fun _=>false) (by kernel_rfl) (⟨u1,u2⟩) (fun hHeld=>?_)
    refine gkp 0 ?_
    refine gkp 1 ?_
    refine gkp 3 ?_
    refine gkt 4 ?_ (h:=by intro W hSw;obtain ⟨k1,k2⟩:=hSw;go_simp;first |done |with_reducible rfl)
    refine gkp 7 ?_
    refine gkt 8 ?_ (h:=by intro W hSw;obtain ⟨k1,k2⟩:=hSw;go_simp;first |done |with_reducible rfl)
    refine wpAnyK_ready (rs:=[2,6]) (by kernel_rfl) (by simp) ?_
    refine AllReadyK.cons (op_at _ 2 _ rfl) (fun K hK=>?_) ?_
    ·go_simp
     have st:=fr_alloc (fun _=>False) w6.drew (.cells #[] 60);replace NR:=rz NR st;replace CR:=rz CR st;have hsz:w.heap.size≤w6.drew.heap.size:=X.out.fr.size;replace X:=hid (X.out.alloc (.cells #[] 60));have hR:=SU.fr hHeld st (fun h=>h);have E2:Hid ((w6.drew.alloc (.cells #[] 60)).ownsRow w.heap.size 60 1 (.slice (some ⟨w6.heap.size,0,none⟩) 0 0) 0 []):=hid (by have q:w6.drew.heap.size=w6.heap.size:=(by first |rfl |simp);rw [←q];exact World.ownsRow_made w6.drew #[] 0 hsz (by decide) rfl);replace X6:=hid ((st.blk B6 (lt_kind X6.out) (fun h=>h)).trans X6.out);clear st hsz
     refine hK.out _ _ hR (fun hHeld=>?_)
     clear hK K
     (try simp only [Act.put,sA,sZ,sS])
     refine wpAnyK_ready (rs:=[5,6]) (by kernel_rfl) (by simp) ?_
     refine AllReadyK.cons (op_at _ 5 _ rfl) (fun K hK=>?_) ?_
     ·refine Dsk.step_app rfl (.tmp 28) (.tmp 30) el66 rfl (Value.slice (some ⟨w6.heap.size,0,none⟩) 0 0) 0 [] rfl (rr_base E2.out (Nat.zero_le _)) aL L cL vs rfl (src_row NR.out HV1.out) (by omega) ?_;simp only [Nat.zero_add,List.nil_append];intro a5 c5 w5 ho hg ha;have st:=fr_grown hg;have hE:∀ b,(Value.slice (some ⟨w6.heap.size,0,none⟩) 0 0).ownBlock=some b→b≠r∧(b<w.heap.size→(fun _=>False) b):=fun b hb=>⟨fun e=>(by have h8:=(rr_blk E2.out hb).1;have h9:=HRL.out;omega),fun h=>(by have h8:=(rr_blk E2.out hb).1;omega)⟩;have N5:=hid ho;have D5:Hid (∀ k,(Value.slice a5 (L) c5).ownBlock=some k→w.heap.size≤k):=hid (fun k hk=>(by cases a5 with |none=>cases hk |some a=>(cases hk;rcases ha a rfl with h |h;exact (rr_blk E2.out h).1;(rw [h];exact X.out.fr.size))));replace CR:=rn CR E2 st;have hR:=SU.fr hHeld st (fun h=>(B6ne (rr_kind E2.out h) X6.out (by decide) rfl));replace X:=hid (X.out.move st hE);replace X6:=hid ((st.blk B6 (lt_kind X6.out) (fun h=>(B6ne (rr_kind E2.out h) X6.out (by decide) rfl))).trans X6.out);clear ho hg ha st hE
      refine hK.out _ _ hR (fun hHeld=>?_)
      clear hK K
      (try simp only [Act.put,sA,sZ,sS])
      refine gk1 6 (fun K hK=>?_)
      go_simp
      have st:=fr_alloc (fun _=>False) w5 (.cells #[] 4);replace CR:=rz CR st;replace N5:=rz N5 st;have hsz:w.heap.size≤w5.heap.size:=X.out.fr.size;replace X:=hid (X.out.alloc (.cells #[] 4));have hR:=SU.fr hHeld st (fun h=>h);have E6:Hid ((w5.alloc (.cells #[] 4)).ownsRow w.heap.size 4 1 (.slice (some ⟨w5.heap.size,0,none⟩) 0 0) 0 []):=hid (by have q:w5.heap.size=w5.heap.size:=(by first |rfl |simp);rw [←q];exact World.ownsRow_made w5 #[] 0 hsz (by decide) rfl);replace X6:=hid ((st.blk B6 (lt_kind X6.out) (fun h=>h)).trans X6.out);clear st hsz
      refine hK.out _ _ hR (fun hHeld=>?_)
      clear hK K
      (try simp only [Act.put,sA,sZ,sS])
      refine gk1 9 (fun K hK=>?_)
      refine Dsk.step_app rfl (.tmp 32) (.tmp 34) el30 rfl (Value.slice (some ⟨w5.heap.size,0,none⟩) 0 0) 0 [] rfl (rr_base E6.out (Nat.zero_le _)) aC L cC (bv cc) rfl (src_row CR.out (bv_one _)) (by omega) ?_;simp only [Nat.zero_add,List.nil_append];intro a9 c9 w9 ho hg ha;have st:=fr_grown hg;have hE:∀ b,(Value.slice (some ⟨w5.heap.size,0,none⟩) 0 0).ownBlock=some b→b≠r∧(b<w.heap.size→(fun _=>False) b):=fun b hb=>⟨fun e=>(by have h8:=(rr_blk E6.out hb).1;have h9:=HRL.out;omega),fun h=>(by have h8:=(rr_blk E6.out hb).1;omega)⟩;have N9:=hid ho;have D9:Hid (∀ k,(Value.slice a9 (L) c9).ownBlock=some k→w.heap.size≤k):=hid (fun k hk=>(by cases a9 with |none=>cases hk |some a=>(cases hk;rcases ha a rfl with h |h;exact (rr_blk E6.out h).1;(rw [h];exact X.out.fr.size))));replace N5:=rn N5 E6 st;have hR:=SU.fr hHeld st (fun h=>(B6ne (rr_kind E6.out h) X6.out (by decide) rfl));replace X:=hid (X.out.move st hE);replace X6:=hid ((st.blk B6 (lt_kind X6.out) (fun h=>(B6ne (rr_kind E6.out h) X6.out (by decide) rfl))).trans X6.out);clear ho hg ha st hE
      refine hK.out _ _ hR (fun hHeld=>?_)
      clear hK K
      (try simp only [Act.put,sA,sZ,sS])
      refine gkp 10 ?_
      refine gkp 11 ?_
      refine gk1 12 (fun K hK=>?_)
      have k1:w9.cell? ⟨r,1,none⟩=some _:=(X.out.cell 1).trans rfl;have f1:=X.out.frozen 1;go_simp;have hR:SU B6 (.slice aL L cL) (.slice aC L cC) (w9.setCell ⟨r,1,none⟩ (.slice a5 L c5)):=SU.fr hHeld (fr_setb _ _ _ _) (fun h=>B6r.out h);clear k1 f1
      refine hK.out _ _ hR (fun hHeld=>?_)
      clear hK K
      (try simp only [Act.put,sA,sZ,sS])
      refine gkp 13 ?_
      refine gkp 14 ?_
      refine gk1 15 (fun K hK=>?_)
      have k1:(w9.setCell ⟨r,1,none⟩ (.slice a5 L c5)).cell? ⟨r,2,none⟩=some _:=((X.out.set 1 (.slice a5 L c5)).cell 2).trans rfl;have f1:=(X.out.set 1 (.slice a5 L c5)).frozen 2;go_simp;have hR:SU B6 (.slice aL L cL) (.slice aC L cC) ((w9.setCell ⟨r,1,none⟩ (.slice a5 L c5)).setCell ⟨r,2,none⟩ (.slice a9 L c9)):=SU.fr hHeld (fr_setb _ _ _ _) (fun h=>B6r.out h);clear k1 f1
      refine hK.out _ _ hR (fun hHeld=>?_)
      clear hK K
      (try simp only [Act.put,sA,sZ,sS])
      refine wpAnyK_done (by kernel_rfl) ?_ _
      clear hHeld hR
      have hr9:¬r=w9.heap.size:=(by have h8:=X.out.fr.size;have h9:=HRL.out;omega)
      have k4:w9.cell? ⟨r,4,none⟩=some _:=(X.out.cell 4).trans rfl
      have k1:w9.cell? ⟨r,1,none⟩=some _:=(X.out.cell 1).trans rfl
      have k2:w9.cell? ⟨r,2,none⟩=some _:=(X.out.cell 2).trans rfl
      have AF:Hid (∀ u2:World,u2=((w9.setCell ⟨r,1,none⟩ (.slice a5 L c5)).setCell ⟨r,2,none⟩ (.slice a9 L c9)).alloc (.cells #[] 129)→AfU w r sv (.slice (some ⟨gM,0,none⟩) LM cM) bz la tn (.slice a5 L c5) (.slice a9 L c9) L vs (bv cc) w9.heap.size u2):=hid (fun u2 hu2=>af_undo X.out N5.out N9.out D5.out D9.out hu2)
      have k8:(((w9.setCell ⟨r,1,none⟩ (.slice a5 L c5)).setCell ⟨r,2,none⟩ (.slice a9 L c9)).alloc (.cells #[] 129)).cell? ⟨r,4,none⟩=some (.slice (some ⟨gM,0,none⟩) LM cM):=((AF.out _ rfl).x.cell 4).trans rfl
      go_wp2_with ((with_reducible refine Dsk.here_op 49 ?_);have A8:=AF.out _ rfl;refine wpList_app3 rfl (.tmp 41) (.tmp 48) el33 rfl (.slice (some ⟨w9.heap.size,0,none⟩) 0 0) 0 [] rfl (rr_base A8.e (Nat.zero_le _)) (some ⟨gM,0,none⟩) (k+1) cM (MC.take ((k+1)*3)) rfl (src3_take (src3_row (rr_fr HMRW.out A8.x.fr (fun b hb e=>(by rcases e with e |e;exact HMR.out b hb e;exact e))) HONE.out) (by omega)) (by omega) ?_;simp only [Nat.zero_add,List.nil_append];intro aR cR wR ho hg ha;have Z:=hid (A8.after ho hg ha);clear A8 ho hg ha;have k4:wR.cell? ⟨r,4,none⟩=some _:=(Z.out.1.cell 4).trans rfl;have f4:=Z.out.1.frozen 4)
      go_ret
      exact ⟨fun _=>⟨rfl,FIN.out _ _ _ _ _ Z.out.1 Z.out.2.1 Z.out.2.2.1 D5.out D9.out Z.out.2.2.2.1 Z.out.2.2.2.2 rfl⟩,fun e=>(by omega)⟩
     refine AllReadyK.cons (op_at _ 6 _ rfl) (fun K hK=>?_) ?_
     ·go_simp
      have st:=fr_alloc (fun _=>False) (w6.drew.alloc (.cells #[] 60)) (.cells #[] 4);replace NR:=rz NR st;replace CR:=rz CR st;replace E2:=rz E2 st;have hsz:w.heap.size≤(w6.drew.alloc (.cells #[] 60)).heap.size:=X.out.fr.size;replace X:=hid (X.out.alloc (.cells #[] 4));have hR:=SU.fr hHeld st (fun h=>h);have E6:Hid (((w6.drew.alloc (.cells #[] 60)).alloc (.cells #[] 4)).ownsRow w.heap.size 4 1 (.slice (some ⟨w6.heap.size+1,0,none⟩) 0 0) 0 []):=hid (by have q:(w6.drew.alloc (.cells #[] 60)).heap.size=w6.heap.size+1:=(by first |rfl |simp);rw [←q];exact World.ownsRow_made (w6.drew.alloc (.cells #[] 60)) #[] 0 hsz (by decide) rfl);replace X6:=hid ((st.blk B6 (lt_kind X6.out) (fun h=>h)).trans X6.out);clear st hsz
      refine hK.out _ _ hR (fun hHeld=>?_)
      clear hK K
      (try simp only [Act.put,sA,sZ,sS])
      refine gk1 5 (fun K hK=>?_)
      refine Dsk.step_app rfl (.tmp 28) (.tmp 30) el66 rfl (Value.slice (some ⟨w6.heap.size,0,none⟩) 0 0) 0 [] rfl (rr_base E2.out (Nat.zero_le _)) aL L cL vs rfl (src_row NR.out HV1.out) (by omega) ?_;simp only [Nat.zero_add,List.nil_append];intro a5 c5 w5 ho hg ha;have st:=fr_grown hg;have hE:∀ b,(Value.slice (some ⟨w6.heap.size,0,none⟩) 0 0).ownBlock=some b→b≠r∧(b<w.heap.size→(fun _=>False) b):=fun b hb=>⟨fun e=>(by have h8:=(rr_blk E2.out hb).1;have h9:=HRL.out;omega),fun h=>(by have h8:=(rr_blk E2.out hb).1;omega)⟩;have N5:=hid ho;have D5:Hid (∀ k,(Value.slice a5 (L) c5).ownBlock=some k→w.heap.size≤k):=hid (fun k hk=>(by cases a5 with |none=>cases hk |some a=>(cases hk;rcases ha a rfl with h |h;exact (rr_blk E2.out h).1;(rw [h];exact X.out.fr.size))));replace CR:=rn CR E2 st;replace E6:=rn E6 E2 st;have hR:=SU.fr hHeld st (fun h=>(B6ne (rr_kind E2.out h) X6.out (by decide) rfl));replace X:=hid (X.out.move st hE);replace X6:=hid ((st.blk B6 (lt_kind X6.out) (fun h=>(B6ne (rr_kind E2.out h) X6.out (by decide) rfl))).trans X6.out);clear ho hg ha st hE
      refine hK.out _ _ hR (fun hHeld=>?_)
      clear hK K
      (try simp only [Act.put,sA,sZ,sS])
      refine gk1 9 (fun K hK=>?_)
      refine Dsk.step_app rfl (.tmp 32) (.tmp 34) el30 rfl (Value.slice (some ⟨w6.heap.size+1,0,none⟩) 0 0) 0 [] rfl (rr_base E6.out (Nat.zero_le _)) aC L cC (bv cc) rfl (src_row CR.out (bv_one _)) (by omega) ?_;simp only [Nat.zero_add,List.nil_append];intro a9 c9 w9 ho hg ha;have st:=fr_grown hg;have hE:∀ b,(Value.slice (some ⟨w6.heap.size+1,0,none⟩) 0 0).ownBlock=some b→b≠r∧(b<w.heap.size→(fun _=>False) b):=fun b hb=>⟨fun e=>(by have h8:=(rr_blk E6.out hb).1;have h9:=HRL.out;omega),fun h=>(by have h8:=(rr_blk E6.out hb).1;omega)⟩;have N9:=hid ho;have D9:Hid (∀ k,(Value.slice a9 (L) c9).ownBlock=some k→w.heap.size≤k):=hid (fun k hk=>(by cases a9 with |none=>cases hk |some a=>(cases hk;rcases ha a rfl with h |h;exact (rr_blk E6.out h).1;(rw [h];exact X.out.fr.size))));replace N5:=rn N5 E6 st;have hR:=SU.fr hHeld st (fun h=>(B6ne (rr_kind E6.out h) X6.out (by decide) rfl));replace X:=hid (X.out.move st hE);replace X6:=hid ((st.blk B6 (lt_kind X6.out) (fun h=>(B6ne (rr_kind E6.out h) X6.out (by decide) rfl))).trans X6.out);clear ho hg ha st hE
      refine hK.out _ _ hR (fun hHeld=>?_)
      clear hK K
      (try simp only [Act.put,sA,sZ,sS])
      refine gkp 10 ?_
      refine gkp 11 ?_
      refine gk1 12 (fun K hK=>?_)
      have k1:w9.cell? ⟨r,1,none⟩=some _:=(X.out.cell 1).trans rfl;have f1:=X.out.frozen 1;go_simp;have hR:SU B6 (.slice aL L cL) (.slice aC L cC) (w9.setCell ⟨r,1,none⟩ (.slice a5 L c5)):=SU.fr hHeld (fr_setb _ _ _ _) (fun h=>B6r.out h);clear k1 f1
      refine hK.out _ _ hR (fun hHeld=>?_)
      clear hK K
      (try simp only [Act.put,sA,sZ,sS])
      refine gkp 13 ?_
      refine gkp 14 ?_
      refine gk1 15 (fun K hK=>?_)
      have k1:(w9.setCell ⟨r,1,none⟩ (.slice a5 L c5)).cell? ⟨r,2,none⟩=some _:=((X.out.set 1 (.slice a5 L c5)).cell 2).trans rfl;have f1:=(X.out.set 1 (.slice a5 L c5)).frozen 2;go_simp;have hR:SU B6 (.slice aL L cL) (.slice aC L cC) ((w9.setCell ⟨r,1,none⟩ (.slice a5 L c5)).setCell ⟨r,2,none⟩ (.slice a9 L c9)):=SU.fr hHeld (fr_setb _ _ _ _) (fun h=>B6r.out h);clear k1 f1
      refine hK.out _ _ hR (fun hHeld=>?_)
      clear hK K
      (try simp only [Act.put,sA,sZ,sS])
      refine wpAnyK_done (by kernel_rfl) ?_ _
      clear hHeld hR
      have hr9:¬r=w9.heap.size:=(by have h8:=X.out.fr.size;have h9:=HRL.out;omega)
      have k4:w9.cell? ⟨r,4,none⟩=some _:=(X.out.cell 4).trans rfl
      have k1:w9.cell? ⟨r,1,none⟩=some _:=(X.out.cell 1).trans rfl
      have k2:w9.cell? ⟨r,2,none⟩=some _:=(X.out.cell 2).trans rfl
      have AF:Hid (∀ u2:World,u2=((w9.setCell ⟨r,1,none⟩ (.slice a5 L c5)).setCell ⟨r,2,none⟩ (.slice a9 L c9)).alloc (.cells #[] 129)→AfU w r sv (.slice (some ⟨gM,0,none⟩) LM cM) bz la tn (.slice a5 L c5) (.slice a9 L c9) L vs (bv cc) w9.heap.size u2):=hid (fun u2 hu2=>af_undo X.out N5.out N9.out D5.out D9.out hu2)
      have k8:(((w9.setCell ⟨r,1,none⟩ (.slice a5 L c5)).setCell ⟨r,2,none⟩ (.slice a9 L c9)).alloc (.cells #[] 129)).cell? ⟨r,4,none⟩=some (.slice (some ⟨gM,0,none⟩) LM cM):=((AF.out _ rfl).x.cell 4).trans rfl
      go_wp2_with ((with_reducible refine Dsk.here_op 49 ?_);have A8:=AF.out _ rfl;refine wpList_app3 rfl (.tmp 41) (.tmp 48) el33 rfl (.slice (some ⟨w9.heap.size,0,none⟩) 0 0) 0 [] rfl (rr_base A8.e (Nat.zero_le _)) (some ⟨gM,0,none⟩) (k+1) cM (MC.take ((k+1)*3)) rfl (src3_take (src3_row (rr_fr HMRW.out A8.x.fr (fun b hb e=>(by rcases e with e |e;exact HMR.out b hb e;exact e))) HONE.out) (by omega)) (by omega) ?_;simp only [Nat.zero_add,List.nil_append];intro aR cR wR ho hg ha;have Z:=hid (A8.after ho hg ha);clear A8 ho hg ha;have k4:wR.cell? ⟨r,4,none⟩=some _:=(Z.out.1.cell 4).trans rfl;have f4:=Z.out.1.frozen 4)
      go_ret
      exact ⟨fun _=>⟨rfl,FIN.out _ _ _ _ _ Z.out.1 Z.out.2.1 Z.out.2.2.1 D5.out D9.out Z.out.2.2.2.1 Z.out.2.2.2.2 rfl⟩,fun e=>(by omega)⟩
     exact AllReadyK.nil
    refine AllReadyK.cons (op_at _ 6 _ rfl) (fun K hK=>?_) ?_
    ·go_simp
     have st:=fr_alloc (fun _=>False) w6.drew (.cells #[] 4);replace NR:=rz NR st;replace CR:=rz CR st;have hsz:w.heap.size≤w6.drew.heap.size:=X.out.fr.size;replace X:=hid (X.out.alloc (.cells #[] 4));have hR:=SU.fr hHeld st (fun h=>h);have E6:Hid ((w6.drew.alloc (.cells #[] 4)).ownsRow w.heap.size 4 1 (.slice (some ⟨w6.heap.size,0,none⟩) 0 0) 0 []):=hid (by have q:w6.drew.heap.size=w6.heap.size:=(by first |rfl |simp);rw [←q];exact World.ownsRow_made w6.drew #[] 0 hsz (by decide) rfl);replace X6:=hid ((st.blk B6 (lt_kind X6.out) (fun h=>h)).trans X6.out);clear st hsz
     refine hK.out _ _ hR (fun hHeld=>?_)
     clear hK K
     (try simp only [Act.put,sA,sZ,sS])
     refine gk1 2 (fun K hK=>?_)
     go_simp
     have st:=fr_alloc (fun _=>False) (w6.drew.alloc (.cells #[] 4)) (.cells #[] 60);replace NR:=rz NR st;replace CR:=rz CR st;replace E6:=rz E6 st;have hsz:w.heap.size≤(w6.drew.alloc (.cells #[] 4)).heap.size:=X.out.fr.size;replace X:=hid (X.out.alloc (.cells #[] 60));have hR:=SU.fr hHeld st (fun h=>h);have E2:Hid (((w6.drew.alloc (.cells #[] 4)).alloc (.cells #[] 60)).ownsRow w.heap.size 60 1 (.slice (some ⟨w6.heap.size+1,0,none⟩) 0 0) 0 []):=hid (by have q:(w6.drew.alloc (.cells #[] 4)).heap.size=w6.heap.size+1:=(by first |rfl |simp);rw [←q];exact World.ownsRow_made (w6.drew.alloc (.cells #[] 4)) #[] 0 hsz (by decide) rfl);replace X6:=hid ((st.blk B6 (lt_kind X6.out) (fun h=>h)).trans X6.out);clear st hsz
     refine hK.out _ _ hR (fun hHeld=>?_)
     clear hK K
     (try simp only [Act.put,sA,sZ,sS])
     refine gk1 5 (fun K hK=>?_)
     refine Dsk.step_app rfl (.tmp 28) (.tmp 30) el66 rfl (Value.slice (some ⟨w6.heap.size+1,0,none⟩) 0 0) 0 [] rfl (rr_base E2.out (Nat.zero_le _)) aL L cL vs rfl (src_row NR.out HV1.out) (by omega) ?_;simp only [Nat.zero_add,List.nil_append];intro a5 c5 w5 ho hg ha;have st:=fr_grown hg;have hE:∀ b,(Value.slice (some ⟨w6.heap.size+1,0,none⟩) 0 0).ownBlock=some b→b≠r∧(b<w.heap.size→(fun _=>False) b):=fun b hb=>⟨fun e=>(by have h8:=(rr_blk E2.out hb).1;have h9:=HRL.out;omega),fun h=>(by have h8:=(rr_blk E2.out hb).1;omega)⟩;have N5:=hid ho;have D5:Hid (∀ k,(Value.slice a5 (L) c5).ownBlock=some k→w.heap.size≤k):=hid (fun k hk=>(by cases a5 with |none=>cases hk |some a=>(cases hk;rcases ha a rfl with h |h;exact (rr_blk E2.out h).1;(rw [h];exact X.out.fr.size))));replace CR:=rn CR E2 st;replace E6:=rn E6 E2 st;have hR:=SU.fr hHeld st (fun h=>(B6ne (rr_kind E2.out h) X6.out (by decide) rfl));replace X:=hid (X.out.move st hE);replace X6:=hid ((st.blk B6 (lt_kind X6.out) (fun h=>(B6ne (rr_kind E2.out h) X6.out (by decide) rfl))).trans X6.out);clear ho hg ha st hE
     refine hK.out _ _ hR (fun hHeld=>?_)
     clear hK K
     (try simp only [Act.put,sA,sZ,sS])
     refine gk1 9 (fun K hK=>?_)
     refine Dsk.step_app rfl (.tmp 32) (.tmp 34) el30 rfl (Value.slice (some ⟨w6.heap.size,0,none⟩) 0 0) 0 [] rfl (rr_base E6.out (Nat.zero_le _)) aC L cC (bv cc) rfl (src_row CR.out (bv_one _)) (by omega) ?_;simp only [Nat.zero_add,List.nil_append];intro a9 c9 w9 ho hg ha;have st:=fr_grown hg;have hE:∀ b,(Value.slice (some ⟨w6.heap.size,0,none⟩) 0 0).ownBlock=some b→b≠r∧(b<w.heap.size→(fun _=>False) b):=fun b hb=>⟨fun e=>(by have h8:=(rr_blk E6.out hb).1;have h9:=HRL.out;omega),fun h=>(by have h8:=(rr_blk E6.out hb).1;omega)⟩;have N9:=hid ho;have D9:Hid (∀ k,(Value.slice a9 (L) c9).ownBlock=some k→w.heap.size≤k):=hid (fun k hk=>(by cases a9 with |none=>cases hk |some a=>(cases hk;rcases ha a rfl with h |h;exact (rr_blk E6.out h).1;(rw [h];exact X.out.fr.size))));replace N5:=rn N5 E6 st;have hR:=SU.fr hHeld st (fun h=>(B6ne (rr_kind E6.out h) X6.out (by decide) rfl));replace X:=hid (X.out.move st hE);replace X6:=hid ((st.blk B6 (lt_kind X6.out) (fun h=>(B6ne (rr_kind E6.out h) X6.out (by decide) rfl))).trans X6.out);clear ho hg ha st hE
     refine hK.out _ _ hR (fun hHeld=>?_)
     clear hK K
     (try simp only [Act.put,sA,sZ,sS])
     refine gkp 10 ?_
     refine gkp 11 ?_
     refine gk1 12 (fun K hK=>?_)
     have k1:w9.cell? ⟨r,1,none⟩=some _:=(X.out.cell 1).trans rfl;have f1:=X.out.frozen 1;go_simp;have hR:SU B6 (.slice aL L cL) (.slice aC L cC) (w9.setCell ⟨r,1,none⟩ (.slice a5 L c5)):=SU.fr hHeld (fr_setb _ _ _ _) (fun h=>B6r.out h);clear k1 f1
     refine hK.out _ _ hR (fun hHeld=>?_)
     clear hK K
     (try simp only [Act.put,sA,sZ,sS])
     refine gkp 13 ?_
     refine gkp 14 ?_
     refine gk1 15 (fun K hK=>?_)
     have k1:(w9.setCell ⟨r,1,none⟩ (.slice a5 L c5)).cell? ⟨r,2,none⟩=some _:=((X.out.set 1 (.slice a5 L c5)).cell 2).trans rfl;have f1:=(X.out.set 1 (.slice a5 L c5)).frozen 2;go_simp;have hR:SU B6 (.slice aL L cL) (.slice aC L cC) ((w9.setCell ⟨r,1,none⟩ (.slice a5 L c5)).setCell ⟨r,2,none⟩ (.slice a9 L c9)):=SU.fr hHeld (fr_setb _ _ _ _) (fun h=>B6r.out h);clear k1 f1
     refine hK.out _ _ hR (fun hHeld=>?_)
     clear hK K
     (try simp only [Act.put,sA,sZ,sS])
     refine wpAnyK_done (by kernel_rfl) ?_ _
     clear hHeld hR
     have hr9:¬r=w9.heap.size:=(by have h8:=X.out.fr.size;have h9:=HRL.out;omega)
     have k4:w9.cell? ⟨r,4,none⟩=some _:=(X.out.cell 4).trans rfl
     have k1:w9.cell? ⟨r,1,none⟩=some _:=(X.out.cell 1).trans rfl
     have k2:w9.cell? ⟨r,2,none⟩=some _:=(X.out.cell 2).trans rfl
     have AF:Hid (∀ u2:World,u2=((w9.setCell ⟨r,1,none⟩ (.slice a5 L c5)).setCell ⟨r,2,none⟩ (.slice a9 L c9)).alloc (.cells #[] 129)→AfU w r sv (.slice (some ⟨gM,0,none⟩) LM cM) bz la tn (.slice a5 L c5) (.slice a9 L c9) L vs (bv cc) w9.heap.size u2):=hid (fun u2 hu2=>af_undo X.out N5.out N9.out D5.out D9.out hu2)
     have k8:(((w9.setCell ⟨r,1,none⟩ (.slice a5 L c5)).setCell ⟨r,2,none⟩ (.slice a9 L c9)).alloc (.cells #[] 129)).cell? ⟨r,4,none⟩=some (.slice (some ⟨gM,0,none⟩) LM cM):=((AF.out _ rfl).x.cell 4).trans rfl
     go_wp2_with ((with_reducible refine Dsk.here_op 49 ?_);have A8:=AF.out _ rfl;refine wpList_app3 rfl (.tmp 41) (.tmp 48) el33 rfl (.slice (some ⟨w9.heap.size,0,none⟩) 0 0) 0 [] rfl (rr_base A8.e (Nat.zero_le _)) (some ⟨gM,0,none⟩) (k+1) cM (MC.take ((k+1)*3)) rfl (src3_take (src3_row (rr_fr HMRW.out A8.x.fr (fun b hb e=>(by rcases e with e |e;exact HMR.out b hb e;exact e))) HONE.out) (by omega)) (by omega) ?_;simp only [Nat.zero_add,List.nil_append];intro aR cR wR ho hg ha;have Z:=hid (A8.after ho hg ha);clear A8 ho hg ha;have k4:wR.cell? ⟨r,4,none⟩=some _:=(Z.out.1.cell 4).trans rfl;have f4:=Z.out.1.frozen 4)
     go_ret
     exact ⟨fun _=>⟨rfl,FIN.out _ _ _ _ _ Z.out.1 Z.out.2.1 Z.out.2.2.1 D5.out D9.out Z.out.2.2.2.1 Z.out.2.2.2.2 rfl⟩,fun e=>(by omega)⟩
    exact AllReadyK.nil
   ·have hz:=HBE.out k m (by omega) hm
    have hz2:¬(m.id:Int)=z:=hz
    obtain ⟨MID,hMID⟩:∃ MID:Int,MID=(m.id:Int):=⟨_,rfl⟩
    rw [←hMID]at d0 hz2
    have e1:IntKind.i64.wrap ((k:Int)+1)=((k+1:Nat):Int):=by rw [IntWalk.i64_in _ ⟨by omega,by omega⟩];omega
    clear hz
    go_wp2
    exact ⟨⟨k+1,by omega,by first |rfl |rw [e1] |go_num,hid (B.out.alloc B.out.size _)⟩,by simp [Lib.intOf];omega⟩
  ·go_wp2
   go_ret
   exact ⟨fun e=>(by omega),fun _=>⟨rfl,B.out⟩⟩
end
end Go.Proofs.YtadhdedjdgjboaaGreatDoor
