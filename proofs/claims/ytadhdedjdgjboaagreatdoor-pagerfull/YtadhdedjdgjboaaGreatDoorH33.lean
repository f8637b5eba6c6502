/- The document's pager: Put; no statement of the seat is proved here. -/
import Derived.Test.YtadhdedjdgjboaaGreatDoorH32
import Derived.Test.YtadhdedjdgjboaaGreatDoorH17
set_option maxHeartbeats 16000000
set_option maxRecDepth 20000
namespace Go.Proofs.YtadhdedjdgjboaaGreatDoor
section
open Go.RowKit Go.Maps
open Dsk (gt hid undrew keep_old keep_cell lt_cell Rd bs bs_length bs_one own_lt own_ne own_set own_later El row_form src_row el37 el66 el30 op_at)
open Cch (Fr wpAnyK wpAnyK_take wpAnyK_pure wpAnyK_ready wpAnyK_done wp_region_K AllReadyK.cons AllReadyK.nil AllReadyK.late)
variable {v:Value} {n:Nat} {w:World}
theorem rr_kind{B sz:Nat}{e:TypeId}{xs:List Value}(h:w.ownsRow B e sz v n xs){k:Nat}(hk:v.ownBlock=some k):∃ cur,w.heap[k]? = some (.cells cur e (0,0)):=by
 rcases h.2 with ⟨rfl,_⟩ | ⟨g,cap,cur,rfl,_,hg,_⟩
 ·cases hk
 ·cases hk;exact ⟨cur,hg⟩
def No5(E:Nat→Prop)(w:World):Prop:=∀ k cur,w.heap[k]? = some (.cells cur 5 (0,0))→¬E k
variable {S S' E:Nat→Prop} {w':World}
theorem PageAt.fr{x:Pg}(h:PageAt w S v x)(hf:Fr E w w')(h5:No5 E w)(hs:∀ k,S k→S' k):PageAt w' S' v x:=
 h.stay (fun k hk=>hf.blk k (own_lt h.1 hk) (by obtain ⟨cur,hc⟩:=rr_kind h.1 hk;exact h5 k cur hc)) hs
variable {l:List Pg}
theorem PagesAt.far{vs:List Value}(h:PagesAt w S vs l)(hf:Fr E w w')(h5:No5 E w)(hs:∀ k,S k→S' k):PagesAt w' S' vs l:=
 ⟨h.len,fun i v x hv hx=>(h.at_ i v x hv hx).fr hf h5 hs⟩
theorem LAt.far(h:LAt w S v l)(hf:Fr E w w')(h5:No5 E w)(hv:∀ k,v.ownBlock=some k→¬E k)(hs:∀ k,S k→S' k):LAt w' S' v l:=by
 obtain ⟨vs,hr,hp⟩:=h.row
 exact ⟨⟨vs,rr_fr hr hf hv,hp.far hf h5 hs⟩,fun k hk=>hs k (h.own k hk)⟩
theorem BAt.far{c:List Bool}(h:BAt w S v c)(hf:Fr E w w')(hv:∀ k,v.ownBlock=some k→¬E k)(hs:∀ k,S k→S' k):BAt w' S' v c:=
 ⟨rr_fr h.row hf hv,fun k hk=>hs k (h.own k hk)⟩
def E3(r:Nat)(V:RV):Nat→Prop:=fun b=>b=r∨V.nv.ownBlock=some b∨V.cv.ownBlock=some b
variable {t:RS} {V:RV} {r:Nat}
theorem RefP.no5(h:RefP w r S V t):No5 (E3 r V) w:=fun k cur hk he=>by
 rcases he with rfl |he |he
 ·rw [h.box]at hk;simp at hk
 ·obtain ⟨vs,hr,_⟩:=h.now.row
  obtain ⟨c2,h2⟩:=rr_kind hr he
  rw [hk]at h2;simp at h2
 ·obtain ⟨c2,h2⟩:=rr_kind h.c.row he
  rw [hk]at h2;simp at h2
theorem RefP.no60(h:RefP w r S V t){v:Value}{l:List Pg}(hl:LAt w S v l)(hn:∀ k,v.ownBlock=some k→V.nv.ownBlock≠some k):∀ k,v.ownBlock=some k→¬E3 r V k:=fun k hk he=>by
 rcases he with rfl |he |he
 ·exact h.nr (hl.own k hk)
 ·exact hn k hk he
 ·obtain ⟨vs,hr,_⟩:=hl.row
  exact rr_ne hr h.c.row (by decide) hk he rfl
theorem RefP.no4(h:RefP w r S V t){v:Value}{c:List Bool}(hl:BAt w S v c)(hn:∀ k,v.ownBlock=some k→V.cv.ownBlock≠some k):∀ k,v.ownBlock=some k→¬E3 r V k:=fun k hk he=>by
 rcases he with rfl |he |he
 ·exact h.nr (hl.own k hk)
 ·obtain ⟨vs,hr,_⟩:=h.now.row
  exact rr_ne hl.row hr (by decide) hk he rfl
 ·exact hn k hk he
theorem RefP.no129(h:RefP w r S V t):∀ k,V.mv.ownBlock=some k→¬E3 r V k:=fun k hk he=>by
 rcases he with rfl |he |he
 ·exact h.nr (h.mown k hk)
 ·obtain ⟨vs,hr,_⟩:=h.now.row
  exact rr_ne h.mrow hr (by decide) hk he rfl
 ·exact rr_ne h.mrow h.c.row (by decide) hk he rfl
variable {W:World}
theorem RefP.turned(h:RefP w r S V t)(hb:t.busy=true)(hf:Fr (E3 r V) w W){nv cv:Value}{now:List Pg}{c:List Bool}
  (box:W.heap[r]? = some (.cells #[V.sv,nv,cv,.bool true,V.mv,.int .i64 (t.last:Int),.int .i64 (t.n:Int)] 35 (0,0))) (N:LAt W (New S w W) nv now) (C:BAt W (New S w W) cv c) (hl:c.length=now.length)
  (bn:∀ k,nv.ownBlock=some k→V.nv.ownBlock=some k∨w.heap.size≤k) (bc:∀ k,cv.ownBlock=some k→V.cv.ownBlock=some k∨w.heap.size≤k) :
  (∃ S' V',RefP W r S' V' { t with now:=now,c:=c }∧∀ k,S' k→S k∨w.heap.size≤k)∧Fr (fun b=>b=r∨S b) w W:=by
 have ha:=h.ap hb
 have hi:∀ k,S k→New S w W k:=fun _ h=>Or.inl h
 refine ⟨⟨New S w W,{ V with nv:=nv,cv:=cv },⟨by rw [hb];exact box,h.new_nr,h.new_lt hf.size,h.sure.far hf h.no5 (h.no60 h.sure (fun k hk e=>(ha.1 k e).1 hk)) hi,N,C,hl,rr_fr h.mrow hf h.no129,fun k hk=>hi k (h.mown k hk),h.mlen,fun i m v hm hv=>?_,fun _=>⟨fun k hk=>⟨fun e=>?_,fun v hv e=>?_⟩,fun k hk v hv e=>?_⟩⟩,fun k hk=>?_⟩,⟨hf.os,hf.tape,hf.output,hf.size,fun k hk hn=>hf.blk k hk (fun e=>?_)⟩⟩
 ·have hm2:=h.each i m v hm hv
  have hvm:v∈V.ml:=List.mem_of_getElem? hv
  exact ⟨hm2.1.far hf h.no5 (h.no60 hm2.1 (fun k hk e=>(ha.1 k e).2 v hvm hk)) hi,hm2.2.far hf (h.no4 hm2.2 (fun k hk e=>ha.2 k e v hvm hk)) hi⟩
 ·rcases bn k hk with h1 |h1
  ·exact (ha.1 k h1).1 e
  ·have:=h.lt k (h.sure.own k e);omega
 ·rcases bn k hk with h1 |h1
  ·exact (ha.1 k h1).2 v hv e
  ·obtain ⟨i,hi2⟩:=List.mem_iff_getElem?.1 hv
   have hil:i<t.marks.length:=by rw [←h.mlen];exact (List.getElem?_eq_some_iff.1 hi2).1
   have:=h.lt k ((h.each i _ v (List.getElem?_eq_getElem hil) hi2).1.own k e);omega
 ·rcases bc k hk with h1 |h1
  ·exact ha.2 k h1 v hv e
  ·obtain ⟨i,hi2⟩:=List.mem_iff_getElem?.1 hv
   have hil:i<t.marks.length:=by rw [←h.mlen];exact (List.getElem?_eq_some_iff.1 hi2).1
   have:=h.lt k ((h.each i _ v (List.getElem?_eq_getElem hil) hi2).2.own k e);omega
 ·rcases hk with hk |hk
  ·exact Or.inl hk
  ·exact Or.inr hk.1
 ·rcases e with e |e |e
  ·exact hn (Or.inl e)
  ·exact hn (Or.inr (h.now.own k e))
  ·exact hn (Or.inr (h.c.own k e))
def RTo(w W:World)(r:Nat)(S:Nat→Prop)(t:RS):Prop:=(∃ S' V',RefP W r S' V' t∧∀ k,S' k→S k∨w.heap.size≤k)∧Fr (fun b=>b=r∨S b) w W
def RS.put(t:RS)(i:Nat)(b:Pg):RS:={ t with now:=t.now.set i b,c:=t.c.set i true }
theorem rput_no(r:Nat)(S:Nat→Prop)(V:RV)(t:RS)(z:Int)(bo:Option Addr)(bn bc:Nat)(w:World)(h:RefP w r S V t)(hb:t.busy=false):Calls Tryz.prog 46 #[.pointer (some ⟨r,0,none⟩),.int .i64 z,.slice bo bn bc] w fun e w'=>e=.returned (.int .i64 6)∧w'=w:=by
 obtain ⟨_,_,_,c3,_⟩:=h.cells
 rw [hb]at c3
 clear h
 go_enter Tryz.func46,Tryz.ntmps46
 go_wp2
 go_ret
 exact ⟨rfl,rfl⟩
theorem rput_range(r:Nat)(S:Nat→Prop)(V:RV)(t:RS)(z:Int)(bo:Option Addr)(bn bc:Nat)(w:World)(h:RefP w r S V t)(hb:t.busy=true)(hz:z<1∨(t.now.length:Int)<z):Calls Tryz.prog 46 #[.pointer (some ⟨r,0,none⟩),.int .i64 z,.slice bo bn bc] w fun e w'=>e=.returned (.int .i64 11)∧w'=w:=by
 obtain ⟨_,c1,_,c3,_⟩:=h.cells
 obtain ⟨ao,cap,hv,_,_⟩:=h.now.form
 rw [hb]at c3
 rw [hv]at c1
 clear h hv
 generalize t.now.length=L at *
 by_cases h1:z<1
 ·go_enter Tryz.func46,Tryz.ntmps46
  go_wp2
  go_ret
  exact ⟨rfl,rfl⟩
 ·have h2:(L:Int)<z:=by omega
  go_enter Tryz.func46,Tryz.ntmps46
  go_wp2
  go_ret
  exact ⟨rfl,rfl⟩
theorem rput_arg(r:Nat)(S:Nat→Prop)(V:RV)(t:RS)(z:Int)(bo:Option Addr)(bn bc:Nat)(w:World)(h:RefP w r S V t)(hb:t.busy=true)(h1:1≤z)(h2:z≤(t.now.length:Int))(hn:bn≠512):Calls Tryz.prog 46 #[.pointer (some ⟨r,0,none⟩),.int .i64 z,.slice bo bn bc] w fun e w'=>e=.returned (.int .i64 2)∧w'=w:=by
 obtain ⟨_,c1,_,c3,_⟩:=h.cells
 obtain ⟨ao,cap,hv,_,_⟩:=h.now.form
 rw [hb]at c3
 rw [hv]at c1
 clear h hv
 generalize t.now.length=L at *
 have n1:¬z<1:=by omega
 have n2:¬(L:Int)<z:=by omega
 have n3:¬(bn:Int)=512:=by omega
 go_enter Tryz.func46,Tryz.ntmps46
 go_wp2
 go_ret
 exact ⟨rfl,rfl⟩
abbrev S12(r:Nat)(nv cv:Value)(W:World):Prop:=W.cell? ⟨r,1,none⟩=some nv∧W.cell? ⟨r,2,none⟩=some cv
theorem S12.fr{nv cv:Value}{W':World}(h:S12 r nv cv W)(hf:Fr E W W')(hr:¬E r):S12 r nv cv W':=⟨(World.cell?_of_block (hf.blk r (lt_cell h.1) hr)).trans h.1,(World.cell?_of_block (hf.blk r (lt_cell h.1) hr)).trans h.2⟩
theorem put_fin{w14:World}{i gN gC cN cC:Nat}{b:Pg}{a14:Option Addr}{c14:Nat}(h:RefP w r S V t)(hb:t.busy=true)(hN:V.nv=.slice (some ⟨gN,0,none⟩) t.now.length cN)(hC:V.cv=.slice (some ⟨gC,0,none⟩) t.now.length cC)(hi:i<t.now.length)
  (hB:Below w.heap.size w w14) (N:w14.ownsRow w.heap.size 5 1 (.slice a14 512 c14) 512 (bs b)) (hW:W=(w14.setCell ⟨gN,i,none⟩ (.slice a14 512 c14)).setCell ⟨gC,i,none⟩ (.bool true)):RTo w W r S (t.put i b):=by
 obtain ⟨vs,hr,hp⟩:=h.now.row
 have hr1:=own_later hr hB
 have hc1:=own_later h.c.row hB
 have hcn:=h.cn
 rw [hN]at hr1
 rw [hC,hcn]at hc1
 have hne:gN≠gC:=rr_ne hr1 hc1 (by decide) rfl rfl
 obtain ⟨r2,_,_⟩:=own_set hr1 hi (.slice a14 512 c14)
 obtain ⟨W1,hW1⟩:∃ W1,W1=w14.setCell ⟨gN,i,none⟩ (.slice a14 512 c14):=⟨_,rfl⟩
 rw [←hW1]at r2 hW
 have f1:Fr (fun k=>k=gN) w14 W1:=by rw [hW1];exact fr_setb _ _ _ _
 have c2:=rr_fr hc1 f1 (fun k hk e=>by cases hk;exact hne e.symm)
 obtain ⟨c3,_,_⟩:=own_set c2 hi (.bool true)
 rw [←hW]at c3
 have f2:Fr (fun k=>k=gC) W1 W:=by rw [hW];exact fr_setb _ _ _ _
 have r3:=rr_fr r2 f2 (fun k hk e=>by cases hk;exact hne e)
 have ff:Fr (fun k=>k=gN∨k=gC) w14 W:=(fr_imp f1 (fun _ h=>Or.inl h)).trans f2 (fun _ _ h=>Or.inr h)
 have fE:Fr (E3 r V) w W:=(fr_below (S:=E3 r V) hB).trans ff (fun k _ hk=>by
  rcases hk with rfl |rfl
  ·exact Or.inr (Or.inl (by rw [hN];rfl))
  ·exact Or.inr (Or.inr (by rw [hC];rfl)))
 have hrl:=h.rlt
 have hbox:W.heap[r]? = w.heap[r]?:=(ff.blk r (Nat.lt_of_lt_of_le hrl hB.size) (fun e=>by
  rcases e with rfl |rfl
  ·exact h.nr (h.now.own _ (by rw [hN];rfl))
  ·exact h.nr (h.c.own _ (by rw [hC];rfl)))).trans (hB.block r hrl)
 have hpage:PageAt W (New S w W) (.slice a14 512 c14) b:=by
  have h5:W.ownsRow w.heap.size 5 1 (.slice a14 512 c14) 512 (bs b):=rr_fr N ff (fun k hk e=>by
   rcases e with rfl |rfl
   ·exact rr_ne N hr1 (by decide) hk rfl rfl
   ·exact rr_ne N hc1 (by decide) hk rfl rfl)
  exact ⟨rr_base h5 (Nat.zero_le _),fun k hk=>Or.inr (rr_blk h5 hk)⟩
 refine h.turned (nv:=V.nv) (cv:=V.cv) (now:=t.now.set i b) (c:=t.c.set i true) hb fE (by rw [hbox,h.box,hb]) ⟨⟨vs.set i (.slice a14 512 c14),?_,?_⟩,fun k hk=>Or.inl (h.now.own k hk)⟩ ⟨?_,fun k hk=>Or.inl (h.c.own k hk)⟩ (by simp [hcn]) (fun _ h=>Or.inl h) (fun _ h=>Or.inl h)
 ·rw [hN,List.length_set];exact r3
 ·exact (hp.far fE h.no5 (fun _ h=>Or.inl h)).set i hpage
 ·rw [hC,List.length_set,hcn]
  have e:bv (t.c.set i true)=(bv t.c).set i (.bool true):=by simp [bv]
  rw [e];exact c3
theorem rd_src{ao:Option Addr}{c:Nat}{xs:List Nat}(h:Rd w ao n c xs):Dsk.Src w ao n c (bs xs):=by
 refine ⟨by rw [bs_length];exact h.1,fun h0=>h.2.2.1 h0,fun ad ha j u hu=>?_,bs_one _⟩
 have hj:j<xs.length:=by have:=(List.getElem?_eq_some_iff.1 hu).1;rwa [bs_length]at this
 obtain ⟨b,off,e,hc⟩:=h.2.2.2 (by have:=h.1;omega)
 rw [ha]at e
 obtain rfl:=Option.some.inj e
 rw [Addr.add_lit,hc j (by have:=h.1;omega),←hu,bs,List.getElem?_map,List.getD,List.getElem?_eq_getElem hj]
 rfl
theorem rput_yes(r:Nat)(S:Nat→Prop)(V:RV)(t:RS)(i:Nat)(bo:Option Addr)(bc:Nat)(b:Pg)(w:World)(h:RefP w r S V t)(hb:t.busy=true)(hi:i<t.now.length)(hl:t.now.length≤4000)(hrd:Rd w bo 512 bc b) :
  Calls Tryz.prog 46 #[.pointer (some ⟨r,0,none⟩),.int .i64 ((i+1:Nat):Int),.slice bo 512 bc] w fun e w'=>e=.returned (.int .i64 0)∧RTo w w' r S (t.put i b):=by
 obtain ⟨_,c1,c2,c3,_⟩:=h.cells
 rw [hb]at c3
 obtain ⟨aN,cN,hNV,hN0,hN1⟩:=h.now.form
 obtain ⟨aC,cC,hCV,hC0,hC1⟩:=row_form h.c.row
 rw [h.cn]at hCV hC0 hC1
 obtain ⟨vs,hnr,_⟩:=h.now.row
 have hcr:=h.c.row
 rw [h.cn]at hcr
 cases aN with
 | none=>have:=(hN0 rfl).1;omega
 | some aN=>
 cases aC with
 | none=>have:=(hC0 rfl).1;omega
 | some aC=>
 obtain ⟨e1,_,_⟩:=hN1 aN rfl
 obtain ⟨e2,_,_⟩:=hC1 aC rfl
 obtain ⟨gN,hgN⟩:∃ gN,aN.block=gN:=⟨_,rfl⟩
 obtain ⟨gC,hgC⟩:∃ gC,aC.block=gC:=⟨_,rfl⟩
 rw [hgN]at e1;rw [hgC]at e2
 subst e1;subst e2
 have FIN:=hid (fun w14 a14 c14 W hB N hW=>put_fin (b:=b) (w14:=w14) (W:=W) (a14:=a14) (c14:=c14) h hb hNV hCV hi hB N hW)
 have HGR:Hid (gN≠r∧gC≠r∧gC≠gN):=hid ⟨fun e=>h.nr (h.now.own r (by rw [hNV,e];rfl)),fun e=>h.nr (h.c.own r (by rw [hCV,e];rfl)),fun e=>by rw [hNV]at hnr;rw [hCV]at hcr;exact rr_ne hnr hcr (by decide) rfl rfl e.symm⟩
 rw [hNV]at c1 hnr;rw [hCV]at c2 hcr
 have HNR:=hid hnr;have HCR:=hid hcr;have HI:=hid hi;have HRL:=hid h.rlt;have HRD:=hid hrd
 clear h hb hNV hCV hN0 hN1 hC0 hC1 hnr hcr hrd hgN hgC
 obtain ⟨b0,hb0⟩:∃ b0,b0=b:=⟨_,rfl⟩
 generalize t.now.length=L at *
 have hiL:(i:Int)<(L:Int):=by omega
 have hi0:(0:Int)≤(i:Int):=by omega
 obtain ⟨N,hN⟩:∃ N:Int,N=((i+1:Nat):Int):=⟨_,rfl⟩
 rw [←hN]
 have n1:¬N<1:=by omega
 have n2:¬(L:Int)<N:=by omega
 have n3:N - 1=(i:Int):=by omega
 have n4:IntKind.i64.wrap (N - 1)=(i:Int):=by rw [IntWalk.i64_in _ ⟨by omega,by omega⟩];exact n3
 have n5:IntKind.i64.wrap (i:Int)=(i:Int):=IntWalk.i64_in _ ⟨by omega,by omega⟩
 clear hN hi hb0
 go_enter Tryz.func46,Tryz.ntmps46
 go_upto_region 7 with fail
 refine wp_region_K (S:=S12 r (.slice (some ⟨gN,0,none⟩) L cN) (.slice (some ⟨gC,0,none⟩) L cC)) (fun _=>false) (by kernel_rfl) (⟨c1,c2⟩) (fun hHeld=>?_)
 refine gkp 0 ?_
 refine gkp 1 ?_
 refine gkp 2 ?_
 refine gkt 3 ?_ (h:=by intro W hSw;obtain ⟨k1,k2⟩:=hSw;go_simp;first |done |with_reducible rfl)
 refine gkp 4 ?_
 refine gkp 5 ?_
 refine gkp 6 ?_
 refine gkp 7 ?_
 refine gkp 8 ?_
 refine gkt 9 ?_ (h:=by intro W hSw;obtain ⟨k1,k2⟩:=hSw;go_simp;first |done |with_reducible rfl)
 refine gkp 10 ?_
 refine gkp 11 ?_
 refine gkp 13 ?_
 refine gk1 12 (fun K hK=>?_)
 go_simp
 have st:=fr_alloc (fun _=>False) w.drew (.cells #[] 5);have hR:=S12.fr hHeld st (fun h=>h);have E12:Hid ((w.drew.alloc (.cells #[] 5)).ownsRow w.heap.size 5 1 (.slice (some ⟨w.heap.size,0,none⟩) 0 0) 0 []):=hid (World.ownsRow_made w.drew #[] 0 (Nat.le_refl _) (by decide) rfl);have B12:Hid (Below w.heap.size w (w.drew.alloc (.cells #[] 5))):=hid ((Below.refl _ w).drew.alloc (Nat.le_refl _) _);clear st
 refine hK.out _ _ hR (fun hHeld=>?_)
 clear hK K
 (try simp only [Act.put,sA,sZ,sS])
 refine gk1 14 (fun K hK=>?_)
 refine Dsk.step_app rfl (.tmp 41) (.tmp 42) el37 rfl (.slice (some ⟨w.heap.size,0,none⟩) 0 0) 0 [] rfl (rr_base E12.out (Nat.zero_le _)) bo 512 bc (bs b) rfl (rd_src (HRD.out.keep B12.out)) (by omega) ?_;simp only [Nat.zero_add,List.nil_append];intro a14 c14 w14 ho hg ha;have st:=fr_grown hg;have hR:=S12.fr hHeld st (fun h=>by have h8:=HRL.out;simp [Value.ownBlock]at h;omega);have N14:Hid (w14.ownsRow w.heap.size 5 1 (.slice a14 512 c14) 512 (bs b)):=hid (rr_up ho (fun k hk=>(by cases a14 with |none=>cases hk |some a=>(cases hk;rcases ha a rfl with h |h;(simp [Value.ownBlock]at h;omega);(rw [h];simp)))));have B14:Hid (Below w.heap.size w w14):=hid (B12.out.grown hg (by simp) (fun k hk=>by simp [Value.ownBlock]at hk;omega));clear ho hg ha st E12 B12
 refine hK.out _ _ hR (fun hHeld=>?_)
 clear hK K
 (try simp only [Act.put,sA,sZ,sS])
 refine gkp 15 ?_
 refine gk1 16 (fun K hK=>?_)
 obtain ⟨_,⟨u16,k16⟩,f16⟩:=own_set (own_later HNR.out B14.out) HI.out (.slice a14 512 c14);go_simp;have hR:S12 r (.slice (some ⟨gN,0,none⟩) L cN) (.slice (some ⟨gC,0,none⟩) L cC) (w14.setCell ⟨gN,i,none⟩ (.slice a14 512 c14)):=S12.fr hHeld (fr_setb _ _ _ _) (fun h=>HGR.out.1 h.symm);clear k16 f16
 refine hK.out _ _ hR (fun hHeld=>?_)
 clear hK K
 (try simp only [Act.put,sA,sZ,sS])
 refine gkp 17 ?_
 refine gk1 18 (fun K hK=>?_)
 obtain ⟨_,⟨u18,k18⟩,f18⟩:=own_set (rr_fr (own_later HCR.out B14.out) (fr_setb w14 gN i (.slice a14 512 c14)) (fun k hk e=>by cases hk;exact HGR.out.2.2 e)) HI.out (.bool true);go_simp;have hR:S12 r (.slice (some ⟨gN,0,none⟩) L cN) (.slice (some ⟨gC,0,none⟩) L cC) ((w14.setCell ⟨gN,i,none⟩ (.slice a14 512 c14)).setCell ⟨gC,i,none⟩ (.bool true)):=S12.fr hHeld (fr_setb _ _ _ _) (fun h=>HGR.out.2.1 h.symm);clear k18 f18
 refine hK.out _ _ hR (fun hHeld=>?_)
 clear hK K
 (try simp only [Act.put,sA,sZ,sS])
 refine wpAnyK_done (by kernel_rfl) ?_ _
 clear hHeld hR
 go_wp2
 go_ret
 exact ⟨rfl,FIN.out _ _ _ _ B14.out N14.out rfl⟩
end
end Go.Proofs.YtadhdedjdgjboaaGreatDoor
