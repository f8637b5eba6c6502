/- Put into a tree that is one leaf, behind its last key; no statement of the seat is proved here. -/
import Derived.Test.YtenajbfeojljdaaGreatDoorV47
set_option maxHeartbeats 16000000
set_option maxRecDepth 20000
namespace Go.Proofs.YtenajbfeojljdaaGreatDoor
namespace Tre
open Go.RowKit Go.Maps
open Dsk (gt hid undrew keep_old keep_cell lt_cell newD)
open Jrn (Row5)
open Cch (Fr wpAnyK wpAnyK_done wp_region_K hd_cell hd_frozen blk_set)
open Cel (C Cs Cok NB At5 ext1 below_set I64 nrm hasN pageN)
open Spl (Same AllB)
section
variable {arm:Prop} {room croom K:Nat} {p q:Nat} {R:Nat→Prop} {t:RS} {w:World} {hb tb root:Nat} {tr:List (Nat×List Nat)} {ws:List Nat}
variable {W W':World}
theorem fr_grown{v:Value}(h:W.grownBy W' v.ownBlock):Fr (fun b=>v.ownBlock=some b) W W':=⟨h.os,h.tape,h.output,h.size,fun k hk hne=>h.block k hk (fun e=>hne e.symm)⟩
def eC(key:Int)(xs:List Nat):C:=⟨key,0,xs.length,none,0,0,0,xs⟩
variable {cn cc:Nat} {co:Option Addr}
theorem own_blk{n k:Nat}{t:TypeId}{xs:List Value}(h:W.ownsRow 0 t k (.slice co cn cc) n xs){b:Nat}(hb:(Value.slice co cn cc).ownBlock=some b):co=some ⟨b,0,none⟩∧∃ cur,W.heap[b]? = some (.cells cur t (0,0)):=by
 rcases h.2 with ⟨h1,_⟩ | ⟨g,cap,cur,e,_,hgg,_⟩
 ·rw [h1]at hb;simp [Value.ownBlock]at hb
 ·rw [e]at hb
  simp [Value.ownBlock]at hb
  subst hb
  simp only [Value.slice.injEq]at e
  exact ⟨e.1,cur,hgg⟩
variable {a:C} {cs:List C} {pl r pg lo hi:Int} {leaf:Bool} {g cap:Nat} {w6:World} {S:Nat→Prop}
theorem way_put{co':Option Addr}{cc':Nat}(h:Way1 S W g cap ⟨pg,lo,hi,leaf,r,co,cn,cc,pl⟩ cs)(ho:w6.ownsRow 0 116 5 (.slice co' (cn+1) cc') (cn+1) (Cel.cv (cs++[a])))(hg:W.grownBy w6 (Value.slice co cn cc).ownBlock)(hnew:∀ b o,co'=some ⟨b,o,none⟩→S b∨(W.heap.size≤b∧b<w6.heap.size))(ha:Cok W a)(ha5:0<a.n→∀ b o,a.o=some ⟨b,o,none⟩→Cel.T5 W b) :
  Way1 (fun b=>(S b∨(W.heap.size≤b∧b<w6.heap.size))∨∃ o,a.o=some ⟨b,o,none⟩) (w6.setCell ⟨g,5,none⟩ (.slice co' (cn+1) cc')) g cap ⟨pg,lo,hi,leaf,r,co',cn+1,cc',pl⟩ (cs++[a])∧Fr S W (w6.setCell ⟨g,5,none⟩ (.slice co' (cn+1) cc')):=by
 have F6:=fr_grown hg
 have hng:¬(Value.slice co cn cc).ownBlock=some g:=fun e=>by
  obtain ⟨_,cur,hx⟩:=own_blk h.nod.own e
  obtain ⟨cur',hy,_⟩:=row_parts h.own
  rw [hx]at hy
  simp only [Option.some.injEq,Obj.cells.injEq]at hy
  exact absurd hy.2.1 (by decide)
 have hg6:w6.heap[g]? = W.heap[g]?:=F6.blk g h.lt hng
 have h5x:∀ b,Cel.T5 W b→b<W.heap.size∧(w6.setCell ⟨g,5,none⟩ (.slice co' (cn+1) cc')).heap[b]? = W.heap[b]?:=fun b h5=>by
  obtain ⟨D,m,hx⟩:=h5
  have hb:=(Array.getElem?_eq_some_iff.1 hx).1
  refine ⟨hb,?_⟩
  rw [heap_setCell_other _ _ b _ (fun e=>t5_row ⟨D,m,hx⟩ h.own (by decide) (by simpa using e))]
  exact F6.blk b hb (fun e=>by
   obtain ⟨_,cur,hx'⟩:=own_blk h.nod.own e
   rw [hx]at hx'
   simp only [Option.some.injEq,Obj.cells.injEq]at hx'
   exact absurd hx'.2.1 (by decide))
 have hck:∀ c,Cok W c→(0<c.n→∀ b o,c.o=some ⟨b,o,none⟩→Cel.T5 W b)→Cok (w6.setCell ⟨g,5,none⟩ (.slice co' (cn+1) cc')) c:=fun c k h5=>{ k with rd:=k.rd.same (fun hp b o e _=>(h5x b (h5 hp b o e)).2) }
 have h55:∀ b,Cel.T5 W b→Cel.T5 (w6.setCell ⟨g,5,none⟩ (.slice co' (cn+1) cc')) b:=fun b h5=>by
  obtain ⟨D,m,hx⟩:=h5
  exact ⟨D,m,(h5x b ⟨D,m,hx⟩).2.trans hx⟩
 refine ⟨⟨sv_set (s:=⟨pg,lo,hi,leaf,r,co,cn,cc,pl⟩) (row_same h.own hg6) _ _ _,Or.inl (Or.inl h.mem),⟨⟨ho.1,?_⟩,fun c hc=>?_,by simp [h.nod.len],fun b o e=>Or.inl (hnew b o e),fun c hc hn b o e=>?_,fun c hc hn b o e=>?_⟩⟩,?_⟩
 ·rcases ho.2 with h1 | ⟨gc,cap',cur,e,hb,hgg,h2⟩
  ·exact Or.inl h1
  ·refine Or.inr ⟨gc,cap',cur,e,hb,?_,h2⟩
   rw [heap_setCell_other _ _ gc _ (fun e'=>?_)]
   ·exact hgg
   ·simp only at e'
    obtain ⟨cur',hy,_⟩:=row_parts h.own
    rw [e',hg6,hy]at hgg
    simp only [Option.some.injEq,Obj.cells.injEq]at hgg
    exact absurd hgg.2.1 (by decide)
 ·rcases List.mem_append.1 hc with hc |hc
  ·exact hck c (h.nod.ck c hc) (h.nod.t5 c hc)
  ·simp at hc;subst hc;exact hck c ha ha5
 ·rcases List.mem_append.1 hc with hc |hc
  ·exact Or.inl (Or.inl (h.nod.kb c hc hn b o e))
  ·simp at hc;subst hc;exact Or.inr ⟨o,e⟩
 ·rcases List.mem_append.1 hc with hc |hc
  ·exact h55 b (h.nod.t5 c hc hn b o e)
  ·simp at hc;subst hc;exact h55 b (ha5 hn b o e)
 ·exact (fr_imp F6 (fun b e=>h.nod.cb b 0 (own_blk h.nod.own e).1)).set (Or.inl h.mem) _
abbrev SIn(g q12:Nat)(co:Option Addr)(cn cc F:Nat)(a:C)(W:World):Prop:=W.cell? ⟨g,5,none⟩=some (.slice co cn cc)∧W.cell? ⟨g,6,none⟩=some (.int .i64 (F:Int))∧W.cell? ⟨q12,0,none⟩=some (.int .i64 a.k)∧W.cell? ⟨q12,1,none⟩=some (.int .i64 a.c)∧W.cell? ⟨q12,2,none⟩=some (.int .i64 a.l)∧W.cell? ⟨q12,3,none⟩=some (.slice a.o a.n a.m)∧W.cell? ⟨q12,4,none⟩=some (.int .i64 a.x)
variable {F q12:Nat}
theorem SIn.keep(h:SIn g q12 co cn cc F a W)(b:Below W.heap.size W W'):SIn g q12 co cn cc F a W':=⟨keep_old b h.1,keep_old b h.2.1,keep_old b h.2.2.1,keep_old b h.2.2.2.1,keep_old b h.2.2.2.2.1,keep_old b h.2.2.2.2.2.1,keep_old b h.2.2.2.2.2.2⟩
theorem put_held(h:Way1 S W g cap ⟨pg,lo,hi,leaf,r,co,cn,cc,pl⟩ cs)(hg:W.grownBy w6 (Value.slice co cn cc).ownBlock)(hq:q12<W.heap.size∧¬S q12)(hs:SIn g q12 co cn cc F a W):SIn g q12 co cn cc F a w6:=by
 have F6:=fr_grown hg
 have hng:¬(Value.slice co cn cc).ownBlock=some g:=fun e=>by
  obtain ⟨_,cur,hx⟩:=own_blk h.nod.own e
  obtain ⟨cur',hy,_⟩:=row_parts h.own
  rw [hx]at hy
  simp only [Option.some.injEq,Obj.cells.injEq]at hy
  exact absurd hy.2.1 (by decide)
 have e1:=F6.blk g h.lt hng
 have e2:=F6.blk q12 hq.1 (fun e=>hq.2 (h.nod.cb q12 0 (own_blk h.nod.own e).1))
 exact ⟨(World.cell?_of_block e1).trans hs.1,(World.cell?_of_block e1).trans hs.2.1,(World.cell?_of_block e2).trans hs.2.2.1,(World.cell?_of_block e2).trans hs.2.2.2.1,(World.cell?_of_block e2).trans hs.2.2.2.2.1,(World.cell?_of_block e2).trans hs.2.2.2.2.2.1,(World.cell?_of_block e2).trans hs.2.2.2.2.2.2⟩
theorem put_fz(h:Way1 S W g cap ⟨pg,lo,hi,leaf,r,co,cn,cc,pl⟩ cs)(hg:W.grownBy w6 (Value.slice co cn cc).ownBlock):w6.frozen? ⟨g,5,none⟩=false:=by
 obtain ⟨cur',hy,_⟩:=row_parts h.own
 have e1:=(fr_grown hg).blk g h.lt (fun e=>by
  obtain ⟨_,cur,hx⟩:=own_blk h.nod.own e
  rw [hx]at hy
  simp only [Option.some.injEq,Obj.cells.injEq]at hy
  exact absurd hy.2.1 (by decide))
 exact fz5 (e1.trans hy) 5
theorem few_has{l:List C}(h:hasN leaf r l=true)(hc:Cs W co cn cc l):Cel.Few l:=by
 have h1:=Cel.len_le leaf l
 have h2:Cel.sizeN leaf l≤512:=by unfold hasN at h;simp at h;exact h.2
 unfold Cel.sizeN at h2
 refine ⟨by omega,fun a ha=>?_⟩
 have h3:=(hc.ok a ha).rd.1
 have h4:a.b.length≤96:=by
  unfold hasN Cel.goodN at h
  simp only [Bool.and_eq_true]at h
  have h5:=h.1.2
  cases leaf with
  | true=>
   simp only [if_true,Bool.and_eq_true,List.all_eq_true]at h5
   have h6:=h5.2 a ha
   unfold Cel.leafB at h6
   simp at h6
   have:=Cel.locN_le a.l
   omega
  | false=>
   simp only [Bool.false_eq_true,if_false,Bool.and_eq_true,List.all_eq_true]at h5
   have h6:=h5.2 a ha
   unfold Cel.aboveB at h6
   simp at h6
   rw [h6.2.2.1];simp
 omega
variable {cs0:List C}
theorem nrm_app{e:C}(h:cs.map nrm=cs0.map nrm)(ha:nrm a=nrm e):(cs++[a]).map nrm=(cs0++[e]).map nrm:=by simp [h,ha]
theorem page_of{cs':List C}(h:cs.map nrm=cs'.map nrm):pageN leaf r cs=pageN leaf r cs'∧hasN leaf r cs=hasN leaf r cs':=by
 rw [←Cel.page_nrm leaf r cs,←Cel.has_nrm leaf r cs,h,Cel.page_nrm,Cel.has_nrm];exact ⟨rfl,rfl⟩
def Chg1(arm:Prop)(room croom K:Nat)(hb p q:Nat)(R:Nat→Prop)(t:RS)(tr:List (Nat×List Nat))(ws:List Nat)(root:Nat)(cs0:List C)(w w':World):Prop:=
 ∃ t',HeapS arm room croom K w' hb p q R t' tr ws∧NodeAt t'.now root true 0 cs0∧AllB t'.now∧t'.now.length=t.now.length∧Rok R w w'
theorem Put_leaf(key:Int)(bb bo m bc:Nat)(xs:List Nat)(h:HeapS arm room croom K w hb p q R t tr ws)(hA:AllB t.now)(hT:TreeAt w tb hb root)(hm:R tb)(hN:NodeAt t.now root true 0 cs0)(hnf:root∉flat tr)(hr:Cel.Rd w (some ⟨bb,bo,none⟩) m bc xs)(hx:∀ x∈xs,x<256)(h5:Cel.T5 w bb)(hRb:R bb)(hm96:m≤96)(hF:Cel.fN key cs0=cs0.length)(hk:I64 key)(hy:hasN true 0 (cs0++[eC key xs])=true)(hKb:K+2≤500000) :
  Calls Tryz.prog 22 #[.pointer (some ⟨tb,0,none⟩),.int .i64 key,.slice (some ⟨bb,bo,none⟩) m bc] w fun e w'=>e=.returned (.int .i64 0)∧Chg1 arm room croom (K+2+1) hb p q R t tr ws root (cs0++[eC key xs]) w w':=by
 obtain ⟨a,hadef⟩:∃ a:C,a=⟨key,0,m,some ⟨bb,bo,none⟩,m,bc,0,xs⟩:=⟨_,rfl⟩
 have hxl:xs.length=m:=hr.1
 have hna:nrm a=nrm (eC key xs):=by rw [hadef];simp [nrm,eC,hxl]
 have hCok:∀ W,Cel.Rd W (some ⟨bb,bo,none⟩) m bc xs→Cok W a:=fun W hr'=>by
  rw [hadef];exact ⟨hr',hx,hk,by simp [I64],by simp [I64];omega,by simp [I64],by simp [Cel.big];omega⟩
 have cg:=hid (changing_leaf key h hA hT hm hN (by omega))
 have HH:=hid h;have HA:=hid hA;have HT:=hid hT;have HM:=hid hm;have HN:=hid hN;have HNF:=hid hnf;have HR:=hid hr;have H5:=hid h5;have HRB:=hid hRb;have HF:=hid hF;have HY:=hid hy;have HK:=hid hk;have HNA:=hid hna;have HCO:=hid hCok
 have ck:=hid (fun W=>keep_short tb key (some ⟨bb,bo,none⟩) m bc W hm96 ⟨bb,bo,rfl,hr.2.1⟩)
 have hm2:¬(20000:Int)<(m:Int):=by omega
 have hkk:=hid (show a.k=key∧a.c=0∧a.l=(m:Int)∧a.o=some ⟨bb,bo,none⟩∧a.n=m∧a.m=bc∧a.x=0 by rw [hadef];exact ⟨rfl,rfl,rfl,rfl,rfl,rfl,rfl⟩)
 clear h hA hT hm hN hnf hr h5 hRb hF hy hk hx hna hCok hadef
 go_enter Tryz.func22,Tryz.ntmps22
 go_upto_region 7 with (first
  | (go_at_call 55;refine cg.out.mono ?_;rintro e w1 ⟨g,wcap,co,cn,cc,cs,S,rfl,hW,hE,hS,hs,hk⟩;have W1:=hid hW;have E1:=hid hE;have N1:=hid hS;have H1:=hid hs;have K1:=hid hk;clear hW hE hS hs hk)
  | (go_at_call 56;refine (wayleaf_one g wcap _).mono ?_;rintro e w2 ⟨rfl,h2⟩;obtain rfl:=h2.symm;clear h2))
 have hlen:cs.length=cs0.length:=by simpa using congrArg List.length E1.out
 have hcn:cn=cs0.length:=by rw [←hlen];exact W1.out.nod.len.symm
 have HLEN:=hid hlen;have HCN:=hid hcn
 have cr:=hid (remove_no (tb:=tb) g wcap (Cel.fN key cs0) _ cs key W1.out rfl (Or.inl (by rw [HF.out,hlen])))
 rw [HF.out,←hcn]at W1
 clear hlen hcn
 go_upto_region 13 with (first
  | (go_at_call 57;refine cr.out.mono ?_;rintro e w2 ⟨rfl,hb2⟩;have B2:=hid hb2;clear hb2)
  | (go_at_call 58;refine (ck.out _).mono ?_;rintro e w3 ⟨rfl,hb3⟩;have B3:=hid (gt B2.out hb3);clear hb3))
 obtain ⟨q12,hq12⟩:∃ q12,q12=w3.heap.size:=⟨_,rfl⟩
 obtain ⟨W4,hW4⟩:∃ W4,W4=w3.alloc (.cells #[.int .i64 key,.int .i64 0,.int .i64 (m:Int),.slice (some ⟨bb,bo,none⟩) m bc,.int .i64 0] 116):=⟨_,rfl⟩
 have B4:=hid (show Below w1.heap.size w1 W4 by rw [hW4];exact gt B3.out (ext1 _))
 have b12:W4.heap[q12]? = some (.cells #[.int .i64 key,.int .i64 0,.int .i64 (m:Int),.slice (some ⟨bb,bo,none⟩) m bc,.int .i64 0] 116 (0,0)):=by rw [hW4,hq12];exact heap_alloc_new w3 _
 rw [←hW4,←hq12]
 replace hW4:=hid hW4;replace hq12:=hid hq12
 have W4':=hid (W1.out.keep B4.out.drew)
 have g1:SIn g q12 co cn cc cn a W4.drew:=by
  obtain ⟨e0,e1,e2,e3,e4,e5,e6⟩:=hkk.out
  refine ⟨W4'.out.cells.2.2.2.2.2.1,W4'.out.cells.2.2.2.2.2.2,?_⟩
  rw [e0,e1,e2,e3,e4,e5,e6]
  exact cells5 (W:=W4.drew) b12
 have HQ4:=hid (Array.getElem?_eq_some_iff.1 b12).1
 clear b12
 obtain ⟨gv,hgv⟩:∃ gv,gv=W4.heap.size:=⟨_,rfl⟩
 obtain ⟨W5,hW5⟩:∃ W5,W5=(W4.alloc (.cells #[.int .i64 a.k,.int .i64 a.c,.int .i64 a.l,.slice a.o a.n a.m,.int .i64 a.x] 116)).drew:=⟨_,rfl⟩
 have B5:=hid (show Below w1.heap.size w1 W5 by rw [hW5];exact (gt B4.out (ext1 _)).drew)
 have B45:=hid (show Below W4.heap.size W4 W5 by rw [hW5];exact (ext1 _).drew)
 have W5':=hid (W1.out.keep B5.out)
 have A5:=hid (show At5 W5 gv 0 a by
  have h0:=heap_alloc_new W4 (.cells #[.int .i64 a.k,.int .i64 a.c,.int .i64 a.l,.slice a.o a.n a.m,.int .i64 a.x] 116)
  rw [←hgv]at h0
  rw [hW5]
  exact cells5 (W:=(W4.alloc (.cells #[.int .i64 a.k,.int .i64 a.c,.int .i64 a.l,.slice a.o a.n a.m,.int .i64 a.x] 116)).drew) h0)
 have hcl:=node_few HN.out.has HLEN.out W1.out.nod.len
 have hQ:=hid (show q12<W5.heap.size∧¬S q12 from ⟨Nat.lt_of_lt_of_le HQ4.out B45.out.size,fun e=>by have h1:=H1.out.prg.lt (b:=q12) (Or.inr e);have h2:=hq12.out;have h3:=B3.out.size;omega⟩)
 have ci:=hid (insert_end co cn cc gv cs a W5 W5'.out.nod.own hcl W5'.out.nod.len A5.out)
 replace hgv:=hid hgv;replace hW5:=hid hW5
 refine wp_region_K (S:=SIn g q12 co cn cc cn a) (fun i=>i == 16) (by kernel_rfl) (g1) (fun hHeld=>?_)
 refine gkp 0 ?_
 refine gkp 1 ?_
 refine gkp 2 ?_
 refine gkp 3 ?_
 refine gkp 4 ?_
 refine gkt 5 ?_ (h:=by intro W hSw;obtain ⟨y0,y1,y2,y3,y4,y5,y6⟩:=hSw;go_simp;first |done |with_reducible rfl)
 refine gkp 6 ?_
 refine gkp 7 ?_
 refine gkp 8 ?_
 refine gkt 9 ?_ (h:=by intro W hSw;obtain ⟨y0,y1,y2,y3,y4,y5,y6⟩:=hSw;go_simp;first |done |with_reducible rfl)
 refine gkt 10 ?_ (h:=by intro W hSw;obtain ⟨y0,y1,y2,y3,y4,y5,y6⟩:=hSw;go_simp;first |done |with_reducible rfl)
 refine gk1 11 (fun K hK=>?_)
 go_simp
 rw [show W4.heap.size=gv from hgv.out.symm];rw [←hW5.out];have hR:SIn g q12 co cn cc cn a W5:=SIn.keep (show SIn g q12 co cn cc cn a W4 from hHeld) B45.out
 refine hK.out _ _ hR (fun hHeld=>?_)
 clear hK K
 (try simp only [Act.put,sA,sZ,sS])
 refine gk1 12 (fun K hK=>?_)
 go_simp
 go_at_call 59;refine ci.out.mono ?_;rintro e w6 ⟨g6,cc6,rfl,ho6,hg6,ha6,hl6⟩;have O6:=hid ho6;have G6:=hid hg6;have L6:=hid (And.intro ha6 hl6);have hR:SIn g q12 co cn cc cn a w6:=put_held W5'.out hg6 hQ.out hHeld;have z5:=hR.1;have fz:w6.frozen? ⟨g,5,none⟩=false:=put_fz W5'.out hg6;clear ho6 hg6 ha6 hl6
 refine hK.out _ _ hR (fun hHeld=>?_)
 clear hK K
 (try simp only [Act.put,sA,sZ,sS])
 refine gkp 13 ?_
 refine gkp 14 ?_
 refine gkp 15 ?_
 refine gkl 16 (fun K hK=>?_)
 go_simp
 refine hK.out _ _ ?_
 clear hK K
 (try simp only [Act.put,sA,sZ,sS])
 refine wpAnyK_done (by kernel_rfl) ?_ _
 obtain ⟨W7,hW7⟩:∃ W7,W7=w6.setCell ⟨g,5,none⟩ (.slice (some ⟨g6,0,none⟩) (cn+1) cc6):=⟨_,rfl⟩
 have hr5:Cel.Rd W5 (some ⟨bb,bo,none⟩) m bc xs:=HR.out.same (fun hp b o e hl=>by
  cases e
  exact (B5.out.block bb (Nat.lt_of_lt_of_le hl K1.out.size)).trans (K1.out.at_ HRB.out hl))
 have h55:Cel.T5 W5 bb:=by
  obtain ⟨D,mm,hx⟩:=H5.out
  have hl:=(Array.getElem?_eq_some_iff.1 hx).1
  exact ⟨D,mm,((B5.out.block bb (Nat.lt_of_lt_of_le hl K1.out.size)).trans (K1.out.at_ HRB.out hl)).trans hx⟩
 obtain ⟨WP,FP⟩:=way_put W5'.out O6.out G6.out (fun b o e=>by
  cases e
  rcases L6.out.1 with e1 |e1
  ·exact Or.inl (W5'.out.nod.cb _ 0 (own_blk W5'.out.nod.own e1).1)
  ·exact Or.inr ⟨by omega,L6.out.2⟩) (HCO.out W5 hr5) (fun _ b o e=>by
  rw [hkk.out.2.2.2.1]at e;cases e;exact h55)
 rw [←hW7]at WP FP ⊢
 have W7':=hid WP;have F7:=hid FP
 have s1:=K1.out.size
 have hbl:=HH.out.heap.lt
 have nS:∀ b,S b→w.heap.size≤b:=N1.out
 have H5':=(H1.out.news B5.out)
 have FR:Fr (NewR (Or2 R S) w1 W5) W5 W7:=fr_imp F7.out (fun b e=>Or.inl (Or.inr e))
 have H7:=hid (H5'.mv (H5'.prg.work FR) (H5'.heap.fr F7.out (fun e=>by have:=nS hb e;omega)) (Or.inl H5'.mem))
 have T7:TreeAt W7 tb hb root:=by
  have t1:=(HT.out.rok K1.out HM.out).keep B5.out
  exact (F7.out.blk tb t1.lt (fun e=>by have:=nS tb e;have:=HT.out.lt;omega)).trans t1
 have T7':=hid T7
 have M7:Hid (NewR (NewR (Or2 R S) w1 W5) W5 W7 tb):=hid (Or.inl (Or.inl (Or.inl HM.out)))
 have hpg:=page_of (leaf:=true) (r:=0) (nrm_app E1.out HNA.out)
 have hyy:hasN true 0 (cs++[a])=true:=hpg.2.trans HY.out
 have hfew:Cel.Few (cs++[a]):=few_has hyy WP.nod.cs
 have cst:=hid (settle_one H7.out T7 M7.out W7'.out hfew hyy HN.out.lo HN.out.hi HNF.out (by omega))
 rw [hpg.1]at cst
 replace hW7:=hid hW7
 clear hpg hyy hfew T7 WP FP hr5 h55 FR H5'
 go_wp2_with (go_at_call 60;refine cst.out.mono ?_;rintro e w8 ⟨rfl,hy⟩;have Y:=hid hy;clear hy)
 go_ret
 obtain ⟨y1,y2,y3,y4,y5⟩:=Y.out
 refine ⟨rfl,_,y1.less (fun b h=>Or.inl (Or.inl (Or.inl h))) HH.out.mem,⟨HN.out.lo,?_,y4,HY.out,?_⟩,y3 HA.out,?_,?_⟩
 ·show _≤(t.now.set _ _).length
  rw [List.length_set];exact HN.out.hi
 ·intro c hc
  rcases List.mem_append.1 hc with hc |hc
  ·exact HN.out.key c hc
  ·simp at hc;subst hc;exact HK.out
 ·show (t.now.set _ _).length=_
  rw [List.length_set]
 ·exact ((K1.out.below B5.out).mine F7.out nS).then y5 (fun b h=>Or.inl (Or.inl (Or.inl h)))
end
end Tre
namespace Tre
open Go.RowKit Go.Maps
open Dsk (gt hid undrew keep_old keep_cell lt_cell newD)
open Jrn (Row5)
open Cch (Fr wpAnyK wpAnyK_done wp_region_K hd_cell hd_frozen blk_set)
open Cel (C Cs Cok NB At5 ext1 below_set I64 nrm hasN pageN)
open Spl (Same AllB)
section
variable {arm:Prop} {room croom K:Nat} {p q:Nat} {R:Nat→Prop} {t:RS} {w:World} {hb tb root:Nat} {tr:List (Nat×List Nat)} {ws:List Nat}
variable {cs cs':List C}
theorem nrm_get(h:cs.map nrm=cs'.map nrm)(i:Nat):nrm (cs.getD i default)=nrm (cs'.getD i default):=by
 have h1:=congrArg (fun l=>l[i]?) h
 simp only [List.getElem?_map]at h1
 rw [List.getD,List.getD]
 cases ha:cs[i]?<;>cases hb:cs'[i]?<;>simp_all
theorem nrm_cut(h:cs.map nrm=cs'.map nrm)(F:Nat):(cs.take F++cs.drop (F+1)).map nrm=(cs'.take F++cs'.drop (F+1)).map nrm:=by
 rw [List.map_append,List.map_append,List.map_take,List.map_take,List.map_drop,List.map_drop,h]
variable {cs0:List C}
theorem Delete_leaf(key:Int)(F:Nat)(h:HeapS arm room croom K w hb p q R t tr ws)(hA:AllB t.now)(hT:TreeAt w tb hb root)(hm:R tb)(hN:NodeAt t.now root true 0 cs0)(hnf:root∉flat tr)(hF:Cel.fN key cs0=F)(hlt:F<cs0.length)(hk:(cs0.getD F default).k=key)(hsh:(cs0.getD F default).l=((cs0.getD F default).b.length:Int))(hy:hasN true 0 (cs0.take F++cs0.drop (F+1))=true)(hKb:K+2≤500000) :
  Calls Tryz.prog 29 #[.pointer (some ⟨tb,0,none⟩),.int .i64 key] w fun e w'=>e=.returned (.tuple #[.bool true,.int .i64 0])∧Chg1 arm room croom (K+2+1) hb p q R t tr ws root (cs0.take F++cs0.drop (F+1)) w w':=by
 have cg:=hid (changing_leaf key h hA hT hm hN (by omega))
 have HH:=hid h;have HA:=hid hA;have HT:=hid hT;have HM:=hid hm;have HN:=hid hN;have HNF:=hid hnf;have HF:=hid hF;have HL:=hid hlt;have HK:=hid hk;have HS:=hid hsh;have HY:=hid hy
 clear h hA hT hm hN hnf hF hlt hk hsh hy
 go_enter Tryz.func29,Tryz.ntmps29
 go_upto_region 4 with (go_at_call 55;refine cg.out.mono ?_;rintro e w1 ⟨g,wcap,co,cn,cc,cs,S,rfl,hW,hE,hS,hs,hk⟩;have W1:=hid hW;have E1:=hid hE;have N1:=hid hS;have H1:=hid hs;have K1:=hid hk;clear hW hE hS hs hk)
 have hlen:cs.length=cs0.length:=by simpa using congrArg List.length E1.out
 have hcn:cs.length=cn:=W1.out.nod.len
 have hfe:=node_few HN.out.has hlen hcn
 have hlt:=HL.out
 obtain ⟨m,rfl⟩:∃ m,cn=m+1:=⟨cn - 1,by omega⟩
 obtain ⟨gc,rfl⟩:∃ gc,co=some ⟨gc,0,none⟩:=by
  rcases W1.out.nod.own.2 with ⟨_,h2⟩ | ⟨gc,cap,cur,e,_⟩
  ·simp at h2
  ·simp only [Value.slice.injEq]at e;exact ⟨gc,e.1⟩
 rw [HF.out]at W1
 have hna:=nrm_get E1.out F
 obtain ⟨a,ha⟩:∃ a,a=cs.getD F default:=⟨_,rfl⟩
 rw [←ha]at hna
 have hak:a.k=key:=by have:=congrArg C.k hna;simp [nrm]at this;rw [this];exact HK.out
 have hmem:a∈cs:=by rw [ha,List.getD,List.getElem?_eq_getElem (by omega)];exact List.getElem_mem _
 have hal:a.l=(a.n:Int):=by
  have h1:=congrArg C.l hna
  have h2:=congrArg C.b hna
  simp only [nrm]at h1 h2
  have h3:=(W1.out.nod.ck a hmem).rd.1
  rw [h1,HS.out,←h2,h3]
 have cr:=hid (remove_short (tb:=tb) g wcap F m gc cc _ _ _ _ _ cs a W1.out (by omega) (by omega) ha.symm hal)
 rw [hak]at cr
 clear hna ha hak hal hmem hlt hcn hlen hfe
 go_upto_region 7 with (first
  | (go_at_call 56;refine (wayleaf_one g wcap _).mono ?_;rintro e w2 ⟨rfl,h2⟩;obtain rfl:=h2.symm;clear h2)
  | (go_at_call 57;refine cr.out.mono ?_;rintro e w2 ⟨rfl,hW,hf⟩;have W2:=hid hW;have F2:=hid hf;clear hW hf))
 have nS:∀ b,S b→w.heap.size≤b:=N1.out
 have hbl:=HH.out.heap.lt
 have FR:Fr (Or2 R S) w1 w2:=fr_imp F2.out (fun b e=>Or.inr e)
 have H2:=hid (H1.out.mv (H1.out.prg.work FR) (H1.out.heap.fr F2.out (fun e=>by have:=nS hb e;omega)) (Or.inl H1.out.mem))
 have T2:TreeAt w2 tb hb root:=by
  have t1:=HT.out.rok K1.out HM.out
  exact (F2.out.blk tb t1.lt (fun e=>by have:=nS tb e;have:=HT.out.lt;omega)).trans t1
 have M2:Hid (NewR (Or2 R S) w1 w2 tb):=hid (Or.inl (Or.inl HM.out))
 have hpg:=page_of (leaf:=true) (r:=0) (nrm_cut E1.out F)
 have hyy:hasN true 0 (cs.take F++cs.drop (F+1))=true:=hpg.2.trans HY.out
 have hfew:=few_has hyy W2.out.nod.cs
 have cst:=hid (settle_one H2.out T2 M2.out W2.out hfew hyy HN.out.lo HN.out.hi HNF.out (by omega))
 rw [hpg.1]at cst
 clear hpg hyy hfew T2 FR
 go_wp2_with (go_at_call 60;refine cst.out.mono ?_;rintro e w8 ⟨rfl,hy⟩;have Y:=hid hy;clear hy)
 go_ret2
 obtain ⟨y1,y2,y3,y4,y5⟩:=Y.out
 refine ⟨rfl,_,y1.less (fun b h=>Or.inl (Or.inl h)) HH.out.mem,⟨HN.out.lo,?_,y4,HY.out,?_⟩,y3 HA.out,?_,?_⟩
 ·show _≤(t.now.set _ _).length
  rw [List.length_set];exact HN.out.hi
 ·intro c hc
  rcases List.mem_append.1 hc with hc |hc
  ·exact HN.out.key c (List.mem_of_mem_take hc)
  ·exact HN.out.key c (List.mem_of_mem_drop hc)
 ·show (t.now.set _ _).length=_
  rw [List.length_set]
 ·exact (K1.out.mine F2.out nS).then y5 (fun b h=>Or.inl (Or.inl h))
def Leafed(arm:Prop)(room croom K:Nat)(hb p q:Nat)(R:Nat→Prop)(t:RS)(tr:List (Nat×List Nat))(ws:List Nat)(root:Nat)(key:Int)(cs0:List C)(w:World)(e:Ending)(w':World):Prop:=
 ∃ co cn cc cs S,e=.returned (.tuple #[.agg #[.int .i64 (root:Int),.int .i64 (-9223372036854775808),.int .i64 9223372036854775807,.bool true,.int .i64 0,.slice co cn cc,.int .i64 (Cel.fN key cs0:Nat)],.int .i64 0])∧Pn S w' co cn cc cs∧cs.map nrm=cs0.map nrm∧(∀ b,S b→w.heap.size≤b)∧HeapS arm room croom K w' hb p q (Or2 R S) t tr ws∧Rok R w w'
theorem leaf_one(key:Int)(h:HeapS arm room croom K w hb p q R t tr ws)(hA:AllB t.now)(hT:TreeAt w tb hb root)(hm:R tb)(hN:NodeAt t.now root true 0 cs0)(hKb:K≤500000) :
  Calls Tryz.prog 52 #[.pointer (some ⟨tb,0,none⟩),.int .i64 key] w (Leafed arm room croom (K+1) hb p q R t tr ws root key cs0 w):=by
 obtain ⟨W0,hW0⟩:∃ W0,W0=w.alloc (.cells #[.int .i64 0,.int .i64 0,.int .i64 0,.bool false,.int .i64 0,.slice none 0 0,.int .i64 0] 112):=⟨_,rfl⟩
 have B0:Below w.heap.size w W0:=by rw [hW0];exact ext1 _
 obtain ⟨q4,hq4⟩:∃ q4,q4=w.heap.size:=⟨_,rfl⟩
 have s4:SB W0 q4 (bare 0 0 0):=by rw [hW0,hq4];exact SB.new w (bare 0 0 0)
 have m4:Hid (NewR R w W0 q4):=hid (Or.inr ⟨by omega,s4.lt⟩)
 have cd:=hid (down_leaf key (h.news B0) hA (hT.keep B0) (Or.inl hm) hN hKb)
 have HH:=hid h;have BB:=hid B0;have S4:=hid s4
 clear h hA hT hm hN B0 s4
 go_enter Tryz.func52,Tryz.ntmps52
 go_upto_region 1 with fail
 rw [←hW0,←hq4]
 replace hW0:=hid hW0;replace hq4:=hid hq4
 go_upto_region 4 with (go_at_call 73;refine cd.out.mono ?_;rintro e w1 ⟨g,wcap,co,cn,cc,cs,S,rfl,hW,hE,hS,hs,hk⟩;have W1:=hid hW;have E1:=hid hE;have N1:=hid hS;have H1:=hid hs;have K1:=hid hk;clear hW hE hS hs hk)
 have S41:=hid (S4.out.rok K1.out m4.out)
 obtain ⟨x0,x1,x2,x3,x4,x5,x6⟩:=W1.out.cells
 simp only at x0 x1 x2 x3 x4 x5 x6
 obtain ⟨z0,z1,z2,z3,z4,z5,z6⟩:=S41.out.cells
 have f0:=S41.out.fz 0;have f1:=S41.out.fz 1;have f2:=S41.out.fz 2;have f3:=S41.out.fz 3;have f4:=S41.out.fz 4;have f5:=S41.out.fz 5;have f6:=S41.out.fz 6
 go_wp2_with (go_at_call 56;refine (wayleaf_one g wcap _).mono ?_;rintro e w2 ⟨rfl,h2⟩;obtain rfl:=h2.symm;clear h2)
 refine bodyPost_ret (ret_b2 (a:=4) (u:=5) (by kernel_rfl) (by kernel_rfl) (by kernel_rfl) rfl (box7 S41.out)) rfl ?_
 generalize hW5:((((((w1.setCell ⟨q4,0,none⟩ (.int .i64 (root:Int))).setCell ⟨q4,1,none⟩ (.int .i64 (-9223372036854775808))).setCell ⟨q4,2,none⟩ (.int .i64 9223372036854775807)).setCell ⟨q4,3,none⟩ (.bool true)).setCell ⟨q4,4,none⟩ (.int .i64 0)).setCell ⟨q4,5,none⟩ (.slice co cn cc)).setCell ⟨q4,6,none⟩ (.int .i64 ((Cel.fN key cs0:Nat):Int))=W5
 have F5:Fr (fun k=>k=q4) w1 W5:=by rw [←hW5];exact fr7
 have h4:=hq4.out
 have s0:=BB.out.size
 have hlt:=S4.out.lt
 have nS:∀ b,S b→W0.heap.size≤b:=N1.out
 have hbl:=HH.out.heap.lt
 refine ⟨co,cn,cc,cs,S,rfl,W1.out.nod.same (fun k hk hl=>F5.blk k hl (by have:=nS k hk;omega)),E1.out,fun b hb=>by have:=nS b hb;omega,?_,?_⟩
 ·refine (H1.out.mv (H1.out.prg.mine (fr_imp F5 (fun b e=>?_))) (H1.out.heap.fr F5 (by omega)) H1.out.mem).less (fun b hb=>?_) (Or.inl HH.out.mem)
  ·rw [e];exact Or.inl m4.out
  ·rcases hb with hb |hb
   ·exact Or.inl (Or.inl hb)
   ·exact Or.inr hb
 ·exact (Rok.after BB.out K1.out (fun b h=>Or.inl h)).mine F5 (fun b e=>by omega)
theorem fB_nrm(key:Int){cs cs':List C}(h:cs.map nrm=cs'.map nrm):Cel.fB key cs=Cel.fB key cs':=by
 have hl:cs.length=cs'.length:=by simpa using congrArg List.length h
 unfold Cel.fB
 rw [fN_nrm key h,hl]
 have:=congrArg C.k (nrm_get h (Cel.fN key cs'))
 simp only [nrm]at this
 rw [this]
def abN(key:Int)(cs:List C):Nat:=Cel.fN key cs+(if Cel.fB key cs then 1 else 0)
theorem above_found(key:Int)(leaf:Bool)(r:Int)(b off cn cc:Nat)(cs:List C)(i:Nat)(k:Int)(w:World)(h:Cs w (some ⟨b,off,none⟩) cn cc cs)(hcn:cn≤100000)(hi:abN key cs=i)(hlt:i<cn)(hk:(cs.getD i default).k=k) :
  Calls Tryz.prog 63 #[.int .i64 key,.agg #[.bool leaf,.int .i64 r,.slice (some ⟨b,off,none⟩) cn cc]] w fun e w'=>e=.returned (.tuple #[.int .i64 k,.bool true])∧Below w.heap.size w w':=by
 obtain ⟨W0,hW0⟩:∃ W0,W0=w.alloc (.cells #[.bool leaf,.int .i64 r,.slice (some ⟨b,off,none⟩) cn cc] 82):=⟨_,rfl⟩
 have B0:Below w.heap.size w W0:=by rw [hW0];exact ext1 _
 obtain ⟨q3,hq3⟩:∃ q3,q3=w.heap.size:=⟨_,rfl⟩
 have N0:NB 82 W0 q3 leaf r (some ⟨b,off,none⟩) cn cc:=by rw [hW0,hq3];exact NB.new 82 w leaf r (some ⟨b,off,none⟩) cn cc
 have cf:=hid (Cel.find_any leaf r (some ⟨b,off,none⟩) cn cc cs key W0 (h.keep B0) hcn)
 have BB:=hid B0;have NN:=hid N0
 obtain ⟨b',off',e',hc⟩:=h.at_ (by omega)
 simp only [Option.some.injEq,Addr.mk.injEq,and_true]at e'
 obtain ⟨rfl,rfl⟩:=e'
 have c0:=(hc i hlt).1
 rw [hk]at c0
 have C0:=hid (fun W (hb:Below w.heap.size w W)=>keep_old hb c0)
 obtain ⟨u0,u1,u2⟩:=N0.cells
 have n1:(0:Int)≤(i:Int):=by omega
 have n2:(i:Int)<(cn:Int):=by omega
 have n3:((i:Int) == (cn:Int))=false:=by simp;omega
 unfold abN at hi
 clear h B0 N0 hc c0 hk
 cases hfb:Cel.fB key cs with
 | false=>
  rw [hfb]at hi cf
  simp only [Bool.false_eq_true,if_false,Nat.add_zero]at hi
  rw [hi]at cf
  clear hi hfb
  go_enter Tryz.func63,Tryz.ntmps63
  go_upto_region 1 with fail
  rw [←hW0,←hq3]
  replace hW0:=hid hW0;replace hq3:=hid hq3
  go_wp2_with (go_at_call 119;refine cf.out.mono ?_;rintro e w1 ⟨rfl,hb1⟩;have B1:=hid (gt BB.out hb1);have N1:=hid (NN.out.keep hb1);have c1:=C0.out w1 B1.out;clear u0 u1 u2;obtain ⟨u0,u1,u2⟩:=N1.out.cells;clear hb1)
  go_ret2
  exact ⟨rfl,B1.out⟩
 | true=>
  rw [hfb]at hi cf
  simp only [if_true]at hi
  obtain ⟨f,hf⟩:∃ f,f=Cel.fN key cs:=⟨_,rfl⟩
  rw [←hf]at hi cf
  have hw1:IntKind.i64.wrap ((f:Int)+1)=(i:Int):=by rw [IntKind.wrap_i64];omega
  clear hi hfb hf
  go_enter Tryz.func63,Tryz.ntmps63
  go_upto_region 1 with fail
  rw [←hW0,←hq3]
  replace hW0:=hid hW0;replace hq3:=hid hq3
  go_upto_region 4 with (go_at_call 119;refine cf.out.mono ?_;rintro e w1 ⟨rfl,hb1⟩;have B1:=hid (gt BB.out hb1);have N1:=hid (NN.out.keep hb1);have c1:=C0.out w1 B1.out;clear u0 u1 u2;obtain ⟨u0,u1,u2⟩:=N1.out.cells;clear hb1)
  go_wp2
  go_ret2
  exact ⟨rfl,B1.out⟩
theorem Next_leaf(key k:Int)(i:Nat)(h:HeapS arm room croom K w hb p q R t tr ws)(hA:AllB t.now)(hT:TreeAt w tb hb root)(hm:R tb)(hN:NodeAt t.now root true 0 cs0)(hKb:K≤500000)(hi:abN key cs0=i)(hlt:i<cs0.length)(hk:(cs0.getD i default).k=k) :
  Calls Tryz.prog 25 #[.pointer (some ⟨tb,0,none⟩),.int .i64 key] w fun e w'=>e=.returned (.tuple #[.int .i64 k,.bool true,.int .i64 0])∧HeapS arm room croom (K+1) w' hb p q R t tr ws∧Rok R w w':=by
 have cl:=hid (leaf_one key h hA hT hm hN hKb)
 have HH:=hid h;have HN:=hid hN;have HI:=hid hi;have HL:=hid hlt;have HK:=hid hk
 clear h hA hT hm hN hi hlt hk
 have cb:Hid (Calls Tryz.prog 62 #[.pointer (some ⟨tb,0,none⟩),.int .i64 key,.func (.func 63) #[.int .i64 key] #[],.func (.func 64) #[] #[]] w fun e w'=>e=.returned (.tuple #[.int .i64 k,.bool true,.int .i64 0])∧HeapS arm room croom (K+1) w' hb p q R t tr ws∧Rok R w w'):=hid (by
  go_enter Tryz.func62,Tryz.ntmps62
  go_wp2
  go_loopw [1,11] (fun a c W=>a=.int .i64 key∧c=.bool true∧Hid (W=w)) (fun _ _ _=>1)
  case atStart=>exact ⟨rfl,rfl,hid rfl⟩
  case round=>
   obtain ⟨rfl,rfl,HW⟩:=hrel
   have HWo:=HW.out
   obtain rfl:=HWo.symm
   clear HWo HW
   go_upto_region 6 with (go_at_call 52;refine cl.out.mono ?_;rintro e w1 ⟨co,cn,cc,cs,S,rfl,hP,hE,hS,hs,hk⟩;have P1:=hid hP;have E1:=hid hE;have H1:=hid hs;have K1:=hid hk;clear hP hE hS hs hk)
   have hlen:cs.length=cs0.length:=by simpa using congrArg List.length E1.out
   have hcn:cs.length=cn:=P1.out.len
   have hlt:=HL.out
   obtain ⟨gc,rfl⟩:∃ gc,co=some ⟨gc,0,none⟩:=by
    rcases P1.out.own.2 with ⟨_,h2⟩ | ⟨gc,cap,cur,e,_⟩
    ·omega
    ·simp only [Value.slice.injEq]at e;exact ⟨gc,e.1⟩
   have hab:abN key cs=i:=by rw [←HI.out];unfold abN;rw [fN_nrm key E1.out,fB_nrm key E1.out]
   have hkk:(cs.getD i default).k=k:=by have:=congrArg C.k (nrm_get E1.out i);simp only [nrm]at this;rw [this];exact HK.out
   have ca:=hid (fun W (hb:Below w1.heap.size w1 W)=>above_found key true 0 gc 0 cn cc cs i k W (P1.out.cs.keep hb) (node_few HN.out.has hlen hcn) hab (by omega) hkk)
   clear hlen hcn hlt hab hkk
   go_wp2_with (go_at_call 63;refine (ca.out _ (ext1 _)).mono ?_;rintro e w2 ⟨rfl,hb2⟩;have B2:=hid (gt (ext1 _) hb2);clear hb2)
   (try simp only [Exit.inBlock,Exit.then])
   go_ret3
   exact ⟨rfl,(H1.out.keep B2.out).less (fun b h=>Or.inl h) HH.out.mem,K1.out.below B2.out⟩)
 clear cl
 go_enter Tryz.func25,Tryz.ntmps25
 go_wp2_with (go_at_call 62;refine cb.out.mono ?_;rintro e w1 ⟨rfl,hs,hk⟩;have H1:=hid hs;have K1:=hid hk;clear hs hk)
 go_ret3
 exact ⟨rfl,H1.out,K1.out⟩
end
end Tre
namespace Tre
open Go.RowKit Go.Maps
open Dsk (gt hid undrew keep_old keep_cell lt_cell newD)
open Jrn (Row5)
open Cch (Fr wpAnyK wpAnyK_done wp_region_K hd_cell hd_frozen blk_set)
open Cel (C Cs Cok NB At5 ext1 below_set I64 nrm hasN pageN)
open Spl (Same AllB)
section
variable {arm:Prop} {room croom K:Nat} {p q:Nat} {R:Nat→Prop} {t:RS} {w:World} {hb tb root:Nat} {tr:List (Nat×List Nat)} {ws:List Nat}
end
def Bd(f:Nat)(args:Array Value)(v:Value)(w:World):Prop:=Calls Tryz.prog f args w fun e w'=>e=.returned v∧Below w.heap.size w w'
theorem down_bad(v:Value)(key:Int)(w:World)(h:TZ w v):Bd 73 #[v,.int .i64 key] (.tuple #[.slice none 0 0,.int .i64 1]) w:=by
 unfold Bd
 have c:=hid (fault_no h)
 clear h
 go_enter Tryz.func73,Tryz.ntmps73
 go_wp2_with (first |(go_at_call 40;refine (c.out).mono ?_;rintro e w1 ⟨rfl,hb1⟩;have B1:=hid (show Below w.heap.size w w1 by rw [hb1];exact Below.refl _ _);clear hb1))
 go_ret2
 exact ⟨rfl,B1.out⟩
theorem leaf_bad(v:Value)(key:Int)(w:World)(h:TZ w v):Bd 52 #[v,.int .i64 key] (.tuple #[.agg #[.int .i64 0,.int .i64 0,.int .i64 0,.bool false,.int .i64 0,.slice none 0 0,.int .i64 0],.int .i64 1]) w:=by
 unfold Bd
 obtain ⟨W0,hW0⟩:∃ W0,W0=w.alloc (.cells #[.int .i64 0,.int .i64 0,.int .i64 0,.bool false,.int .i64 0,.slice none 0 0,.int .i64 0] 112):=⟨_,rfl⟩
 have B0:Below w.heap.size w W0:=by rw [hW0];exact ext1 _
 obtain ⟨q4,hq4⟩:∃ q4,q4=w.heap.size:=⟨_,rfl⟩
 have s4:SB W0 q4 (bare 0 0 0):=by rw [hW0,hq4];exact SB.new w (bare 0 0 0)
 have c:=hid (down_bad v key W0 (h.keep B0))
 have BB:=hid B0;have S4:=hid s4
 clear h B0 s4
 go_enter Tryz.func52,Tryz.ntmps52
 go_upto_region 1 with fail
 rw [←hW0,←hq4]
 replace hW0:=hid hW0;replace hq4:=hid hq4
 go_upto_region 3 with (go_at_call 73;refine c.out.mono ?_;rintro e w1 ⟨rfl,hb1⟩;have B1:=hid (gt BB.out hb1);have S1:=hid (S4.out.keep hb1);clear hb1)
 obtain ⟨z0,z1,z2,z3,z4,z5,z6⟩:=S1.out.cells
 have f0:=S1.out.fz 0;have f1:=S1.out.fz 1;have f2:=S1.out.fz 2;have f3:=S1.out.fz 3;have f4:=S1.out.fz 4;have f5:=S1.out.fz 5;have f6:=S1.out.fz 6
 go_wp2
 refine bodyPost_ret (ret_b2 (a:=4) (u:=5) (by kernel_rfl) (by kernel_rfl) (by kernel_rfl) rfl (box7 S1.out)) rfl ?_
 exact ⟨rfl,below7 B1.out (Nat.le_of_eq hq4.out.symm)⟩
theorem Get_bad(v:Value)(key:Int)(w:World)(h:TZ w v):Bd 21 #[v,.int .i64 key] (.tuple #[.slice none 0 0,.bool false,.int .i64 1]) w:=by
 unfold Bd
 have c:=hid (leaf_bad v key w h)
 clear h
 go_enter Tryz.func21,Tryz.ntmps21
 go_wp2_with (first |(go_at_call 52;refine (c.out).mono ?_;rintro e w1 ⟨rfl,hb1⟩;have B1:=hid (gt hb1 (ext1 (.cells #[.int .i64 0,.int .i64 0,.int .i64 0,.bool false,.int .i64 0,.slice none 0 0,.int .i64 0] 112)));clear hb1))
 go_ret3
 exact ⟨rfl,B1.out⟩
theorem refusal_bad(v:Value)(w:World)(h:TZ w v):Bd 50 #[v] (.int .i64 1) w:=by
 unfold Bd
 have c:=hid (fault_no h)
 clear h
 go_enter Tryz.func50,Tryz.ntmps50
 go_wp2_with (first |(go_at_call 40;refine (c.out).mono ?_;rintro e w1 ⟨rfl,hb1⟩;have B1:=hid (show Below w.heap.size w w1 by rw [hb1];exact Below.refl _ _);clear hb1))
 go_ret
 exact ⟨rfl,B1.out⟩
theorem changing_bad(v:Value)(key:Int)(w:World)(h:TZ w v):Bd 55 #[v,.int .i64 key] (.tuple #[.slice none 0 0,.int .i64 1]) w:=by
 unfold Bd
 have c:=hid (refusal_bad v w h)
 clear h
 go_enter Tryz.func55,Tryz.ntmps55
 go_wp2_with (first |(go_at_call 50;refine (c.out).mono ?_;rintro e w1 ⟨rfl,hb1⟩;have B1:=hid hb1;clear hb1))
 go_ret2
 exact ⟨rfl,B1.out⟩
theorem Put_bad(v:Value)(key:Int)(w:World)(h:TZ w v):Bd 22 #[v,.int .i64 key,.slice none 0 0] (.int .i64 1) w:=by
 unfold Bd
 have c:=hid (changing_bad v key w h)
 clear h
 go_enter Tryz.func22,Tryz.ntmps22
 go_wp2_with (first |(go_at_call 55;refine (c.out).mono ?_;rintro e w1 ⟨rfl,hb1⟩;have B1:=hid hb1;clear hb1))
 go_ret
 exact ⟨rfl,B1.out⟩
theorem Delete_bad(v:Value)(key:Int)(w:World)(h:TZ w v):Bd 29 #[v,.int .i64 key] (.tuple #[.bool false,.int .i64 1]) w:=by
 unfold Bd
 have c:=hid (changing_bad v key w h)
 clear h
 go_enter Tryz.func29,Tryz.ntmps29
 go_wp2_with (first |(go_at_call 55;refine (c.out).mono ?_;rintro e w1 ⟨rfl,hb1⟩;have B1:=hid hb1;clear hb1))
 go_ret2
 exact ⟨rfl,B1.out⟩
theorem Drop_bad(v:Value)(w:World)(h:TZ w v):Bd 20 #[v] (.int .i64 1) w:=by
 unfold Bd
 have c:=hid (refusal_bad v w h)
 clear h
 go_enter Tryz.func20,Tryz.ntmps20
 go_wp2_with (first |(go_at_call 50;refine (c.out).mono ?_;rintro e w1 ⟨rfl,hb1⟩;have B1:=hid hb1;clear hb1))
 go_ret
 exact ⟨rfl,B1.out⟩
theorem Height_bad(v:Value)(w:World)(h:TZ w v):Bd 31 #[v] (.tuple #[.int .i64 0,.int .i64 1]) w:=by
 unfold Bd
 have c:=hid (down_bad v 0 w h)
 clear h
 go_enter Tryz.func31,Tryz.ntmps31
 go_wp2_with (first |(go_at_call 73;refine (c.out).mono ?_;rintro e w1 ⟨rfl,hb1⟩;have B1:=hid hb1;clear hb1))
 go_ret2
 exact ⟨rfl,B1.out⟩
theorem beside_bad(v:Value)(key:Int)(f1 f2:Value)(w:World)(h:TZ w v):Bd 62 #[v,.int .i64 key,f1,f2] (.tuple #[.int .i64 0,.bool false,.int .i64 1]) w:=by
 unfold Bd
 have c:=hid (leaf_bad v key w h)
 clear h
 go_enter Tryz.func62,Tryz.ntmps62
 go_wp2
 go_loopw [1,11] (fun a c W=>a=.int .i64 key∧c=.bool true∧Hid (W=w)) (fun _ _ _=>1)
 case atStart=>exact ⟨rfl,rfl,hid rfl⟩
 case round=>
  obtain ⟨rfl,rfl,HW⟩:=hrel
  have HWo:=HW.out
  obtain rfl:=HWo.symm
  clear HWo HW
  go_wp2_with (go_at_call 52;refine c.out.mono ?_;rintro e w1 ⟨rfl,hb1⟩;have B1:=hid (gt hb1 (ext1 (.cells #[.int .i64 0,.int .i64 0,.int .i64 0,.bool false,.int .i64 0,.slice none 0 0,.int .i64 0] 112)));clear hb1)
  (try simp only [Exit.inBlock,Exit.then])
  go_ret3
  exact ⟨rfl,B1.out⟩
theorem Next_bad(v:Value)(key:Int)(w:World)(h:TZ w v):Bd 25 #[v,.int .i64 key] (.tuple #[.int .i64 0,.bool false,.int .i64 1]) w:=by
 unfold Bd
 have c:=hid (fun f1 f2=>beside_bad v key f1 f2 w h)
 clear h
 go_enter Tryz.func25,Tryz.ntmps25
 go_wp2_with (go_at_call 62;refine (c.out _ _).mono ?_;rintro e w1 ⟨rfl,hb1⟩;have B1:=hid hb1;clear hb1)
 go_ret3
 exact ⟨rfl,B1.out⟩
theorem Prev_bad(v:Value)(key:Int)(w:World)(h:TZ w v):Bd 26 #[v,.int .i64 key] (.tuple #[.int .i64 0,.bool false,.int .i64 1]) w:=by
 unfold Bd
 have c:=hid (fun f1 f2=>beside_bad v key f1 f2 w h)
 clear h
 go_enter Tryz.func26,Tryz.ntmps26
 go_wp2_with (go_at_call 62;refine (c.out _ _).mono ?_;rintro e w1 ⟨rfl,hb1⟩;have B1:=hid hb1;clear hb1)
 go_ret3
 exact ⟨rfl,B1.out⟩
theorem walk_bad(v x:Value)(w:World)(h:TZ w v):Bd 71 #[v,x] (.int .i64 1) w:=by
 unfold Bd
 have c:=hid (fault_no h)
 clear h
 go_enter Tryz.func71,Tryz.ntmps71
 go_wp2
 go_step3
 go_wp2_with (go_at_call 40;refine c.out.mono ?_;rintro e w1 ⟨rfl,hb1⟩;have B1:=hid (show Below w.heap.size w w1 by rw [hb1];exact Below.refl _ _);clear hb1)
 rw [Exit.noGoto_ret]
 go_ret
 exact ⟨rfl,B1.out⟩
theorem Len_bad(v:Value)(w:World)(h:TZ w v):Bd 30 #[v] (.tuple #[.int .i64 0,.int .i64 1]) w:=by
 unfold Bd
 have c:=hid (fun W x (hb:Below w.heap.size w W)=>walk_bad v x W (h.keep hb))
 clear h
 go_enter Tryz.func30,Tryz.ntmps30
 go_wp2_with (go_at_call 71;refine (c.out _ _ (gt (ext1 _) (ext1 _))).mono ?_;rintro e w1 ⟨rfl,hb1⟩;have B1:=hid (gt (gt (ext1 _) (ext1 _)) hb1);clear hb1)
 go_ret2
 exact ⟨rfl,B1.out⟩
theorem pages_bad(v x:Value)(w:World)(h:TZ w v):Bd 47 #[v,x] (.tuple #[.slice none 0 0,.int .i64 1]) w:=by
 unfold Bd
 have c:=hid (fault_no h)
 clear h
 go_enter Tryz.func47,Tryz.ntmps47
 go_wp2_with (go_at_call 40;refine c.out.mono ?_;rintro e w1 ⟨rfl,hb1⟩;have B1:=hid (show Below w.heap.size w w1 by rw [hb1];exact Below.refl _ _);clear hb1)
 go_ret2
 exact ⟨rfl,B1.out⟩
theorem Pages_bad(v:Value)(w:World)(h:TZ w v):Bd 18 #[v] (.tuple #[.slice none 0 0,.int .i64 1]) w:=by
 unfold Bd
 have c:=hid (fun x=>pages_bad v x w h)
 clear h
 go_enter Tryz.func18,Tryz.ntmps18
 go_wp2_with (go_at_call 47;refine (c.out _).mono ?_;rintro e w1 ⟨rfl,hb1⟩;have B1:=hid hb1;clear hb1)
 go_ret2
 exact ⟨rfl,B1.out⟩
theorem Sound_bad(v:Value)(w:World)(h:TZ w v):Bd 32 #[v] (.int .i64 1) w:=by
 unfold Bd
 have c:=hid (fun W x (hb:Below w.heap.size w W)=>pages_bad v x W (h.keep hb))
 clear h
 go_enter Tryz.func32,Tryz.ntmps32
 go_wp2_with (go_at_call 47;refine (c.out _ _ (ext1 _)).mono ?_;rintro e w1 ⟨rfl,hb1⟩;have B1:=hid (gt (ext1 _) hb1);clear hb1)
 go_ret
 exact ⟨rfl,B1.out⟩
theorem Make_nil(w:World):Bd 11 #[.pointer none] (.tuple #[.pointer none,.int .i64 1]) w:=by
 unfold Bd
 have c:=hid (Take_bad (.pointer none) w (Or.inl rfl))
 go_enter Tryz.func11,Tryz.ntmps11
 go_wp2_with (go_at_call 38;refine c.out.mono ?_;rintro e w1 ⟨rfl,hb1⟩;have B1:=hid hb1;clear hb1)
 go_ret2
 exact ⟨rfl,B1.out⟩
theorem Open_nil(z:Int)(w:World):Bd 14 #[.pointer none,.int .i64 z] (.tuple #[.pointer none,.int .i64 1]) w:=by
 unfold Bd
 have h0:(w.alloc (.cells #[.pointer none,.int .i64 z] 66)).cell? ⟨w.heap.size,0,none⟩=some (.pointer none):=by
  have:=heap_alloc_new w (.cells #[.pointer none,.int .i64 z] 66)
  unfold World.cell?;rw [this];rfl
 have c:=hid (read_nil z _ _ h0)
 clear h0
 go_enter Tryz.func14,Tryz.ntmps14
 go_wp2_with (go_at_call 45;refine c.out.mono ?_;rintro e w1 ⟨rfl,hb1⟩;have B1:=hid (gt (gt (ext1 _) hb1) (ext1 (.cells #[.bool false,.int .i64 0,.slice none 0 0] 82)));clear hb1)
 go_ret2
 exact ⟨rfl,B1.out⟩
section
variable {arm:Prop} {room croom K:Nat} {p q:Nat} {R:Nat→Prop} {t:RS} {w:World} {hb tb root:Nat} {tr:List (Nat×List Nat)} {ws:List Nat}
theorem Open_no(z:Int)(h:HeapS arm room croom K w hb p q R t tr ws)(hl:1≤t.now.length)(hz:z≤1∨(t.now.length:Int)<z)(hKb:K≤500000) :
  Calls Tryz.prog 14 #[.pointer (some ⟨hb,0,none⟩),.int .i64 z] w fun e w'=>e=.returned (.tuple #[.pointer none,.int .i64 9])∧HeapS arm room croom (K+1) w' hb p q R t tr ws∧Rok R w w':=by
 obtain ⟨W0,hW0⟩:∃ W0,W0=w.alloc (.cells #[.pointer (some ⟨hb,0,none⟩),.int .i64 z] 66):=⟨_,rfl⟩
 have B0:Below w.heap.size w W0:=by rw [hW0];exact ext1 _
 obtain ⟨q6,hq6⟩:∃ q6,q6=w.heap.size:=⟨_,rfl⟩
 have t0:W0.heap[q6]? = some (.cells #[.pointer (some ⟨hb,0,none⟩),.int .i64 z] 66 (0,0)):=by rw [hW0,hq6];exact heap_alloc_new w _
 have c0:W0.cell? ⟨q6,0,none⟩=some (.pointer (some ⟨hb,0,none⟩)):=by unfold World.cell?;rw [t0];rfl
 have cr:Hid (Calls Tryz.prog 45 #[.pointer (some ⟨q6,0,none⟩),.int .i64 z] W0 fun e w'=>e=.returned (.tuple #[.agg #[.bool false,.int .i64 0,.slice none 0 0],.int .i64 9])∧HeapS arm room croom (K+1) w' hb p q R t tr ws∧Rok R W0 w'):=hid (by
  by_cases h1:z=1
  ·subst h1;exact read_one (h.keep B0) c0 hl hKb
  ·exact read_out z (h.keep B0) c0 (by omega))
 have HH:=hid h;have BB:=hid B0
 clear h t0 c0 B0 hl hz
 go_enter Tryz.func14,Tryz.ntmps14
 go_upto_region 2 with fail
 rw [←hW0,←hq6]
 replace hW0:=hid hW0;replace hq6:=hid hq6
 go_wp2_with (go_at_call 45;refine cr.out.mono ?_;rintro e w1 ⟨rfl,hs,hk⟩;have H1:=hid hs;have K1:=hid hk;clear hs hk)
 go_ret2
 exact ⟨rfl,H1.out.keep (ext1 _),(Rok.after BB.out K1.out (fun _ h=>h)).below (ext1 _)⟩
theorem Make_new(h:HeapS arm room croom K w hb p q R t [] ws)(hA:AllB t.now)(hn4:t.now.length<4000)(h1:1≤t.now.length)(hKb:K+5000≤500000) :
  Calls Tryz.prog 11 #[.pointer (some ⟨hb,0,none⟩)] w fun e w'=>∃ tb t',e=.returned (.tuple #[.pointer (some ⟨tb,0,none⟩),.int .i64 0])∧w.heap.size≤tb∧TreeAt w' tb hb (t.now.length+1)∧HeapS arm room croom (K+2+1) w' hb p q (Plus R tb) t' [] ws∧NodeAt t'.now (t.now.length+1) true 0 []∧AllB t'.now∧t'.now.length=t.now.length+1∧Rok R w w':=by
 have ct:=hid (Spl.kp_none h hn4 hKb)
 have HH:=hid h;have HA:=hid hA
 clear h hA
 obtain ⟨N,hN⟩:∃ N,N=t.now.length+1:=⟨_,rfl⟩
 rw [←hN]at ct ⊢
 replace hN:=hid hN
 go_enter Tryz.func11,Tryz.ntmps11
 go_upto_region 5 with (go_at_call 38;refine ct.out.mono ?_;rintro e w1 ⟨rfl,t1,hs,hl,hal,hsm,hk⟩;have H1:=hid hs;have A1:=hid (hal HA.out);have K1:=hid hk;have L1:=hid hl;clear hs hl hal hsm hk)
 obtain ⟨tb,htb⟩:∃ tb,tb=w1.heap.size:=⟨_,rfl⟩
 obtain ⟨W2,hW2⟩:∃ W2,W2=w1.alloc (.cells #[.pointer (some ⟨hb,0,none⟩),.int .i64 (N:Int)] 66):=⟨_,rfl⟩
 have B2:=hid (show Below w1.heap.size w1 W2 by rw [hW2];exact ext1 _)
 have T2:=hid (show TreeAt W2 tb hb N by rw [hW2,htb];exact TreeAt.new w1 hb N)
 have H2:=hid (H1.out.mv (H1.out.prg.new B2.out (Nat.le_of_eq htb.symm) T2.out.lt) (H1.out.heap.keep B2.out) (Or.inl H1.out.mem))
 rw [←hW2,←htb]
 replace hW2:=hid hW2;replace htb:=hid htb
 have hl1:=L1.out
 have hN':=hN.out
 have cw:=hid (write_yes (leaf:=true) (r:=0) (cs:=[]) (n:=N) H2.out T2.out (Or.inr rfl) (Cs.nil W2) ⟨by simp,by simp⟩ rfl (by omega) (by omega) (by simp [flat]) (by omega))
 clear hl1 hN'
 go_wp2_with (go_at_call 39;refine cw.out.mono ?_;rintro e w3 ⟨rfl,hs3,hsm,hal,hgd,hk3⟩;have H3:=hid hs3;have Y3:=hid (And.intro (hal A1.out) hgd);have K3:=hid hk3;clear hs3 hsm hal hgd hk3)
 go_ret2
 have hlt:w.heap.size≤tb:=by rw [htb.out];exact K1.out.size
 refine ⟨tb,_,rfl,hlt,(T2.out.rok K3.out (Or.inr rfl)),H3.out,⟨by have:=hN.out;omega,?_,Y3.out.2,rfl,by simp⟩,Y3.out.1,?_,K1.out.then (Rok.after B2.out K3.out (fun b h=>Or.inl h)) (fun _ h=>h)⟩
 ·show _≤(t1.now.set _ _).length
  rw [List.length_set,L1.out];exact Nat.le_refl _
 ·show (t1.now.set _ _).length=_
  rw [List.length_set,L1.out]
end
end Tre
namespace Tre
open Go.RowKit Go.Maps
open Dsk (gt hid undrew keep_old keep_cell lt_cell newD)
open Jrn (Row5)
open Cch (Fr wpAnyK wpAnyK_done wp_region_K hd_cell hd_frozen blk_set)
open Cel (C Cs Cok NB At5 ext1 below_set I64 nrm hasN pageN)
open Spl (Same AllB)
theorem conv1(x:Int)(W:World):(convert 48 48 (.slice (some ⟨W.heap.size,0,none⟩) 1 1)).run Tryz.prog (W.alloc (.cells #[.int .u8 x] 5))=.ok (.slice (some ⟨W.heap.size,0,none⟩) 1 1) (W.alloc (.cells #[.int .u8 x] 5 (1,2))):=
 Lib.run_convert_bytes_const W 48 5 _ 1 1 Tryz.underlying48 Tryz.underlying5
theorem rd1(x:Nat)(W:World):Cel.Rd (W.alloc (.cells #[.int .u8 (x:Int)] 5 (1,2))) (some ⟨W.heap.size,0,none⟩) 1 1 [x]∧Cel.T5 (W.alloc (.cells #[.int .u8 (x:Int)] 5 (1,2))) W.heap.size:=by
 have h:=heap_alloc_new W (.cells #[.int .u8 (x:Int)] 5 (1,2))
 refine ⟨⟨rfl,Nat.le_refl _,fun e=>by simp at e,fun _=>⟨_,_,rfl,fun t ht=>?_⟩⟩,⟨_,_,h⟩⟩
 obtain rfl:t=0:=by omega
 unfold World.cell?;rw [h];rfl
theorem T1_len:T1.now.length=1:=by simp [T1,rt0,RS.begin,RS.grow,RS.put]
theorem T1_all:AllB T1.now:=by
 have:T1.now = [Jrn.rootN 0 0 z60]:=by simp [T1,rt0,RS.begin,RS.grow,RS.put]
 rw [this]
 intro i x hx
 match i with
 | 0=>simp at hx;exact Jrn.rootN_bytes _ _ _ x hx
 | i+1=>simp at hx
theorem put_lit{arm:Prop}{room croom K:Nat}{p q:Nat}{R:Nat→Prop}{t:RS}{w:World}{hb tb root:Nat}{tr:List (Nat×List Nat)}{ws:List Nat}{cs0:List C}(key:Int)(x:Nat)(h:HeapS arm room croom K w hb p q R t tr ws)(hA:AllB t.now)(hT:TreeAt w tb hb root)(hm:R tb)(hN:NodeAt t.now root true 0 cs0)(hnf:root∉flat tr)(hx:x<256)(hF:Cel.fN key cs0=cs0.length)(hk:I64 key)(hy:hasN true 0 (cs0++[eC key [x]])=true)(hKb:K+2≤500000) :
  Calls Tryz.prog 22 #[.pointer (some ⟨tb,0,none⟩),.int .i64 key,.slice (some ⟨w.heap.size,0,none⟩) 1 1] (w.alloc (.cells #[.int .u8 (x:Int)] 5 (1,2))) fun e w'=>e=.returned (.int .i64 0)∧Chg1 arm room croom (K+2+1) hb p q R t tr ws root (cs0++[eC key [x]]) w w':=by
 have B3:Below w.heap.size w (w.alloc (.cells #[.int .u8 (x:Int)] 5 (1,2))):=ext1 _
 have r3:=rd1 x w
 have H3:=h.mv (h.prg.new B3 (Nat.le_refl _) (by simp)) (h.heap.keep B3) (Or.inl h.mem)
 refine (Put_leaf key w.heap.size 0 1 1 [x] H3 hA (hT.keep B3) (Or.inl hm) hN hnf r3.1 (by simpa using hx) r3.2 (Or.inr rfl) (by omega) hF hk hy hKb).mono ?_
 rintro e w4 ⟨rfl,t4,hs4,hN4,hA4,hl4,hk4⟩
 exact ⟨rfl,t4,hs4.less (fun b h=>Or.inl h) h.mem,hN4,hA4,hl4,Rok.after B3 hk4 (fun b h=>Or.inl h)⟩
theorem lives_any(w:World)(hT:Jrn.Tab w)(h0:0<w.heap.size):Calls Tryz.prog 10 #[] w fun e w'=>e=.returned (.bool true)∧Below w.heap.size w w':=by
 have c8:=hid (Spl.sfresh_any w hT h0)
 have cv1:=conv1 97
 have cv2:=conv1 98
 have t1:=hid T1_len;have t2:=hid T1_all
 have e1:hasN true 0 ([]++[eC 1 [97]])=true:=by decide +kernel
 have e2:hasN true 0 (([]++[eC 1 [97]])++[eC 2 [98]])=true:=by decide +kernel
 have e3:hasN true 0 ((([]++[eC 1 [97]])++[eC 2 [98]]).take 0++(([]++[eC 1 [97]])++[eC 2 [98]]).drop (0+1))=true:=by decide +kernel
 have E1:=hid e1;have E2:=hid e2;have E3:=hid e3
 clear hT h0 e1 e2 e3
 have k1:Hid True:=hid trivial
 go_enter Tryz.func10,Tryz.ntmps10
 go_upto_region 5 with (first
  | (go_at_call 8;refine c8.out.mono ?_;rintro e w1 ⟨p,hb,rfl,hhb,hs,hk⟩;have H1:=hid hs;have K1:=hid hk;clear hhb hs hk)
  | (go_at_call 11;refine (Make_new H1.out t2.out (by rw [t1.out];omega) (by rw [t1.out];omega) (by omega)).mono ?_;rintro e w2 ⟨tb,t',rfl,htb,hT2,hs2,hN2,hA2,hl2,hk2⟩;rw [t1.out]at hT2 hN2;have H2:=hid hs2;have T2:=hid hT2;have N2:=hid hN2;have A2:=hid hA2;have K2:=hid (K1.out.then hk2 (fun b h=>Or.inl h));clear htb hT2 hs2 hN2 hA2 hl2 hk2))
 obtain ⟨R2,hR2⟩:∃ R2,R2=Plus (Plus (Old w) hb) tb:=⟨_,rfl⟩
 have O2:Hid (∀ b,Old w b→R2 b):=hid (fun b h=>by rw [hR2];exact Or.inl (Or.inl h))
 have M2:Hid (R2 tb):=hid (by rw [hR2];exact Or.inr rfl)
 rw [←hR2]at H2
 clear hR2 t1 t2 H1 K1 c8
 have cp1:=hid (put_lit 1 97 H2.out A2.out T2.out M2.out N2.out (by simp [flat]) (by omega) rfl (by simp [I64]) E1.out (by omega))
 have cp2:Hid (∀ (W:World) (t4:RS),HeapS False 32768 16 (3+2+1+2+1) W hb p w.heap.size R2 t4 [] z60→AllB t4.now→TreeAt W tb hb (1+1)→NodeAt t4.now (1+1) true 0 ([]++[eC 1 [97]])→Calls Tryz.prog 22 #[.pointer (some ⟨tb,0,none⟩),.int .i64 2,.slice (some ⟨W.heap.size,0,none⟩) 1 1] (W.alloc (.cells #[.int .u8 98] 5 (1,2))) fun e w'=>e=.returned (.int .i64 0)∧Chg1 False 32768 16 (3+2+1+2+1+2+1) hb p w.heap.size R2 t4 [] z60 (1+1) (([]++[eC 1 [97]])++[eC 2 [98]]) W w'):=hid (fun W t4 a b c d=>put_lit 2 98 a b c M2.out d (by simp [flat]) (by omega) rfl (by simp [I64]) E2.out (by omega))
 go_upto_region 6 with (first
  | (go_at_call 22;clear k1;refine cp1.out.mono ?_;rintro e w4 ⟨rfl,t4,hs4,hN4,hA4,hl4,hk4⟩;have H4:=hid hs4;have N4:=hid hN4;have A4:=hid hA4;have T4:=hid (T2.out.rok hk4 M2.out);have K4:=hid (K2.out.then hk4 O2.out);clear hs4 hN4 hA4 hl4 hk4)
  | (go_at_call 22;refine (cp2.out w4 t4 H4.out A4.out T4.out N4.out).mono ?_;rintro e w5 ⟨rfl,t5,hs5,hN5,hA5,hl5,hk5⟩;have H5:=hid hs5;have N5:=hid hN5;have A5:=hid hA5;have T5:=hid (T4.out.rok hk5 M2.out);have K5:=hid (K4.out.then hk5 O2.out);clear hs5 hN5 hA5 hl5 hk5))
 have cd:=hid (Delete_leaf 1 0 H5.out A5.out T5.out M2.out N5.out (by simp [flat]) rfl (by decide) rfl rfl E3.out (by omega))
 go_upto_region 7 with (go_at_call 29;refine cd.out.mono ?_;rintro e w6 ⟨rfl,t6,hs6,hN6,hA6,hl6,hk6⟩;have H6:=hid hs6;have N6:=hid hN6;have A6:=hid hA6;have T6:=hid (T5.out.rok hk6 M2.out);have K6:=hid (K5.out.then hk6 O2.out);clear hs6 hN6 hA6 hl6 hk6)
 have cn:=hid (Next_leaf (-5) 2 0 H6.out A6.out T6.out M2.out N6.out (by omega) rfl (by decide) rfl)
 go_wp2_with (go_at_call 25;refine cn.out.mono ?_;rintro e w7 ⟨rfl,_,hk7⟩;have K7:=hid (K6.out.then hk7 O2.out);clear hk7)
 go_ret
 exact ⟨rfl,old_below K7.out⟩
end Tre
namespace Tre
open Go.RowKit Go.Maps
open Dsk (gt hid undrew keep_old keep_cell lt_cell newD)
open Cch (Fr)
open Cel (ext1)
open Spl (AllB)
def NS(w:World)(b:Nat)(i:Int)(v:Value)(W:World):Prop:=W.cell? ⟨b,1,none⟩=some (.int .i64 i)∧TZ W v∧Below w.heap.size w W
theorem NS.keep{w:World}{b:Nat}{i:Int}{v:Value}{W W':World}(h:NS w b i v W)(hb:Below W.heap.size W W'):NS w b i v W':=⟨keep_old hb h.1,h.2.1.keep hb,gt h.2.2 hb⟩
theorem ten(i:Nat)(hi:i<10)(W:World):(Instr.index 70 (.agg #[.int .i64 1,.int .i64 1,.int .i64 1,.int .i64 1,.int .i64 1,.int .i64 1,.int .i64 1,.int .i64 1,.int .i64 1,.int .i64 1]) (.int .i64 (i:Int))).run Tryz.prog W=.ok (.int .i64 1) W:=by
 rcases i with _ |_ |_ |_ |_ |_ |_ |_ |_ |_ |i
 all_goals first |omega |kernel_rfl
theorem none_any(k i n r s:Int)(w:World)(hT:Jrn.Tab w)(h0:0<w.heap.size) :
  Calls Tryz.prog 7 #[.agg #[.int .i64 k,.int .i64 i,.int .i64 n,.int .i64 r,.int .i64 s]] w fun e w'=>e=.returned (.bool true)∧Below w.heap.size w w':=by
 obtain ⟨W0,hW0⟩:∃ W0,W0=w.alloc (.cells #[.int .i64 k,.int .i64 i,.int .i64 n,.int .i64 r,.int .i64 s] 38):=⟨_,rfl⟩
 have B0:=hid (show Below w.heap.size w W0 by rw [hW0];exact ext1 _)
 have C0:=hid (show W0.cell? ⟨w.heap.size,1,none⟩=some (.int .i64 i) by rw [hW0,World.cell?_alloc_new];rfl)
 have HT:=hid (hT.keep B0.out);have H0:=hid (show 0<W0.heap.size from Nat.lt_of_lt_of_le h0 B0.out.size)
 have cf:=hid (Spl.sfresh_any W0 HT.out H0.out)
 have HP:=hid h0
 obtain ⟨q1,hq1⟩:∃ q1,q1=w.heap.size:=⟨_,rfl⟩
 rw [←hq1]at C0
 clear hT h0
 have t1:Hid True:=hid trivial
 have t2:Hid True:=hid trivial
 have c0:=C0.out
 go_enter Tryz.func7,Tryz.ntmps7
 go_upto_region 1 with fail
 rw [←hW0,←hq1]
 replace hW0:=hid hW0;replace hq1:=hid hq1
 go_upto_region 9 with (first
  | (go_at_call 8;refine cf.out.mono ?_;rintro e w1 ⟨p,hb,rfl,hhb,hs,hk⟩;have H1:=hid hs;have K1:=hid hk;clear hhb hs hk c0)
  | (go_at_call 14;clear t1;refine (Open_no 1 H1.out (by rw [T1_len];omega) (Or.inl (by omega)) (by omega)).mono ?_;rintro e w2 ⟨rfl,hs,hk⟩;have H2:=hid hs;have K2:=hid (K1.out.then hk (fun b h=>Or.inl h));have c0:=keep_old (old_below K2.out) C0.out;clear hs hk)
  | (go_at_call 14;clear t2;refine (Open_no i H2.out (by rw [T1_len];omega) (by rw [T1_len];omega) (by omega)).mono ?_;rintro e w3 ⟨rfl,hs,hk⟩;have K3:=hid (old_below (K2.out.then hk (fun b h=>Or.inl h)));clear hs hk c0;have c0:=keep_old K3.out C0.out)
  | (go_at_call 11;refine (Make_nil w3).mono ?_;rintro e w4 ⟨rfl,hb4⟩;have B4:=hid (gt K3.out hb4);clear c0;have c0:=keep_old B4.out C0.out;clear hb4)
  | (go_at_call 14;refine (Open_nil i w4).mono ?_;rintro e w5 ⟨rfl,hb5⟩;have B5:=hid (gt B4.out hb5);clear hb5))
 obtain ⟨W7,hW7⟩:∃ W7,W7=w5.alloc (.cells #[.pointer none,.int .i64 0] 66):=⟨_,rfl⟩
 obtain ⟨q7,hq7⟩:∃ q7,q7=w5.heap.size:=⟨_,rfl⟩
 have B7:=hid (gt B5.out (show Below w5.heap.size w5 W7 by rw [hW7];exact ext1 _))
 have Z7:=hid (show W7.cell? ⟨q7,0,none⟩=some (.pointer none) by rw [hW7,hq7,World.cell?_alloc_new];rfl)
 rw [←hW7,←hq7]
 replace hW7:=hid hW7;replace hq7:=hid hq7
 clear c0
 have ix:∀ j:Nat,j<2→∃ v,(∀ W,(Instr.index 67 (.agg #[.pointer none,.pointer (some ⟨q7,0,none⟩)]) (.int .i64 (j:Int))).run Tryz.prog W=.ok v W)∧TZ W7 v:=by
  intro j hj
  rcases j with _ |_ |j
  ·exact ⟨_,fun W=>by kernel_rfl,Or.inl rfl⟩
  ·exact ⟨_,fun W=>by kernel_rfl,Or.inr ⟨_,rfl,Z7.out⟩⟩
  ·omega
 have IX:=hid ix
 have H10:=hid (fun (j:Nat) (hj:j<10) (W:World)=>ten j hj W)
 clear ix
 go_wp2
 go_loopw [80] (fun c W=>∃ j:Nat,j≤2∧c=.int .i64 (j:Int)∧Hid (Below W7.heap.size W7 W)) (fun c _=>2 - (Lib.intOf c).toNat)
 case atStart=>exact ⟨0,by omega,rfl,hid (Below.refl _ _)⟩
 case round=>
  obtain ⟨j,hj,rfl,hbw⟩:=hrel
  by_cases hj2:j<2
  ·obtain ⟨v,ixv,hnv⟩:=IX.out j hj2
   have hj2':(j:Int)<2:=by omega
   have N0:Hid (NS W7 q1 i v wr):=hid ⟨keep_old hbw.out (keep_old B7.out C0.out),hnv.keep hbw.out,hbw.out⟩
   have a0:=N0.out.1
   clear hnv hbw
   go_upto_region 20 with (first
    | (go_at_call 21;refine (Get_bad _ _ _ N0.out.2.1).mono ?_;rintro e w1x ⟨rfl,hbx⟩;have N1:=hid (NS.keep N0.out hbx);clear hbx N0 a0;have a0:=N1.out.1)
    | (go_at_call 29;refine (Delete_bad _ _ _ N1.out.2.1).mono ?_;rintro e w2x ⟨rfl,hbx⟩;have N2:=hid (NS.keep N1.out hbx);clear hbx N1 a0;have a0:=N2.out.1)
    | (go_at_call 25;refine (Next_bad _ _ _ N2.out.2.1).mono ?_;rintro e w3x ⟨rfl,hbx⟩;have N3:=hid (NS.keep N2.out hbx);clear hbx N2 a0;have a0:=N3.out.1)
    | (go_at_call 26;refine (Prev_bad _ _ _ N3.out.2.1).mono ?_;rintro e w4x ⟨rfl,hbx⟩;have N4:=hid (NS.keep N3.out hbx);clear hbx N3 a0;have a0:=N4.out.1)
    | (go_at_call 30;refine (Len_bad _ _ N4.out.2.1).mono ?_;rintro e w5x ⟨rfl,hbx⟩;have N5:=hid (NS.keep N4.out hbx);clear hbx N4 a0;have a0:=N5.out.1)
    | (go_at_call 31;refine (Height_bad _ _ N5.out.2.1).mono ?_;rintro e w6x ⟨rfl,hbx⟩;have N6:=hid (NS.keep N5.out hbx);clear hbx N5 a0;have a0:=N6.out.1)
    | (go_at_call 18;refine (Pages_bad _ _ N6.out.2.1).mono ?_;rintro e w7x ⟨rfl,hbx⟩;have N7:=hid (NS.keep N6.out hbx);clear hbx N6 a0;have a0:=N7.out.1)
    | (go_at_call 22;refine (Put_bad _ _ _ N7.out.2.1).mono ?_;rintro e w8x ⟨rfl,hbx⟩;have N8:=hid (NS.keep N7.out hbx);clear hbx N7 a0)
    | (go_at_call 20;refine (Drop_bad _ _ N8.out.2.1).mono ?_;rintro e w9x ⟨rfl,hbx⟩;have N9:=hid (NS.keep N8.out hbx);clear hbx N8)
    | (go_at_call 32;refine (Sound_bad _ _ N9.out.2.1).mono ?_;rintro e w10x ⟨rfl,hbx⟩;have N10:=hid (NS.keep N9.out hbx);clear hbx N9))
   go_loopw [145] (fun c W=>∃ m:Nat,m≤10∧c=.int .i64 (m:Int)∧Hid (NS W7 q1 i v W)) (fun c _=>10 - (Lib.intOf c).toNat)
   case atStart=>exact ⟨0,by omega,rfl,N10⟩
   case round=>
    obtain ⟨m,hm,rfl,N6⟩:=hrel
    by_cases hm7:m<10
    ·have hm':(m:Int)<10:=by omega
     have s7:=H10.out m hm7
     go_wp2
     go_roundw
     case measure=>simp [Lib.intOf];omega
     case rel=>exact ⟨m+1,by omega,by go_num,N6⟩
    ·have hm':¬(m:Int)<10:=by omega
     go_wp2_with (go_at_call 12;refine (Root_no N6.out.2.1).mono ?_;rintro e wx ⟨rfl,hwx⟩;obtain rfl:=hwx.symm;clear hwx)
     go_roundw
     case measure=>simp [Lib.intOf];omega
     case rel=>exact ⟨j+1,by omega,by go_num,hid N6.out.2.2⟩
  ·have hj2':¬(j:Int)<2:=by omega
   have HB:=hid (gt (gt B0.out B7.out) hbw.out)
   have CL:=hid (lives_any wr ((HT.out.keep B7.out).keep hbw.out) (by have h1:=HB.out.size;have h2:=HP.out;omega))
   go_wp2_with (go_at_call 10;refine CL.out.mono ?_;rintro e w9 ⟨rfl,hb9⟩;have B9:=hid hb9;clear hb9)
   go_ret
   exact ⟨rfl,gt HB.out B9.out⟩
end Tre
end Go.Proofs.YtenajbfeojljdaaGreatDoor
