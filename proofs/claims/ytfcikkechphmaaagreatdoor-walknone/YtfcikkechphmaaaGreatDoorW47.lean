/- The step to a child; no statement of the seat is proved here. -/
import Derived.Test.YtfcikkechphmaaaGreatDoorW45
set_option maxHeartbeats 16000000
set_option maxRecDepth 20000
namespace Go.Proofs.YtfcikkechphmaaaGreatDoor
namespace Tre
open Go.RowKit Go.Maps
open Dsk (gt hid undrew keep_old keep_cell lt_cell newD)
open Jrn (Row5)
open Cch (Fr wpAnyK wpAnyK_done wp_region_K hd_cell hd_frozen blk_set)
open Cel (C Cs Cok NB At5 ext1 below_set I64 nrm hasN pageN)
open Spl (Same AllB)
def chP(r:Int)(cs:List C)(i:Nat):Int:=if i<cs.length then (cs.getD i default).c else r
def chLo(lo:Int)(cs:List C)(i:Nat):Int:=if 0<i then (cs.getD (i - 1) default).k+1 else lo
def chHi(hi:Int)(cs:List C)(i:Nat):Int:=if i<cs.length then (cs.getD i default).k else hi
theorem child_base(w:World)(pg slo shi:Int)(leaf:Bool)(r:Int)(co:Option Addr)(cn cc:Nat)(pl:Int)(W1:World)(hW1:W1=((w.alloc (.cells #[.int .i64 pg,.int .i64 slo,.int .i64 shi,.bool leaf,.int .i64 r,.slice co cn cc,.int .i64 pl] 140)).alloc (.cells #[.int .i64 0,.int .i64 0,.int .i64 0,.bool false,.int .i64 0,.slice none 0 0,.int .i64 0] 140)).alloc (.cells #[.int .i64 r,.int .i64 slo,.int .i64 shi,.bool false,.int .i64 0,.slice none 0 0,.int .i64 0] 140)) :
  Below w.heap.size w W1∧SB W1 w.heap.size ⟨pg,slo,shi,leaf,r,co,cn,cc,pl⟩∧SB W1 (w.heap.size+1) (bare 0 0 0)∧SB W1 (w.heap.size+1+1) (bare r slo shi)∧True:=by
 have h1:=SB.new w ⟨pg,slo,shi,leaf,r,co,cn,cc,pl⟩
 have h2:=SB.new (w.alloc (.cells #[.int .i64 pg,.int .i64 slo,.int .i64 shi,.bool leaf,.int .i64 r,.slice co cn cc,.int .i64 pl] 140)) (bare 0 0 0)
 have h3:=SB.new ((w.alloc (.cells #[.int .i64 pg,.int .i64 slo,.int .i64 shi,.bool leaf,.int .i64 r,.slice co cn cc,.int .i64 pl] 140)).alloc (.cells #[.int .i64 0,.int .i64 0,.int .i64 0,.bool false,.int .i64 0,.slice none 0 0,.int .i64 0] 140)) (bare r slo shi)
 simp only [World.size_alloc]at h2 h3
 subst hW1
 exact ⟨gt (gt (ext1 _) (ext1 _)) (ext1 _),(h1.keep (ext1 _)).keep (ext1 _),h2.keep (ext1 _),h3,trivial⟩
abbrev SCi(q b off n cc i:Nat)(k c:Int)(W:World):Prop:=W.cell? ⟨q,5,none⟩=some (.slice (some ⟨b,off,none⟩) n cc)∧W.cell? ⟨b,off+i*5,none⟩=some (.int .i64 k)∧W.cell? ⟨b,off+i*5+1,none⟩=some (.int .i64 c)
variable {W:World} {q:Nat}
theorem SCi.set{b off n cc i:Nat}{k c:Int}(h:SCi q b off n cc i k c W){q5 o:Nat}{v:Value}(h1:q5≠q)(h2:q5≠b):SCi q b off n cc i k c (W.setCell ⟨q5,o,none⟩ v):=by
 have e1:(W.setCell ⟨q5,o,none⟩ v).heap[q]? = W.heap[q]?:=heap_setCell_other _ _ q _ (by simpa using Ne.symm h1)
 have e2:(W.setCell ⟨q5,o,none⟩ v).heap[b]? = W.heap[b]?:=heap_setCell_other _ _ b _ (by simpa using Ne.symm h2)
 exact ⟨(World.cell?_of_block e1).trans h.1,(World.cell?_of_block e2).trans h.2.1,(World.cell?_of_block e2).trans h.2.2⟩
variable {pg lo hi:Int}
theorem sb_lo(h:SB W q (bare pg lo hi))(v:Int):SB (W.setCell ⟨q,1,none⟩ (.int .i64 v)) q (bare pg v hi):=by
 have h0:=heap_setCell_same _ q 1 _ 140 (.int .i64 v) h
 unfold SB;rw [h0];simp [bare]
theorem sb_ph(h:SB W q (bare pg lo hi))(v u:Int):SB ((W.setCell ⟨q,0,none⟩ (.int .i64 v)).setCell ⟨q,2,none⟩ (.int .i64 u)) q (bare v lo u):=by
 have h0:=heap_setCell_same _ q 0 _ 140 (.int .i64 v) h
 have h1:=heap_setCell_same _ q 2 _ 140 (.int .i64 u) h0
 unfold SB;rw [h1];simp [bare]
theorem child_first_here(s:St)(b off i:Nat)(k c:Int)(w:World)(hco:s.co=some ⟨b,off,none⟩)(hi:i<s.cn)(hk:w.cell? ⟨b,off+i*5,none⟩=some (.int .i64 k))(hc:w.cell? ⟨b,off+i*5+1,none⟩=some (.int .i64 c))(h0:i=0) :
  Calls Tryz.prog 178 #[.agg #[.int .i64 (s).pg,.int .i64 (s).lo,.int .i64 (s).hi,.bool (s).leaf,.int .i64 (s).r,.slice (s).co (s).cn (s).cc,.int .i64 (s).pl],.int .i64 (i:Int)] w fun e w'=>e=.returned (.agg #[.int .i64 c,.int .i64 s.lo,.int .i64 k,.bool false,.int .i64 0,.slice none 0 0,.int .i64 0])∧Below w.heap.size w w':=by
 obtain ⟨pg,slo,shi,leaf,r,co,cn,cc,pl⟩:=s
 simp only at *
 subst hco
 have hI:(i:Int)<(cn:Int):=by omega
 have hI0:(0:Int)≤(i:Int):=by omega
 obtain ⟨W1,hW1⟩:∃ W1,W1=((w.alloc (.cells #[.int .i64 pg,.int .i64 slo,.int .i64 shi,.bool leaf,.int .i64 r,.slice (some ⟨b,off,none⟩) cn cc,.int .i64 pl] 140)).alloc (.cells #[.int .i64 0,.int .i64 0,.int .i64 0,.bool false,.int .i64 0,.slice none 0 0,.int .i64 0] 140)).alloc (.cells #[.int .i64 r,.int .i64 slo,.int .i64 shi,.bool false,.int .i64 0,.slice none 0 0,.int .i64 0] 140):=⟨_,rfl⟩
 obtain ⟨BW,s2,s4,s5,_⟩:=child_base w pg slo shi leaf r (some ⟨b,off,none⟩) cn cc pl W1 hW1
 have BB:=hid BW
 have K1:=keep_old BW hk
 have C1:=keep_old BW hc
 have S2:=hid s2;have S4:=hid s4;have S5:=hid s5
 obtain ⟨q2,hq2⟩:∃ q2,q2=w.heap.size:=⟨_,rfl⟩
 obtain ⟨q4,hq4⟩:∃ q4,q4=w.heap.size+1:=⟨_,rfl⟩
 obtain ⟨q5,hq5⟩:∃ q5,q5=w.heap.size+1+1:=⟨_,rfl⟩
 have hbw:=lt_cell hk
 simp only at hbw
 have ne52:=hid (show q5≠q2 by omega)
 have ne54:=hid (show q5≠q4 by omega)
 have neb:=hid (show q5≠b by omega)
 have hle:=hid (show w.heap.size≤q4∧w.heap.size≤q5 by omega)
 rw [←hq5]at S5;rw [←hq4]at S4;rw [←hq2]at S2
 clear hk hc hbw
 obtain ⟨x0,x1,x2,x3,x4,x5,x6⟩:=S2.out.cells
 obtain ⟨z0,z1,z2,z3,z4,z5,z6⟩:=S5.out.cells
 simp only [bare]at x0 x1 x2 x3 x4 x5 x6 z0 z1 z2 z3 z4 z5 z6
 have fz:=S5.out.fz 1
 have hn:¬(0:Int)<(i:Int):=by omega
 clear h0 hi
 go_enter Tryz.func178,Tryz.ntmps178
 go_upto_region 2 with fail
 rw [←hW1,←hq5,←hq4,←hq2]
 replace hW1:=hid hW1;replace hq4:=hid hq4;replace hq5:=hid hq5;replace hq2:=hid hq2
 clear s2 s4 s5 BW
 go_upto_region 5 with fail
 have B2:=hid BB.out;have T4:=hid S4.out;have T5:=hid S5.out
 have g2:SCi q2 b off cn cc i k c W1:=⟨x5,K1,C1⟩
 clear z0 z1 z2 z3 z4 z5 z6 fz
 have g1:SCi q2 b off cn cc i k c W1.drew:=g2
 obtain ⟨z0,z1,z2,z3,z4,z5,z6⟩:=T5.out.cells
 have fz0:=T5.out.fz 0;have fz2:=T5.out.fz 2
 refine wp_region_K (S:=SCi q2 b off cn cc i k c) (fun i=>i == 18) (by kernel_rfl) (g1) (fun hHeld=>?_)
 refine gkp 0 ?_
 refine gkp 1 ?_
 refine gkt 2 ?_ (h:=by intro W hSw;obtain ⟨y0,y1,y2⟩:=hSw;go_simp;first |done |with_reducible rfl)
 refine gkp 3 ?_
 refine gkp 4 ?_
 refine gkp 5 ?_
 refine gkt 6 ?_ (h:=by intro W hSw;obtain ⟨y0,y1,y2⟩:=hSw;go_simp;first |done |with_reducible rfl)
 refine gkp 7 ?_
 refine gkp 8 ?_
 refine gkt 9 ?_ (h:=by intro W hSw;obtain ⟨y0,y1,y2⟩:=hSw;go_simp;first |done |with_reducible rfl)
 refine gkp 10 ?_
 refine gkp 11 ?_
 refine gkp 12 ?_
 refine gkt 13 ?_ (h:=by intro W hSw;obtain ⟨y0,y1,y2⟩:=hSw;go_simp;first |done |with_reducible rfl)
 refine gkp 14 ?_
 refine gk1 15 (fun K hK=>?_)
 go_simp
 have hR:SCi q2 b off cn cc i k c ((W1).setCell ⟨q5,0,none⟩ (.int .i64 c)).drew:=SCi.set (show SCi q2 b off cn cc i k c W1 from hHeld) ne52.out neb.out
 refine hK.out _ _ hR (fun hHeld=>?_)
 clear hK K
 (try simp only [Act.put,sA,sZ,sS])
 refine gkp 16 ?_
 refine gkp 17 ?_
 refine gkl 18 (fun K hK=>?_)
 go_simp
 refine hK.out _ _ ?_
 clear hK K
 (try simp only [Act.put,sA,sZ,sS])
 refine wpAnyK_done (by kernel_rfl) ?_ _
 obtain ⟨W3,hW3⟩:∃ W3,W3=((W1.setCell ⟨q5,0,none⟩ (.int .i64 c)).setCell ⟨q5,2,none⟩ (.int .i64 k)).drew:=⟨_,rfl⟩
 rw [←hW3]
 have B3:=hid (show Below w.heap.size w W3 by rw [hW3];exact (below_set (below_set B2.out hle.out.2 _) hle.out.2 _).drew)
 have U4:=hid (show SB W3 q4 (bare 0 0 0) by rw [hW3];show SB ((W1.setCell ⟨q5,0,none⟩ (.int .i64 c)).setCell ⟨q5,2,none⟩ (.int .i64 k)) q4 (bare 0 0 0);unfold SB;rw [heap_setCell_other _ _ q4 _ (by simpa using Ne.symm ne54.out),heap_setCell_other _ _ q4 _ (by simpa using Ne.symm ne54.out)];exact T4.out)
 have U5:=hid (show SB W3 q5 (bare c slo k) by rw [hW3];exact sb_ph T5.out _ _)
 replace hW3:=hid hW3
 clear z0 z1 z2 z3 z4 z5 z6 fz0 fz2
 obtain ⟨v0,v1,v2,v3,v4,v5,v6⟩:=U4.out.cells
 obtain ⟨z0,z1,z2,z3,z4,z5,z6⟩:=U5.out.cells
 simp only [bare]at z0 z1 z2 z3 z4 z5 z6
 have f0:=U4.out.fz 0;have f1:=U4.out.fz 1;have f2:=U4.out.fz 2;have f3:=U4.out.fz 3;have f4:=U4.out.fz 4;have f5:=U4.out.fz 5;have f6:=U4.out.fz 6
 go_wp2
 refine bodyPost_ret (ret_b1 (a:=4) (by kernel_rfl) (by kernel_rfl) (by kernel_rfl) rfl (box7 U4.out)) rfl ?_
 exact ⟨rfl,below7 B3.out hle.out.1⟩
theorem child_next_here(s:St)(b off i:Nat)(k c:Int)(m:Nat)(k0:Int)(w:World)(hco:s.co=some ⟨b,off,none⟩)(hi:i<s.cn)(hk:w.cell? ⟨b,off+i*5,none⟩=some (.int .i64 k))(hc:w.cell? ⟨b,off+i*5+1,none⟩=some (.int .i64 c))(h0:i=m+1)(hcn:s.cn≤100000)(hmn:m<s.cn)(hw1:I64 (k0+1))(hk0:w.cell? ⟨b,off+m*5,none⟩=some (.int .i64 k0)) :
  Calls Tryz.prog 178 #[.agg #[.int .i64 (s).pg,.int .i64 (s).lo,.int .i64 (s).hi,.bool (s).leaf,.int .i64 (s).r,.slice (s).co (s).cn (s).cc,.int .i64 (s).pl],.int .i64 (i:Int)] w fun e w'=>e=.returned (.agg #[.int .i64 c,.int .i64 (k0+1),.int .i64 k,.bool false,.int .i64 0,.slice none 0 0,.int .i64 0])∧Below w.heap.size w w':=by
 obtain ⟨pg,slo,shi,leaf,r,co,cn,cc,pl⟩:=s
 simp only at *
 subst hco
 have hI:(i:Int)<(cn:Int):=by omega
 have hI0:(0:Int)≤(i:Int):=by omega
 obtain ⟨W1,hW1⟩:∃ W1,W1=((w.alloc (.cells #[.int .i64 pg,.int .i64 slo,.int .i64 shi,.bool leaf,.int .i64 r,.slice (some ⟨b,off,none⟩) cn cc,.int .i64 pl] 140)).alloc (.cells #[.int .i64 0,.int .i64 0,.int .i64 0,.bool false,.int .i64 0,.slice none 0 0,.int .i64 0] 140)).alloc (.cells #[.int .i64 r,.int .i64 slo,.int .i64 shi,.bool false,.int .i64 0,.slice none 0 0,.int .i64 0] 140):=⟨_,rfl⟩
 obtain ⟨BW,s2,s4,s5,_⟩:=child_base w pg slo shi leaf r (some ⟨b,off,none⟩) cn cc pl W1 hW1
 have BB:=hid BW
 have K1:=keep_old BW hk
 have C1:=keep_old BW hc
 have S2:=hid s2;have S4:=hid s4;have S5:=hid s5
 obtain ⟨q2,hq2⟩:∃ q2,q2=w.heap.size:=⟨_,rfl⟩
 obtain ⟨q4,hq4⟩:∃ q4,q4=w.heap.size+1:=⟨_,rfl⟩
 obtain ⟨q5,hq5⟩:∃ q5,q5=w.heap.size+1+1:=⟨_,rfl⟩
 have hbw:=lt_cell hk
 simp only at hbw
 have ne52:=hid (show q5≠q2 by omega)
 have ne54:=hid (show q5≠q4 by omega)
 have neb:=hid (show q5≠b by omega)
 have hle:=hid (show w.heap.size≤q4∧w.heap.size≤q5 by omega)
 rw [←hq5]at S5;rw [←hq4]at S4;rw [←hq2]at S2
 clear hk hc hbw
 obtain ⟨x0,x1,x2,x3,x4,x5,x6⟩:=S2.out.cells
 obtain ⟨z0,z1,z2,z3,z4,z5,z6⟩:=S5.out.cells
 simp only [bare]at x0 x1 x2 x3 x4 x5 x6 z0 z1 z2 z3 z4 z5 z6
 have fz:=S5.out.fz 1
 have hn:(0:Int)<(i:Int):=by omega
 have y1:=keep_old BW hk0
 have hm1:(i:Int) - 1=(m:Int):=by omega
 have hw2:IntKind.i64.wrap ((m:Int))=(m:Int):=by rw [IntKind.wrap_i64];omega
 have hb1:(m:Int)≤100000:=by omega
 have hw3:IntKind.i64.wrap (k0+1)=k0+1:=by rw [IntKind.wrap_i64];obtain ⟨a,b⟩:=hw1;omega
 have n1:(m:Int)<(cn:Int):=by omega
 have n2:(0:Int)≤(m:Int):=by omega
 clear h0 hi hk0 hw1 hmn
 go_enter Tryz.func178,Tryz.ntmps178
 go_upto_region 2 with fail
 rw [←hW1,←hq5,←hq4,←hq2]
 replace hW1:=hid hW1;replace hq4:=hid hq4;replace hq5:=hid hq5;replace hq2:=hid hq2
 clear s2 s4 s5 BW
 go_upto_region 5 with fail
 obtain ⟨W2,hW2⟩:∃ W2,W2=W1.setCell ⟨q5,1,none⟩ (.int .i64 (k0+1)):=⟨_,rfl⟩
 rw [←hW2]
 have B2:=hid (show Below w.heap.size w W2 by rw [hW2];exact below_set BB.out hle.out.2 _)
 have T4:=hid (show SB W2 q4 (bare 0 0 0) by rw [hW2];unfold SB;rw [heap_setCell_other _ _ q4 _ (by simpa using Ne.symm ne54.out)];exact S4.out)
 have T5:=hid (show SB W2 q5 (bare r (k0+1) shi) by rw [hW2];exact sb_lo S5.out _)
 have g2:SCi q2 b off cn cc i k c W2:=by rw [hW2];exact SCi.set ⟨x5,K1,C1⟩ ne52.out neb.out
 replace hW2:=hid hW2
 clear z0 z1 z2 z3 z4 z5 z6 fz
 have g1:SCi q2 b off cn cc i k c W2.drew:=g2
 obtain ⟨z0,z1,z2,z3,z4,z5,z6⟩:=T5.out.cells
 have fz0:=T5.out.fz 0;have fz2:=T5.out.fz 2
 refine wp_region_K (S:=SCi q2 b off cn cc i k c) (fun i=>i == 18) (by kernel_rfl) (g1) (fun hHeld=>?_)
 refine gkp 0 ?_
 refine gkp 1 ?_
 refine gkt 2 ?_ (h:=by intro W hSw;obtain ⟨y0,y1,y2⟩:=hSw;go_simp;first |done |with_reducible rfl)
 refine gkp 3 ?_
 refine gkp 4 ?_
 refine gkp 5 ?_
 refine gkt 6 ?_ (h:=by intro W hSw;obtain ⟨y0,y1,y2⟩:=hSw;go_simp;first |done |with_reducible rfl)
 refine gkp 7 ?_
 refine gkp 8 ?_
 refine gkt 9 ?_ (h:=by intro W hSw;obtain ⟨y0,y1,y2⟩:=hSw;go_simp;first |done |with_reducible rfl)
 refine gkp 10 ?_
 refine gkp 11 ?_
 refine gkp 12 ?_
 refine gkt 13 ?_ (h:=by intro W hSw;obtain ⟨y0,y1,y2⟩:=hSw;go_simp;first |done |with_reducible rfl)
 refine gkp 14 ?_
 refine gk1 15 (fun K hK=>?_)
 go_simp
 have hR:SCi q2 b off cn cc i k c ((W2).setCell ⟨q5,0,none⟩ (.int .i64 c)).drew:=SCi.set (show SCi q2 b off cn cc i k c W2 from hHeld) ne52.out neb.out
 refine hK.out _ _ hR (fun hHeld=>?_)
 clear hK K
 (try simp only [Act.put,sA,sZ,sS])
 refine gkp 16 ?_
 refine gkp 17 ?_
 refine gkl 18 (fun K hK=>?_)
 go_simp
 refine hK.out _ _ ?_
 clear hK K
 (try simp only [Act.put,sA,sZ,sS])
 refine wpAnyK_done (by kernel_rfl) ?_ _
 obtain ⟨W3,hW3⟩:∃ W3,W3=((W2.setCell ⟨q5,0,none⟩ (.int .i64 c)).setCell ⟨q5,2,none⟩ (.int .i64 k)).drew:=⟨_,rfl⟩
 rw [←hW3]
 have B3:=hid (show Below w.heap.size w W3 by rw [hW3];exact (below_set (below_set B2.out hle.out.2 _) hle.out.2 _).drew)
 have U4:=hid (show SB W3 q4 (bare 0 0 0) by rw [hW3];show SB ((W2.setCell ⟨q5,0,none⟩ (.int .i64 c)).setCell ⟨q5,2,none⟩ (.int .i64 k)) q4 (bare 0 0 0);unfold SB;rw [heap_setCell_other _ _ q4 _ (by simpa using Ne.symm ne54.out),heap_setCell_other _ _ q4 _ (by simpa using Ne.symm ne54.out)];exact T4.out)
 have U5:=hid (show SB W3 q5 (bare c (k0+1) k) by rw [hW3];exact sb_ph T5.out _ _)
 replace hW3:=hid hW3
 clear z0 z1 z2 z3 z4 z5 z6 fz0 fz2
 obtain ⟨v0,v1,v2,v3,v4,v5,v6⟩:=U4.out.cells
 obtain ⟨z0,z1,z2,z3,z4,z5,z6⟩:=U5.out.cells
 simp only [bare]at z0 z1 z2 z3 z4 z5 z6
 have f0:=U4.out.fz 0;have f1:=U4.out.fz 1;have f2:=U4.out.fz 2;have f3:=U4.out.fz 3;have f4:=U4.out.fz 4;have f5:=U4.out.fz 5;have f6:=U4.out.fz 6
 go_wp2
 refine bodyPost_ret (ret_b1 (a:=4) (by kernel_rfl) (by kernel_rfl) (by kernel_rfl) rfl (box7 U4.out)) rfl ?_
 exact ⟨rfl,below7 B3.out hle.out.1⟩
theorem child_next_last(s:St)(b off i:Nat)(m:Nat)(k0:Int)(w:World)(hco:s.co=some ⟨b,off,none⟩)(hi:i=s.cn)(h0:i=m+1)(hcn:s.cn≤100000)(hmn:m<s.cn)(hw1:I64 (k0+1))(hk0:w.cell? ⟨b,off+m*5,none⟩=some (.int .i64 k0)) :
  Calls Tryz.prog 178 #[.agg #[.int .i64 (s).pg,.int .i64 (s).lo,.int .i64 (s).hi,.bool (s).leaf,.int .i64 (s).r,.slice (s).co (s).cn (s).cc,.int .i64 (s).pl],.int .i64 (i:Int)] w fun e w'=>e=.returned (.agg #[.int .i64 s.r,.int .i64 (k0+1),.int .i64 s.hi,.bool false,.int .i64 0,.slice none 0 0,.int .i64 0])∧Below w.heap.size w w':=by
 obtain ⟨pg,slo,shi,leaf,r,co,cn,cc,pl⟩:=s
 simp only at *
 subst hco
 have hI:¬(i:Int)<(cn:Int):=by omega
 have hI0:(0:Int)≤(i:Int):=by omega
 obtain ⟨W1,hW1⟩:∃ W1,W1=((w.alloc (.cells #[.int .i64 pg,.int .i64 slo,.int .i64 shi,.bool leaf,.int .i64 r,.slice (some ⟨b,off,none⟩) cn cc,.int .i64 pl] 140)).alloc (.cells #[.int .i64 0,.int .i64 0,.int .i64 0,.bool false,.int .i64 0,.slice none 0 0,.int .i64 0] 140)).alloc (.cells #[.int .i64 r,.int .i64 slo,.int .i64 shi,.bool false,.int .i64 0,.slice none 0 0,.int .i64 0] 140):=⟨_,rfl⟩
 obtain ⟨BW,s2,s4,s5,_⟩:=child_base w pg slo shi leaf r (some ⟨b,off,none⟩) cn cc pl W1 hW1
 have BB:=hid BW
 have S2:=hid s2;have S4:=hid s4;have S5:=hid s5
 obtain ⟨q2,hq2⟩:∃ q2,q2=w.heap.size:=⟨_,rfl⟩
 obtain ⟨q4,hq4⟩:∃ q4,q4=w.heap.size+1:=⟨_,rfl⟩
 obtain ⟨q5,hq5⟩:∃ q5,q5=w.heap.size+1+1:=⟨_,rfl⟩
 have ne52:=hid (show q5≠q2 by omega)
 have ne54:=hid (show q5≠q4 by omega)
 have hle:=hid (show w.heap.size≤q4∧w.heap.size≤q5 by omega)
 rw [←hq5]at S5;rw [←hq4]at S4;rw [←hq2]at S2
 obtain ⟨x0,x1,x2,x3,x4,x5,x6⟩:=S2.out.cells
 obtain ⟨z0,z1,z2,z3,z4,z5,z6⟩:=S5.out.cells
 simp only [bare]at x0 x1 x2 x3 x4 x5 x6 z0 z1 z2 z3 z4 z5 z6
 have fz:=S5.out.fz 1
 have hn:(0:Int)<(i:Int):=by omega
 have y1:=keep_old BW hk0
 have hm1:(i:Int) - 1=(m:Int):=by omega
 have hw2:IntKind.i64.wrap ((m:Int))=(m:Int):=by rw [IntKind.wrap_i64];omega
 have hb1:(m:Int)≤100000:=by omega
 have hw3:IntKind.i64.wrap (k0+1)=k0+1:=by rw [IntKind.wrap_i64];obtain ⟨a,b⟩:=hw1;omega
 have n1:(m:Int)<(cn:Int):=by omega
 have n2:(0:Int)≤(m:Int):=by omega
 clear h0 hi hk0 hw1 hmn
 go_enter Tryz.func178,Tryz.ntmps178
 go_upto_region 2 with fail
 rw [←hW1,←hq5,←hq4,←hq2]
 replace hW1:=hid hW1;replace hq4:=hid hq4;replace hq5:=hid hq5;replace hq2:=hid hq2
 clear s2 s4 s5 BW
 go_upto_region 6 with fail
 obtain ⟨W2,hW2⟩:∃ W2,W2=W1.setCell ⟨q5,1,none⟩ (.int .i64 (k0+1)):=⟨_,rfl⟩
 rw [←hW2]
 have B2:=hid (show Below w.heap.size w W2 by rw [hW2];exact below_set BB.out hle.out.2 _)
 have T4:=hid (show SB W2 q4 (bare 0 0 0) by rw [hW2];unfold SB;rw [heap_setCell_other _ _ q4 _ (by simpa using Ne.symm ne54.out)];exact S4.out)
 have T5:=hid (show SB W2 q5 (bare r (k0+1) shi) by rw [hW2];exact sb_lo S5.out _)
 replace hW2:=hid hW2
 clear z0 z1 z2 z3 z4 z5 z6 fz
 have B3:=hid B2.out;have U4:=hid T4.out;have U5:=hid T5.out
 obtain ⟨v0,v1,v2,v3,v4,v5,v6⟩:=U4.out.cells
 obtain ⟨z0,z1,z2,z3,z4,z5,z6⟩:=U5.out.cells
 simp only [bare]at z0 z1 z2 z3 z4 z5 z6
 have f0:=U4.out.fz 0;have f1:=U4.out.fz 1;have f2:=U4.out.fz 2;have f3:=U4.out.fz 3;have f4:=U4.out.fz 4;have f5:=U4.out.fz 5;have f6:=U4.out.fz 6
 go_wp2
 refine bodyPost_ret (ret_b1 (a:=4) (by kernel_rfl) (by kernel_rfl) (by kernel_rfl) rfl (box7 U4.out)) rfl ?_
 exact ⟨rfl,below7 B3.out hle.out.1⟩
theorem child_all(s:St)(cs:List C)(i:Nat)(w:World)(h:Cs w s.co s.cn s.cc cs)(hcn:s.cn≤100000)(hpos:0<s.cn)(hi:i≤s.cn)(hk:0<i→I64 ((cs.getD (i - 1) default).k+1)) :
  Calls Tryz.prog 178 #[.agg #[.int .i64 (s).pg,.int .i64 (s).lo,.int .i64 (s).hi,.bool (s).leaf,.int .i64 (s).r,.slice (s).co (s).cn (s).cc,.int .i64 (s).pl],.int .i64 (i:Int)] w fun e w'=>e=.returned (.agg #[.int .i64 (chP s.r cs i),.int .i64 (chLo s.lo cs i),.int .i64 (chHi s.hi cs i),.bool false,.int .i64 0,.slice none 0 0,.int .i64 0])∧Below w.heap.size w w':=by
 obtain ⟨b,off,hco,hc⟩:=h.at_ hpos
 have hl:=h.len
 by_cases h0:i=0
 ·have e1:chLo s.lo cs i=s.lo:=by unfold chLo;rw [if_neg (by omega)]
  have e2:chP s.r cs i=(cs.getD i default).c:=by unfold chP;rw [if_pos (by omega)]
  have e3:chHi s.hi cs i=(cs.getD i default).k:=by unfold chHi;rw [if_pos (by omega)]
  rw [e1,e2,e3]
  have hx:=hc i (by omega)
  exact child_first_here s b off i _ _ w hco (by omega) hx.1 hx.2.1 h0
 ·obtain ⟨m,rfl⟩:∃ m,i=m+1:=⟨i - 1,by omega⟩
  have e1:chLo s.lo cs (m+1)=(cs.getD m default).k+1:=by unfold chLo;rw [if_pos (by omega),Nat.add_sub_cancel]
  have hw:=hk (by omega)
  rw [Nat.add_sub_cancel]at hw
  have hm:=(hc m (by omega)).1
  rw [e1]
  by_cases hn:m+1<s.cn
  ·have e2:chP s.r cs (m+1)=(cs.getD (m+1) default).c:=by unfold chP;rw [if_pos (by omega)]
   have e3:chHi s.hi cs (m+1)=(cs.getD (m+1) default).k:=by unfold chHi;rw [if_pos (by omega)]
   rw [e2,e3]
   have hx:=hc (m+1) hn
   exact child_next_here s b off (m+1) _ _ m _ w hco hn hx.1 hx.2.1 rfl hcn (by omega) hw hm
  ·have e2:chP s.r cs (m+1)=s.r:=by unfold chP;rw [if_neg (by omega)]
   have e3:chHi s.hi cs (m+1)=s.hi:=by unfold chHi;rw [if_neg (by omega)]
   rw [e2,e3]
   exact child_next_last s b off (m+1) m _ w hco (by omega) rfl hcn (by omega) hw hm
end Tre
namespace Tre
open Go.RowKit Go.Maps
open Dsk (gt hid undrew keep_old keep_cell lt_cell newD)
open Jrn (Row5)
open Cch (Fr wpAnyK wpAnyK_done wp_region_K hd_cell hd_frozen blk_set)
open Cel (C Cs Cok NB At5 ext1 below_set I64 nrm hasN pageN)
open Spl (Same AllB)
section
variable {arm:Prop} {room croom K:Nat} {p q:Nat} {R:Nat→Prop} {t:RS} {w:World} {hb tb root:Nat} {tr:List (Nat×List Nat)} {ws:List Nat}
structure Sp where
 pg:Nat
 lo:Int
 hi:Int
 leaf:Bool
 r:Int
 cs:List C
 pl:Nat
def Path(P:List Pg)(root:Nat)(key:Int):Nat→Int→Int→List Sp→Prop
 | _,_,_,[]=>False
 | n,lo,hi,x::rest=>(x.pg=n∧x.lo=lo∧x.hi=hi∧x.pl=Cel.fN key x.cs)∧NodeAt P n x.leaf x.r x.cs∧holdB lo hi x.leaf x.cs=true∧(0<x.cs.length∨(x.leaf=true∧n=root)) ∧
  ((rest = []∧x.leaf=true)∨(x.leaf=false∧0<x.cs.length∧(0<x.pl→I64 ((x.cs.getD (x.pl - 1) default).k+1))∧∃ n',chP x.r x.cs x.pl=((n':Nat):Int)∧Path P root key n' (chLo lo x.cs x.pl) (chHi hi x.cs x.pl) rest))
def Like(x:Sp)(y:St×List C):Prop:=y.1.pg=(x.pg:Int)∧y.1.lo=x.lo∧y.1.hi=x.hi∧y.1.leaf=x.leaf∧y.1.r=x.r∧y.1.pl=(x.pl:Int)∧y.2.map nrm=x.cs.map nrm
def Alike:List Sp→List (St×List C)→Prop
 | [],[]=>True
 | x::a,y::b=>Like x y∧Alike a b
 | _,_=>False
theorem Alike.snoc:∀ {a:List Sp} {b:List (St×List C)} {x:Sp} {y:St×List C},Alike a b→Like x y→Alike (a++[x]) (b++[y])
 | [],[],_,_,_,h=>⟨h,trivial⟩
 | [],_::_,_,_,h,_=>h.elim
 | _::_,[],_,_,h,_=>h.elim
 | _::_,_::_,_,_,h,k=>⟨h.1,h.2.snoc k⟩
def svs(l:List (St×List C)):List Value:=l.flatMap fun y=>sv y.1
theorem svs_app(l m:List (St×List C)):svs (l++m)=svs l++svs m:=by simp [svs]
structure Ways (S:Nat→Prop) (W:World) (ao:Option Addr) (n cap:Nat) (ss:List Sp) (l:List (St×List C)):Prop where
 own:W.ownsRow 0 140 7 (.slice ao n cap) n (svs l)
 blk:∀ b o,ao=some ⟨b,o,none⟩→S b
 len:l.length=n
 nod:∀ y∈l,Pn S W y.1.co y.1.cn y.1.cc y.2
 as_:Alike ss l
section
variable {S S':Nat→Prop} {W W':World} {ao:Option Addr} {n cap:Nat} {ss:List Sp} {l:List (St×List C)}
theorem Ways.same(h:Ways S W ao n cap ss l)(hf:∀ k,S k→k<W.heap.size→W'.heap[k]? = W.heap[k]?):Ways S W' ao n cap ss l:=by
 refine ⟨⟨h.own.1,?_⟩,h.blk,h.len,fun y hy=>(h.nod y hy).same hf,h.as_⟩
 rcases h.own.2 with h1 | ⟨g,c,cur,e,hb,hgg,h2⟩
 ·exact Or.inl h1
 ·exact Or.inr ⟨g,c,cur,e,hb,by rw [hf g (h.blk g 0 (by simp only [Value.slice.injEq]at e;exact e.1)) (Array.getElem?_eq_some_iff.1 hgg).1];exact hgg,h2⟩
theorem Ways.keep(h:Ways S W ao n cap ss l)(hb:Below W.heap.size W W'):Ways S W' ao n cap ss l:=h.same (fun k _ hk=>hb.block k hk)
end
theorem Pn.typ{S:Nat→Prop}{W W':World}{co:Option Addr}{cn cc:Nat}{cs:List C}(h:Pn S W co cn cc cs)(hf:∀ k,(∀ cur,W.heap[k]?≠some (.cells cur 140 (0,0)))→k<W.heap.size→W'.heap[k]? = W.heap[k]?):Pn S W' co cn cc cs:=by
 have ht:∀ (b:Nat) (t:TypeId) (cur:Array Value),t≠140→∀ m:Nat×Nat,W.heap[b]? = some (Obj.cells cur t m)→W'.heap[b]? = W.heap[b]?:=fun b t cur ht m hx=>hf b (fun cur' e=>by
  rw [hx]at e
  simp only [Option.some.injEq,Obj.cells.injEq]at e
  exact ht e.2.1) (Array.getElem?_eq_some_iff.1 hx).1
 refine ⟨⟨h.own.1,?_⟩,fun a ha=>?_,h.len,h.cb,h.kb,fun a ha hn b o e=>?_⟩
 ·rcases h.own.2 with h1 | ⟨g,cap,cur,e,hb,hgg,h2⟩
  ·exact Or.inl h1
  ·exact Or.inr ⟨g,cap,cur,e,hb,(ht g 144 cur (by decide) _ hgg).trans hgg,h2⟩
 ·have k:=h.ck a ha
  refine { k with rd:=k.rd.same (fun hp b o e _=>?_) }
  obtain ⟨D,m,hx⟩:=h.t5 a ha hp b o e
  exact ht b 5 D (by decide) m hx
 ·obtain ⟨D,m,hx⟩:=h.t5 a ha hn b o e
  exact ⟨D,m,(ht b 5 D (by decide) m hx).trans hx⟩
theorem ch_nrm(r lo hi:Int)(i:Nat){cs cs':List C}(h:cs.map nrm=cs'.map nrm):chP r cs i=chP r cs' i∧chLo lo cs i=chLo lo cs' i∧chHi hi cs i=chHi hi cs' i:=by
 have hl:cs.length=cs'.length:=by simpa using congrArg List.length h
 have h1:=congrArg C.c (nrm_get h i)
 have h2:=congrArg C.k (nrm_get h i)
 have h3:=congrArg C.k (nrm_get h (i - 1))
 simp only [nrm]at h1 h2 h3
 unfold chP chLo chHi
 rw [hl,h1,h2,h3]
 exact ⟨rfl,rfl,rfl⟩
def Gone(arm:Prop)(room croom K:Nat)(hb p q:Nat)(R:Nat→Prop)(t:RS)(tr:List (Nat×List Nat))(ws:List Nat)(ss:List Sp)(w:World)(e:Ending)(w':World):Prop:=
 ∃ g cap l S,e=.returned (.tuple #[.slice (some ⟨g,0,none⟩) ss.length cap,.int .i64 0])∧Ways S w' (some ⟨g,0,none⟩) ss.length cap ss l∧(∀ b,S b→w.heap.size≤b)∧HeapS arm room croom K w' hb p q (Or2 R S) t tr ws∧Rok R w w'
structure DI (arm:Prop) (room croom K:Nat) (hb p q:Nat) (R:Nat→Prop) (t:RS) (tr:List (Nat×List Nat)) (ws:List Nat) (root:Nat) (key:Int) (q8:Nat) (w:World) (ss:List Sp) (i:Nat) (ao:Option Addr) (cap:Nat) (W:World) (dn rs:List Sp) (l:List (St×List C)) (S:Nat→Prop) (n:Nat) (lo hi:Int):Prop where
 all:ss=dn++rs
 num:dn.length=i
 path:Path t.now root key n lo hi rs
 ways:Ways S W ao i cap dn l
 box:SB W q8 (bare n lo hi)
 new:∀ b,S b→w.heap.size≤b∧b≠q8
 q8n:w.heap.size≤q8
 hs:HeapS arm room croom (K+i) W hb p q (Or2 (Plus R q8) S) t tr ws
 ok:Rok R w W
theorem down_any(ss:List Sp)(key:Int)(h:HeapS arm room croom K w hb p q R t tr ws)(hA:AllB t.now)(hT:TreeAt w tb hb root)(hm:R tb)(hP:Path t.now root key root (-9223372036854775808) 9223372036854775807 ss)(h13:ss.length≤13)(hKb:K+13≤500000) :
  Calls Tryz.prog 118 #[.pointer (some ⟨tb,0,none⟩),.int .i64 key] w (Gone arm room croom (K+ss.length) hb p q R t tr ws ss w):=by
 have cf:=hid (fault_yes hT)
 have ct:=hid (top_yes hT)
 have HH:=hid h;have HA:=hid hA;have HT:=hid hT;have HM:=hid hm;have HP:=hid hP
 have ce:Hid (∀ W R' i n lo hi x,i≤13→HeapS arm room croom (K+i) W hb p q R' t tr ws→TreeAt W tb hb root→R' tb→NodeAt t.now n x.leaf x.r x.cs→holdB lo hi x.leaf x.cs=true→(0<x.cs.length∨(x.leaf=true∧n=root))→Calls Tryz.prog 154 #[.pointer (some ⟨tb,0,none⟩),.agg #[.int .i64 (n:Int),.int .i64 lo,.int .i64 hi,.bool false,.int .i64 0,.slice none 0 0,.int .i64 0]] W (Entered arm room croom (K+i+1) hb p q R' t tr ws n lo hi (Sp.leaf x) x.r x.cs W)):=hid (fun W R' i n lo hi x hi13 h' hT' hm' hN hho hne=>by
  by_cases hz:0<x.cs.length
  ·exact enter_some h' hA hT' hm' hN (by omega) hho hz
  ·rcases hne with h1 | ⟨h1,h2⟩
   ·exact absurd h1 hz
   ·subst h2
    have e:x.leaf=true:=h1
    obtain ⟨xp,xl,xh,xf,xr,xc,xpl⟩:=x
    simp only at e hz hN hho ⊢
    subst e
    have hr0:xr=0:=by
     have:=hN.has
     unfold hasN Cel.goodN at this
     simp at this
     exact this.1.2.1
    subst hr0
    exact enter_root h' hA hT' hm' hN (by omega) hho (by omega))
 obtain ⟨i57,hi57,hz0,hz1,hz2⟩:=info_parts info112
 have HI:=hid hi57;have HZ0:=hid hz0;have HZ1:=hid hz1;have HZ2:=hid hz2
 clear h hA hT hm hP hi57 hz0 hz1 hz2
 go_enter Tryz.func118,Tryz.ntmps118
 go_wp2_with (first
  | (go_at_call 57;refine cf.out.mono ?_;rintro e w1 ⟨rfl,h1⟩;obtain rfl:=h1.symm;clear h1)
  | (go_at_call 153;refine ct.out.mono ?_;rintro e w1 ⟨rfl,hb1⟩;have B1:=hid hb1;clear hb1))
 obtain ⟨q8,hq8⟩:∃ q8,q8=w1.heap.size:=⟨_,rfl⟩
 obtain ⟨W2,hW2⟩:∃ W2,W2=w1.alloc (.cells #[.int .i64 (root:Int),.int .i64 (-9223372036854775808),.int .i64 9223372036854775807,.bool false,.int .i64 0,.slice none 0 0,.int .i64 0] 140):=⟨_,rfl⟩
 have B2:=hid (show Below w.heap.size w W2 by rw [hW2];exact gt B1.out (ext1 _))
 have S8:=hid (show SB W2 q8 (bare root (-9223372036854775808) 9223372036854775807) by rw [hW2,hq8];exact SB.new w1 (bare root (-9223372036854775808) 9223372036854775807))
 have hq8n:Hid (w.heap.size≤q8):=hid (by rw [hq8];exact B1.out.size)
 rw [←hW2,←hq8]
 replace hW2:=hid hW2;replace hq8:=hid hq8
 go_loopw [7,18] (fun a c W=>∃ (i:Nat) (ao:Option Addr) (cap:Nat),i<13∧a=.slice ao i cap∧c=.int .i64 (i:Int)∧Hid (∃ dn rs l S n lo hi,DI arm room croom K hb p q R t tr ws root key q8 w ss i ao cap W dn rs l S n lo hi)) (fun _ c _=>13 - (Lib.intOf c).toNat)
 case atStart=>
  refine ⟨0,none,0,by omega,rfl,rfl,hid ⟨[],ss,[],fun _=>False,root,_,_,rfl,rfl,HP.out,⟨World.ownsRow_nil _ _ _ _,(fun b o e=>by cases e),rfl,(fun y hy=>by cases hy),trivial⟩,S8.out,fun b h=>h.elim,hq8n.out,?_,Rok.of_below B2.out⟩⟩
  exact HH.out.mv (HH.out.prg.more B2.out (fun b hb=>by
   rcases hb with (hb |rfl) |hb
   ·exact Or.inl hb
   ·exact Or.inr ⟨hq8n.out,S8.out.lt⟩
   ·exact hb.elim)) (HH.out.heap.keep B2.out) (Or.inl (Or.inl HH.out.mem))
 case round=>
  obtain ⟨i,ao,cap,hi13,rfl,rfl,HX⟩:=hrel
  have hi':(i:Int)<13:=by omega
  obtain ⟨dn,rs,l,S,n,lo,hi,D⟩:=HX.out
  have HD:=hid D
  cases rs with
  | nil=>exact absurd D.path (by simp [Path])
  | cons x rest=>
   obtain ⟨⟨hxp,hxl,hxh,hpl⟩,hxN,hxh2,hxe,hxr⟩:=D.path
   have cE:=hid (ce.out wr _ i n lo hi x (by omega) D.hs (HT.out.rok D.ok HM.out) (Or.inl (Or.inl HM.out)) hxN hxh2 hxe)
   have XN:=hid hxN;have XR:=hid hxr;have XP:=hid (show x.pg=n∧x.lo=lo∧x.hi=hi∧x.pl=Cel.fN key x.cs from ⟨hxp,hxl,hxh,hpl⟩)
   obtain ⟨x0,x1,x2,x3,x4,x5,x6⟩:=D.box.cells
   simp only [bare]at x0 x1 x2 x3 x4 x5 x6
   clear D HX hxp hxl hxh hpl hxN hxh2 hxe hxr
   go_upto_region 11 with (go_at_call 154;refine cE.out.mono ?_;rintro e w3 ⟨co,cn,cc,cs,S3,rfl,hP,hE,hS,hs,hk⟩;have P3:=hid hP;have E3:=hid hE;have N3:=hid hS;have H3:=hid hs;have K3:=hid hk;clear hP hE hS hs hk x0 x1 x2 x3 x4 x5 x6)
   obtain ⟨xpg,xlo,xhi,leaf,r,xcs,xpl⟩:=x
   simp only at *
   obtain ⟨q9,hq9⟩:∃ q9,q9=w3.heap.size:=⟨_,rfl⟩
   obtain ⟨W4,hW4⟩:∃ W4,W4=w3.alloc (.cells #[.int .i64 (n:Int),.int .i64 lo,.int .i64 hi,.bool leaf,.int .i64 r,.slice co cn cc,.int .i64 0] 140):=⟨_,rfl⟩
   have B4:=hid (show Below w3.heap.size w3 W4 by rw [hW4];exact ext1 _)
   have S4:=hid (show SB W4 q9 ⟨n,lo,hi,leaf,r,co,cn,cc,0⟩ by rw [hW4,hq9];exact SB.new w3 ⟨n,lo,hi,leaf,r,co,cn,cc,0⟩)
   rw [←hW4,←hq9]
   replace hW4:=hid hW4;replace hq9:=hid hq9
   have hlen:cs.length=xcs.length:=by simpa using congrArg List.length E3.out
   have hfe:=node_few XN.out.has hlen P3.out.len
   have cc4:=hid (Cel.child_any leaf r co cn cc cs key W4 (P3.out.cs.keep B4.out) hfe)
   rw [fN_nrm key E3.out,←XP.out.2.2.2]at cc4
   generalize Cel.chN r key cs=CH at cc4
   obtain ⟨x0,x1,x2,x3,x4,x5,x6⟩:=S4.out.cells
   simp only at x0 x1 x2 x3 x4 x5 x6
   go_upto_region 12 with (go_at_call 177;refine cc4.out.mono ?_;rintro e w5 ⟨rfl,hb5⟩;have B5:=hid hb5;have S5:=hid (S4.out.keep hb5);clear hb5 x0 x1 x2 x3 x4 x5 x6;obtain ⟨x0,x1,x2,x3,x4,x5,x6⟩:=S5.out.cells;simp only at x0 x1 x2 x3 x4 x5 x6;have fx:=S5.out.fz 6)
   obtain ⟨W6,hW6⟩:∃ W6,W6=w5.setCell ⟨q9,6,none⟩ (.int .i64 (xpl:Int)):=⟨_,rfl⟩
   have S6:=hid (show SB W6 q9 ⟨n,lo,hi,leaf,r,co,cn,cc,(xpl:Int)⟩ by
    have h0:=heap_setCell_same _ q9 6 _ 140 (.int .i64 (xpl:Int)) S5.out
    rw [hW6];unfold SB;rw [h0];simp)
   have h9:=hq9.out
   have B36:=hid (show Below w3.heap.size w3 W6 by rw [hW6];exact below_set (gt B4.out B5.out) (by simp;omega) _)
   rw [←hW6]
   replace hW6:=hid hW6
   clear x0 x1 x2 x3 x4 x5 x6 fx h9
   obtain ⟨x0,x1,x2,x3,x4,x5,x6⟩:=S6.out.cells
   simp only at x0 x1 x2 x3 x4 x5 x6
   have S7n:=hid (SB.new W6 ⟨n,lo,hi,leaf,r,co,cn,cc,(xpl:Int)⟩)
   have WY:=hid (show Ways S w3 ao i cap dn l from HD.out.ways.same (fun k hs hl=>K3.out.at_ (Or.inr hs) hl))
   have WZ:=hid (WY.out.keep (gt B36.out (ext1 (.cells #[.int .i64 (n:Int),.int .i64 lo,.int .i64 hi,.bool leaf,.int .i64 r,.slice co cn cc,.int .i64 (xpl:Int)] 140))))
   go_upto_region 13 with ((with_reducible refine Cel.here_op 40 ?_);refine wpList_append_lies _ rfl (.tmp 37) (.tmp 39) 149 rfl 0 140 i57 (.agg #[.int .i64 0,.int .i64 0,.int .i64 0,.bool false,.int .i64 0,.slice none 0 0,.int .i64 0]) 7 72 u122 HI.out HZ0.out HZ1.out HZ2.out rfl (by decide) (.slice ao i cap) i (svs l) rfl WZ.out.own ⟨W6.heap.size,0,none⟩ 1 1 (sv ⟨n,lo,hi,leaf,r,co,cn,cc,(xpl:Int)⟩) rfl rfl (sv_cells S7n.out) (sv_one _) (by omega) (by unfold maxLen;omega) (by omega) (Nat.zero_le _) _ rfl ?_;intro g8 cap8 w8 ho8 hg8 ha8 hl8;have O8:=hid ho8;have G8:=hid hg8;have L8:=hid (And.intro ha8 hl8);clear ho8 hg8 ha8 hl8)
   have DL:∀ b,S b→b<wr.heap.size:=fun b hb=>HD.out.hs.prg.lt (Or.inr hb)
   have sz3:=K3.out.size
   have h9:=hq9.out
   obtain ⟨WA,hWA⟩:∃ WA,WA=W6.alloc (.cells #[.int .i64 (n:Int),.int .i64 lo,.int .i64 hi,.bool leaf,.int .i64 r,.slice co cn cc,.int .i64 (xpl:Int)] 140):=⟨_,rfl⟩
   rw [←hWA]at G8 WZ
   have BA:Below w3.heap.size w3 WA:=by rw [hWA];exact gt B36.out (ext1 _)
   have F8:=fr_grown G8.out
   have oS:∀ b,(Value.slice ao i cap).ownBlock=some b→S b:=fun b e=>WZ.out.blk b 0 (own_blk WZ.out.own e).1
   have F38:=hid (show Fr S w3 w8 from (Fr.of_below (S:=S) BA).trans (fr_imp F8 oS) (fun _ _ h=>h))
   have hq8S:¬S q8:=fun e=>(HD.out.new q8 e).2 rfl
   have b8:=hid (show SB w8 q8 (bare n lo hi) from (F38.out.blk q8 (HD.out.box.rok K3.out (Or.inl (Or.inr rfl))).lt hq8S).trans (HD.out.box.rok K3.out (Or.inl (Or.inr rfl))))
   have b9:=hid (show SB w8 q9 ⟨n,lo,hi,leaf,r,co,cn,cc,(xpl:Int)⟩ from by
    have hk:SB WA q9 ⟨n,lo,hi,leaf,r,co,cn,cc,(xpl:Int)⟩:=by rw [hWA];exact S6.out.keep (ext1 _)
    exact (F8.blk q9 hk.lt (fun e=>by have:=DL q9 (oS q9 e);omega)).trans hk)
   have hnew8:(S g8∨(w3.heap.size≤g8∧g8<w8.heap.size)):=by
    rcases L8.out.1 with e |e
    ·exact Or.inl (oS g8 e)
    ·refine Or.inr ⟨?_,L8.out.2⟩
     have:=BA.size
     rw [hWA]at this
     omega
   have NT:∀ k,(∀ cur,WA.heap[k]?≠some (.cells cur 140 (0,0)))→k<WA.heap.size→w8.heap[k]? = WA.heap[k]?:=fun k hk hl=>F8.blk k hl (fun e=>by
    obtain ⟨_,cur,hx⟩:=own_blk WZ.out.own e
    exact hk cur hx)
   have PY:∀ y∈l,Pn S w8 y.1.co y.1.cn y.1.cc y.2:=fun y hy=>(WZ.out.nod y hy).typ NT
   have PC:Pn S3 w8 co cn cc cs:=(P3.out.keep BA).typ NT
   have WW:=hid (show Ways (fun b=>(S b∨S3 b)∨b=g8) w8 (some ⟨g8,0,none⟩) (i+1) cap8 (dn++[⟨xpg,xlo,xhi,leaf,r,xcs,xpl⟩]) (l++[(⟨n,lo,hi,leaf,r,co,cn,cc,(xpl:Int)⟩,cs)]) from
    ⟨by rw [svs_app];simpa [svs] using O8.out,fun b o e=>by cases e;exact Or.inr rfl,by simp [WY.out.len],fun y hy=>by
     rcases List.mem_append.1 hy with hy |hy
     ·exact (PY y hy).more (fun b h=>Or.inl (Or.inl h))
     ·simp at hy;subst hy;exact PC.more (fun b h=>Or.inl (Or.inr h)),
    WY.out.as_.snoc ⟨by rw [XP.out.1],XP.out.2.1.symm,XP.out.2.2.1.symm,rfl,rfl,rfl,E3.out⟩⟩)
   have hbl:=HH.out.heap.lt
   have FR:Fr (Or2 (Or2 (Plus R q8) S) S3) w3 w8:=fr_imp F38.out (fun b e=>Or.inl (Or.inr e))
   have H8:=hid (show HeapS arm room croom (K+i+1) w8 hb p q (Or2 (Plus R q8) (fun b=>(S b∨S3 b)∨b=g8)) t tr ws from (H3.out.mv (H3.out.prg.work FR) (H3.out.heap.fr F38.out (fun e=>by have:=(HD.out.new hb e).1;omega)) (Or.inl H3.out.mem)).less (fun b hb=>by
    rcases hb with hb |(hb |hb) |rfl
    ·exact Or.inl (Or.inl (Or.inl hb))
    ·exact Or.inl (Or.inl (Or.inr hb))
    ·exact Or.inl (Or.inr hb)
    ·rcases hnew8 with e |e
     ·exact Or.inl (Or.inl (Or.inr e))
     ·exact Or.inr e) (Or.inl (Or.inl HH.out.mem)))
   have nw8:=hid (show ∀ b,((S b∨S3 b)∨b=g8)→w.heap.size≤b∧b≠q8 from fun b hb=>by
    have q8l:=HD.out.box.lt
    have szr:=HD.out.ok.size
    rcases hb with (hb |hb) |rfl
    ·exact HD.out.new b hb
    ·have:=N3.out b hb;omega
    ·rcases hnew8 with e |e
     ·exact HD.out.new _ e
     ·omega)
   have K8:=hid (show Rok R w w8 from (HD.out.ok.then K3.out (fun b h=>Or.inl (Or.inl h))).mine F38.out (fun b hb=>(HD.out.new b hb).1))
   have hPN:=hid PC
   replace hWA:=hid hWA
   clear x0 x1 x2 x3 x4 x5 x6 DL sz3 h9 BA F8 oS hq8S hnew8 NT PY PC hbl FR
   obtain ⟨x0,x1,x2,x3,x4,x5,x6⟩:=b9.out.cells
   simp only at x0 x1 x2 x3 x4 x5 x6
   have XRo:=XR.out
   rcases XRo with ⟨hrs,hlf⟩ | ⟨hlf,hcp,hkp,n',hn',hpath⟩
   ·subst hlf hrs
    go_wp2
    (try simp only [Exit.inBlock,Exit.then])
    go_ret2
    have hall:=HD.out.all
    have hnum:=HD.out.num
    have hl:ss.length=i+1:=by rw [hall];simp [hnum]
    refine ⟨g8,cap8,_,_,by rw [hl];rfl,by rw [hl,hall];exact WW.out,fun b hb=>(nw8.out b hb).1,?_,K8.out⟩
    rw [hl]
    exact H8.out.less (fun b hb=>by rcases hb with hb |hb;exact Or.inl (Or.inl hb);exact Or.inr hb) (Or.inl HH.out.mem)
   ·subst hlf
    have hcn':cs.length=cn:=hPN.out.len
    have hle:=Cel.firstN_le (Cel.notBelow key) xcs
    have hpl:xpl≤cn:=by have:=XP.out.2.2.2;unfold Cel.fN at this;omega
    have cch:=hid (child_all ⟨n,lo,hi,false,r,co,cn,cc,(xpl:Int)⟩ cs xpl w8 hPN.out.cs hfe (by show 0<cn;omega) hpl (fun h0=>by
     have:=congrArg C.k (nrm_get E3.out (xpl - 1));simp only [nrm]at this;rw [this];exact hkp h0))
    obtain ⟨e1,e2,e3⟩:=ch_nrm r lo hi xpl E3.out
    simp only [e1,e2,e3,hn']at cch
    generalize chLo lo xcs xpl=lo2 at *
    generalize chHi hi xcs xpl=hi2 at *
    have HPA:=hid hpath
    clear e1 e2 e3 hn' hcp hkp hcn' hle hpl hpath
    obtain ⟨v0,v1,v2,v3,v4,v5,v6⟩:=b8.out.cells
    go_upto_region 15 with fail
    go_upto_region 16 with (go_at_call 178;refine cch.out.mono ?_;rintro e w9 ⟨rfl,hb9⟩;have B9:=hid hb9;have b8':=hid (b8.out.keep hb9);clear hb9 v0 v1 v2 v3 v4 v5 v6;obtain ⟨v0,v1,v2,v3,v4,v5,v6⟩:=b8'.out.cells;have f0:=b8'.out.fz 0;have f1:=b8'.out.fz 1;have f2:=b8'.out.fz 2;have f3:=b8'.out.fz 3;have f4:=b8'.out.fz 4;have f5:=b8'.out.fz 5;have f6:=b8'.out.fz 6)
    obtain ⟨WB,hWB⟩:∃ WB,WB=((((((w9.setCell ⟨q8,0,none⟩ (.int .i64 (n':Int))).setCell ⟨q8,1,none⟩ (.int .i64 lo2)).setCell ⟨q8,2,none⟩ (.int .i64 hi2)).setCell ⟨q8,3,none⟩ (.bool false)).setCell ⟨q8,4,none⟩ (.int .i64 0)).setCell ⟨q8,5,none⟩ (.slice none 0 0)).setCell ⟨q8,6,none⟩ (.int .i64 0):=⟨_,rfl⟩
    rw [←hWB]
    have FB:=hid (show Fr (fun k=>k=q8) w9 WB by rw [hWB];exact fr7)
    have bB:=hid (show SB WB q8 (bare n' lo2 hi2) by rw [hWB];exact box7 b8'.out)
    replace hWB:=hid hWB
    clear v0 v1 v2 v3 v4 v5 v6 f0 f1 f2 f3 f4 f5 f6 x0 x1 x2 x3 x4 x5 x6
    go_wp2
    go_roundw
    case measure=>simp [Lib.intOf];omega
    case rel=>
     have hall:=HD.out.all
     have hnum:=HD.out.num
     have hrl:0<rest.length:=by
      cases rest with
      | nil=>exact absurd HPA.out (by simp [Path])
      | cons a b=>simp
     have hl:ss.length=i+1+rest.length:=by rw [hall];simp [hnum];omega
     have hbl:=HH.out.heap.lt
     have q8n:=HD.out.q8n
     refine ⟨i+1,some ⟨g8,0,none⟩,cap8,by omega,rfl,by go_num,hid ⟨dn++[⟨xpg,xlo,xhi,false,r,xcs,xpl⟩],rest,_,_,n',lo2,hi2,by rw [hall];simp,by simp [hnum],HPA.out,(WW.out.keep B9.out).same (fun k hk hl=>FB.out.blk k hl (nw8.out k hk).2),bB.out,nw8.out,q8n,?_,?_⟩⟩
     ·have h9:=H8.out.keep B9.out
      exact h9.mv (h9.prg.mine (fr_imp FB.out (fun b e=>Or.inl (Or.inr e)))) (h9.heap.fr FB.out (by omega)) h9.mem
     ·exact (K8.out.below B9.out).mine FB.out (fun b e=>by omega)
end
end Tre
namespace Tre
open Go.RowKit Go.Maps
open Dsk (gt hid undrew keep_old keep_cell lt_cell newD)
open Jrn (Row5)
open Cch (Fr wpAnyK wpAnyK_done wp_region_K hd_cell hd_frozen blk_set)
open Cel (C Cs Cok NB At5 ext1 below_set I64 nrm hasN pageN)
open Spl (Same AllB)
section
variable {arm:Prop} {room croom K:Nat} {p q:Nat} {R:Nat→Prop} {t:RS} {w:World} {hb tb root:Nat} {tr:List (Nat×List Nat)} {ws:List Nat}
theorem svs_get(l:List (St×List C)):∀ j,j<l.length→∀ c,c<7→(svs l)[j*7+c]? = (sv (l.getD j default).1)[c]?:=by
 induction l with
 | nil=>intro j hj;simp at hj
 | cons a l ih=>
  intro j hj c hc
  have h7:(sv a.1).length=7:=rfl
  show (sv a.1++svs l)[j*7+c]? = _
  cases j with
  | zero=>rw [Nat.zero_mul,Nat.zero_add,List.getElem?_append_left (by rw [h7];omega)];rfl
  | succ j=>
   rw [List.getElem?_append_right (by rw [h7];omega),h7,show (j+1)*7+c - 7=j*7+c by omega,ih j (by simpa using hj) c hc]
   rfl
theorem Ways.cells{S:Nat→Prop}{W:World}{g n cap:Nat}{ss:List Sp}{l:List (St×List C)}(h:Ways S W (some ⟨g,0,none⟩) n cap ss l)(j:Nat)(hj:j<n)(s:St)(hs:(l.getD j default).1=s):W.cell? ⟨g,j*7,none⟩=some (.int .i64 s.pg)∧W.cell? ⟨g,j*7+1,none⟩=some (.int .i64 s.lo)∧W.cell? ⟨g,j*7+2,none⟩=some (.int .i64 s.hi)∧W.cell? ⟨g,j*7+3,none⟩=some (.bool s.leaf)∧W.cell? ⟨g,j*7+4,none⟩=some (.int .i64 s.r)∧W.cell? ⟨g,j*7+5,none⟩=some (.slice s.co s.cn s.cc)∧W.cell? ⟨g,j*7+6,none⟩=some (.int .i64 s.pl):=by
 obtain ⟨cur,hg,h1,h2,h3,h4⟩:=row_parts h.own
 have hx:∀ i,i<7→W.cell? ⟨g,j*7+i,none⟩=(sv s)[i]?:=fun i hi=>by
  rw [←hs,←svs_get l j (by rw [h.len];exact hj) i hi,←h4,List.getElem?_take_of_lt (by omega)]
  simp [World.cell?,hg]
 exact ⟨hx 0 (by omega),hx 1 (by omega),hx 2 (by omega),hx 3 (by omega),hx 4 (by omega),hx 5 (by omega),hx 6 (by omega)⟩
theorem Alike.get:∀ {a:List Sp} {b:List (St×List C)},Alike a b→∀ j (d:Sp),j<a.length→Like (a.getD j d) (b.getD j default)
 | [],_,_,j,_,hj=>by simp at hj
 | _::_,[],h,_,_,_=>h.elim
 | x::a,y::b,h,0,_,_=>h.1
 | x::a,y::b,h,j+1,d,hj=>Alike.get (a:=a) (b:=b) h.2 j d (by simpa using hj)
theorem wayleaf_any(g m cap:Nat)(w:World)(hm:m≤100):Calls Tryz.prog 75 #[.slice (some ⟨g,0,none⟩) (m+1) cap] w fun e w'=>e=.returned (.pointer (some ⟨g,m*7,none⟩))∧w'=w:=by
 have h1:(m:Int)<(m:Int)+1:=by omega
 have h2:(0:Int)≤(m:Int):=by omega
 have h3:IntKind.i64.wrap (m:Int)=(m:Int):=by rw [IntKind.wrap_i64];omega
 go_enter Tryz.func75,Tryz.ntmps75
 go_wp2
 go_ret
 exact ⟨by simp,rfl⟩
def Leaf2(arm:Prop)(room croom K:Nat)(hb p q:Nat)(R:Nat→Prop)(t:RS)(tr:List (Nat×List Nat))(ws:List Nat)(x:Sp)(w:World)(e:Ending)(w':World):Prop:=
 ∃ co cn cc cs S,e=.returned (.tuple #[.agg #[.int .i64 (x.pg:Int),.int .i64 x.lo,.int .i64 x.hi,.bool x.leaf,.int .i64 x.r,.slice co cn cc,.int .i64 (x.pl:Int)],.int .i64 0])∧Pn S w' co cn cc cs∧cs.map nrm=x.cs.map nrm∧(∀ b,S b→w.heap.size≤b)∧HeapS arm room croom K w' hb p q (Or2 R S) t tr ws∧Rok R w w'
theorem leaf_any(ss:List Sp)(x:Sp)(key:Int)(h:HeapS arm room croom K w hb p q R t tr ws)(hA:AllB t.now)(hT:TreeAt w tb hb root)(hm:R tb)(hP:Path t.now root key root (-9223372036854775808) 9223372036854775807 (ss++[x]))(h13:ss.length≤12)(hKb:K+13≤500000) :
  Calls Tryz.prog 71 #[.pointer (some ⟨tb,0,none⟩),.int .i64 key] w (Leaf2 arm room croom (K+(ss.length+1)) hb p q R t tr ws x w):=by
 obtain ⟨W0,hW0⟩:∃ W0,W0=w.alloc (.cells #[.int .i64 0,.int .i64 0,.int .i64 0,.bool false,.int .i64 0,.slice none 0 0,.int .i64 0] 140):=⟨_,rfl⟩
 have B0:Below w.heap.size w W0:=by rw [hW0];exact ext1 _
 obtain ⟨q4,hq4⟩:∃ q4,q4=w.heap.size:=⟨_,rfl⟩
 have s4:SB W0 q4 (bare 0 0 0):=by rw [hW0,hq4];exact SB.new w (bare 0 0 0)
 have m4:Hid (NewR R w W0 q4):=hid (Or.inr ⟨by omega,s4.lt⟩)
 have cd:=hid (down_any (ss++[x]) key (h.news B0) hA (hT.keep B0) (Or.inl hm) hP (by simp;omega) hKb)
 have HH:=hid h;have BB:=hid B0;have S4:=hid s4
 obtain ⟨m,hmm⟩:∃ m,m=ss.length:=⟨_,rfl⟩
 have hsl:(ss++[x]).length=m+1:=by simp [hmm]
 unfold Gone at cd
 rw [hsl]at cd
 rw [←hmm]
 have hgx:=hid (show (ss++[x]).getD m x=x by rw [hmm];simp)
 have hm12:m≤12:=by omega
 have hsl':=hid hsl
 clear h hA hT hm hP B0 s4 hmm hsl
 go_enter Tryz.func71,Tryz.ntmps71
 go_upto_region 1 with fail
 rw [←hW0,←hq4]
 replace hW0:=hid hW0;replace hq4:=hid hq4
 go_upto_region 4 with (go_at_call 118;refine cd.out.mono ?_;rintro e w1 ⟨g,wcap,l,S,rfl,hW,hS,hs,hk⟩;have W1:=hid hW;have N1:=hid hS;have H1:=hid hs;have K1:=hid hk;clear hW hS hs hk)
 have S41:=hid (S4.out.rok K1.out m4.out)
 obtain ⟨y,hy⟩:∃ y,y=l.getD m default:=⟨_,rfl⟩
 have hlike:=W1.out.as_.get m x (by rw [hsl'.out];omega)
 rw [hgx.out,←hy]at hlike
 obtain ⟨c0,c1,c2,c3,c4,c5,c6⟩:=W1.out.cells m (by omega) y.1 (by rw [hy])
 obtain ⟨k0,k1,k2,k3,k4,k5,k6⟩:=hlike
 rw [k0]at c0;rw [k1]at c1;rw [k2]at c2;rw [k3]at c3;rw [k4]at c4;rw [k5]at c6
 have hym:y∈l:=by rw [hy,List.getD,List.getElem?_eq_getElem (by rw [W1.out.len];omega)];exact List.getElem_mem _
 have PN:=hid (W1.out.nod y hym)
 have K6:=hid k6
 obtain ⟨⟨yp,yl,yh,yf,yr,co,cn,cc,yq⟩,cs⟩:=y
 simp only at c5 PN K6
 clear k0 k1 k2 k3 k4 k5 k6 hy hym
 obtain ⟨z0,z1,z2,z3,z4,z5,z6⟩:=S41.out.cells
 have f0:=S41.out.fz 0;have f1:=S41.out.fz 1;have f2:=S41.out.fz 2;have f3:=S41.out.fz 3;have f4:=S41.out.fz 4;have f5:=S41.out.fz 5;have f6:=S41.out.fz 6
 go_wp2_with (go_at_call 75;refine (wayleaf_any g m wcap _ (by omega)).mono ?_;rintro e w2 ⟨rfl,h2⟩;obtain rfl:=h2.symm;clear h2)
 refine bodyPost_ret (ret_b2 (a:=4) (u:=5) (by kernel_rfl) (by kernel_rfl) (by kernel_rfl) rfl (box7 S41.out)) rfl ?_
 generalize hW5:((((((w1.setCell ⟨q4,0,none⟩ (.int .i64 (x.pg:Int))).setCell ⟨q4,1,none⟩ (.int .i64 x.lo)).setCell ⟨q4,2,none⟩ (.int .i64 x.hi)).setCell ⟨q4,3,none⟩ (.bool x.leaf)).setCell ⟨q4,4,none⟩ (.int .i64 x.r)).setCell ⟨q4,5,none⟩ (.slice co cn cc)).setCell ⟨q4,6,none⟩ (.int .i64 (x.pl:Int))=W5
 have F5:Fr (fun k=>k=q4) w1 W5:=by rw [←hW5];exact fr7
 have h4:=hq4.out
 have s0:=BB.out.size
 have hlt:=S4.out.lt
 have nS:∀ b,S b→W0.heap.size≤b:=N1.out
 have hbl:=HH.out.heap.lt
 refine ⟨co,cn,cc,cs,S,rfl,PN.out.same (fun k hk hl=>F5.blk k hl (by have:=nS k hk;omega)),K6.out,fun b hb=>by have:=nS b hb;omega,?_,?_⟩
 ·refine (H1.out.mv (H1.out.prg.mine (fr_imp F5 (fun b e=>?_))) (H1.out.heap.fr F5 (by omega)) H1.out.mem).less (fun b hb=>?_) (Or.inl HH.out.mem)
  ·rw [e];exact Or.inl m4.out
  ·rcases hb with hb |hb
   ·exact Or.inl (Or.inl hb)
   ·exact Or.inr hb
 ·exact (Rok.after BB.out K1.out (fun b h=>Or.inl h)).mine F5 (fun b e=>by omega)
end
end Tre
namespace Tre
open Go.RowKit Go.Maps
open Dsk (gt hid undrew keep_old keep_cell lt_cell newD)
open Jrn (Row5)
open Cch (Fr wpAnyK wpAnyK_done wp_region_K hd_cell hd_frozen blk_set)
open Cel (C Cs Cok NB At5 ext1 below_set I64 nrm hasN pageN)
open Spl (Same AllB)
section
variable {arm:Prop} {room croom K:Nat} {p q:Nat} {R:Nat→Prop} {t:RS} {w:World} {hb tb root:Nat} {tr:List (Nat×List Nat)} {ws:List Nat}
def abO(key:Int)(cs:List C):Option Int:=if abN key cs<cs.length then some (cs.getD (abN key cs) default).k else none
def beO(key:Int)(cs:List C):Option Int:=if Cel.fN key cs=0 then none else some (cs.getD (Cel.fN key cs - 1) default).k
theorem abO_nrm(key:Int){cs cs':List C}(h:cs.map nrm=cs'.map nrm):abO key cs=abO key cs':=by
 have hl:cs.length=cs'.length:=by simpa using congrArg List.length h
 have ha:abN key cs=abN key cs':=by unfold abN;rw [fN_nrm key h,fB_nrm key h]
 have hk:=congrArg C.k (nrm_get h (abN key cs'))
 simp only [nrm]at hk
 unfold abO;rw [ha,hl,hk]
theorem beO_nrm(key:Int){cs cs':List C}(h:cs.map nrm=cs'.map nrm):beO key cs=beO key cs':=by
 have hk:=congrArg C.k (nrm_get h (Cel.fN key cs' - 1))
 simp only [nrm]at hk
 unfold beO;rw [fN_nrm key h,hk]
theorem abN_le(key:Int)(cs:List C):abN key cs≤cs.length:=by
 have h:=Cel.firstN_le (Cel.notBelow key) cs
 unfold abN Cel.fB
 split
 ·split<;>omega
 ·simp;exact h
theorem behind_no(lo hi:Int)(w:World)(h:hi=9223372036854775807):Calls Tryz.prog 83 #[.agg #[.int .i64 lo,.int .i64 hi]] w fun e w'=>e=.returned (.tuple #[.int .i64 0,.bool false])∧Below w.heap.size w w':=by
 subst h
 go_enter Tryz.func83,Tryz.ntmps83
 go_wp2
 go_ret2
 exact ⟨rfl,ext1 _⟩
theorem behind_yes(lo hi:Int)(w:World)(h:hi≠9223372036854775807)(hI:I64 hi):Calls Tryz.prog 83 #[.agg #[.int .i64 lo,.int .i64 hi]] w fun e w'=>e=.returned (.tuple #[.int .i64 (hi+1),.bool true])∧Below w.heap.size w w':=by
 have h1:(hi == 9223372036854775807)=false:=by simpa using h
 have h2:IntKind.i64.wrap (hi+1)=hi+1:=by rw [IntKind.wrap_i64];obtain ⟨a,b⟩:=hI;omega
 clear h hI
 go_enter Tryz.func83,Tryz.ntmps83
 go_wp2
 go_ret2
 exact ⟨by simp,ext1 _⟩
theorem ahead_no(lo hi:Int)(w:World)(h:lo = -9223372036854775808):Calls Tryz.prog 85 #[.agg #[.int .i64 lo,.int .i64 hi]] w fun e w'=>e=.returned (.tuple #[.int .i64 0,.bool false])∧Below w.heap.size w w':=by
 subst h
 go_enter Tryz.func85,Tryz.ntmps85
 go_wp2
 go_ret2
 exact ⟨rfl,ext1 _⟩
theorem ahead_yes(lo hi:Int)(w:World)(h:lo≠-9223372036854775808)(hI:I64 lo):Calls Tryz.prog 85 #[.agg #[.int .i64 lo,.int .i64 hi]] w fun e w'=>e=.returned (.tuple #[.int .i64 (lo - 1),.bool true])∧Below w.heap.size w w':=by
 have h1:(lo == -9223372036854775808)=false:=by simpa using h
 have h2:IntKind.i64.wrap (lo - 1)=lo - 1:=by rw [IntKind.wrap_i64];obtain ⟨a,b⟩:=hI;omega
 clear h hI
 go_enter Tryz.func85,Tryz.ntmps85
 go_wp2
 go_ret2
 exact ⟨by simp,ext1 _⟩
theorem above_none(key:Int)(leaf:Bool)(r:Int)(co:Option Addr)(cn cc:Nat)(cs:List C)(w:World)(h:Cs w co cn cc cs)(hcn:cn≤100000)(hi:abN key cs=cn) :
  Calls Tryz.prog 82 #[.int .i64 key,.agg #[.bool leaf,.int .i64 r,.slice co cn cc]] w fun e w'=>e=.returned (.tuple #[.int .i64 0,.bool false])∧Below w.heap.size w w':=by
 obtain ⟨W0,hW0⟩:∃ W0,W0=w.alloc (.cells #[.bool leaf,.int .i64 r,.slice co cn cc] 111):=⟨_,rfl⟩
 have B0:Below w.heap.size w W0:=by rw [hW0];exact ext1 _
 obtain ⟨q3,hq3⟩:∃ q3,q3=w.heap.size:=⟨_,rfl⟩
 have N0:NB 111 W0 q3 leaf r co cn cc:=by rw [hW0,hq3];exact NB.new 111 w leaf r co cn cc
 have cf:=hid (Cel.find_any leaf r co cn cc cs key W0 (h.keep B0) hcn)
 have BB:=hid B0;have NN:=hid N0
 obtain ⟨u0,u1,u2⟩:=N0.cells
 unfold abN at hi
 clear h B0 N0
 cases hfb:Cel.fB key cs with
 | false=>
  rw [hfb]at hi cf
  simp only [Bool.false_eq_true,if_false,Nat.add_zero]at hi
  rw [hi]at cf
  clear hi hfb
  go_enter Tryz.func82,Tryz.ntmps82
  go_upto_region 1 with fail
  rw [←hW0,←hq3]
  replace hW0:=hid hW0;replace hq3:=hid hq3
  go_wp2_with (go_at_call 147;refine cf.out.mono ?_;rintro e w1 ⟨rfl,hb1⟩;have B1:=hid (gt BB.out hb1);have N1:=hid (NN.out.keep hb1);clear u0 u1 u2;obtain ⟨u0,u1,u2⟩:=N1.out.cells;clear hb1)
  go_ret2
  exact ⟨rfl,B1.out⟩
 | true=>
  rw [hfb]at hi cf
  simp only [if_true]at hi
  obtain ⟨f,hf⟩:∃ f,f=Cel.fN key cs:=⟨_,rfl⟩
  rw [←hf]at hi cf
  have hw1:IntKind.i64.wrap ((f:Int)+1)=(cn:Int):=by rw [IntKind.wrap_i64];omega
  clear hi hfb hf
  go_enter Tryz.func82,Tryz.ntmps82
  go_upto_region 1 with fail
  rw [←hW0,←hq3]
  replace hW0:=hid hW0;replace hq3:=hid hq3
  go_wp2_with (go_at_call 147;refine cf.out.mono ?_;rintro e w1 ⟨rfl,hb1⟩;have B1:=hid (gt BB.out hb1);have N1:=hid (NN.out.keep hb1);clear u0 u1 u2;obtain ⟨u0,u1,u2⟩:=N1.out.cells;clear hb1)
  go_ret2
  exact ⟨rfl,B1.out⟩
theorem below_none(key:Int)(leaf:Bool)(r:Int)(co:Option Addr)(cn cc:Nat)(cs:List C)(w:World)(h:Cs w co cn cc cs)(hcn:cn≤100000)(hi:Cel.fN key cs=0) :
  Calls Tryz.prog 84 #[.int .i64 key,.agg #[.bool leaf,.int .i64 r,.slice co cn cc]] w fun e w'=>e=.returned (.tuple #[.int .i64 0,.bool false])∧Below w.heap.size w w':=by
 have cf:=hid (Cel.find_any leaf r co cn cc cs key _ (h.keep (ext1 (.cells #[.bool leaf,.int .i64 r,.slice co cn cc] 111))) hcn)
 rw [hi]at cf
 clear h hi
 go_enter Tryz.func84,Tryz.ntmps84
 go_wp2_with (go_at_call 147;refine cf.out.mono ?_;rintro e w1 ⟨rfl,hb1⟩;have B1:=hid (gt (ext1 _) hb1);clear hb1)
 go_ret2
 exact ⟨rfl,B1.out⟩
theorem below_found(key:Int)(leaf:Bool)(r:Int)(b off cn cc:Nat)(cs:List C)(i:Nat)(k:Int)(w:World)(h:Cs w (some ⟨b,off,none⟩) cn cc cs)(hcn:cn≤100000)(hi:Cel.fN key cs=i+1)(hlt:i<cn)(hk:(cs.getD i default).k=k) :
  Calls Tryz.prog 84 #[.int .i64 key,.agg #[.bool leaf,.int .i64 r,.slice (some ⟨b,off,none⟩) cn cc]] w fun e w'=>e=.returned (.tuple #[.int .i64 k,.bool true])∧Below w.heap.size w w':=by
 obtain ⟨W0,hW0⟩:∃ W0,W0=w.alloc (.cells #[.bool leaf,.int .i64 r,.slice (some ⟨b,off,none⟩) cn cc] 111):=⟨_,rfl⟩
 have B0:Below w.heap.size w W0:=by rw [hW0];exact ext1 _
 obtain ⟨q3,hq3⟩:∃ q3,q3=w.heap.size:=⟨_,rfl⟩
 have N0:NB 111 W0 q3 leaf r (some ⟨b,off,none⟩) cn cc:=by rw [hW0,hq3];exact NB.new 111 w leaf r (some ⟨b,off,none⟩) cn cc
 have cf:=hid (Cel.find_any leaf r (some ⟨b,off,none⟩) cn cc cs key W0 (h.keep B0) hcn)
 obtain ⟨F,hF⟩:∃ F,F=i+1:=⟨_,rfl⟩
 rw [hi,←hF]at cf
 have BB:=hid B0;have NN:=hid N0
 obtain ⟨b',off',e',hc⟩:=h.at_ (by omega)
 simp only [Option.some.injEq,Addr.mk.injEq,and_true]at e'
 obtain ⟨rfl,rfl⟩:=e'
 have c0:=(hc i hlt).1
 rw [hk]at c0
 have C0:=hid (fun W (hb:Below w.heap.size w W)=>keep_old hb c0)
 obtain ⟨u0,u1,u2⟩:=N0.cells
 have n1:(0:Int)≤(i:Int):=by omega
 have n2:(i:Int)<(cn:Int):=by omega
 have n3:((F:Int) == 0)=false:=by simp;omega
 have n4:(F:Int) - 1=(i:Int):=by omega
 have hw:IntKind.i64.wrap (i:Int)=(i:Int):=by rw [IntKind.wrap_i64];omega
 clear h B0 N0 hc c0 hk hi hF
 go_enter Tryz.func84,Tryz.ntmps84
 go_upto_region 1 with fail
 rw [←hW0,←hq3]
 replace hW0:=hid hW0;replace hq3:=hid hq3
 go_wp2_with (go_at_call 147;refine cf.out.mono ?_;rintro e w1 ⟨rfl,hb1⟩;have B1:=hid (gt BB.out hb1);have N1:=hid (NN.out.keep hb1);have c1:=C0.out w1 B1.out;clear u0 u1 u2;obtain ⟨u0,u1,u2⟩:=N1.out.cells;clear hb1)
 go_ret2
 exact ⟨rfl,B1.out⟩
theorem above_all(key:Int)(leaf:Bool)(r:Int)(co:Option Addr)(cn cc:Nat)(cs:List C)(v:Option Int)(w:World)(h:Cs w co cn cc cs)(hcn:cn≤100000)(hv:abO key cs=v) :
  Calls Tryz.prog 82 #[.int .i64 key,.agg #[.bool leaf,.int .i64 r,.slice co cn cc]] w fun e w'=>e=.returned (.tuple #[.int .i64 (v.getD 0),.bool v.isSome])∧Below w.heap.size w w':=by
 have hl:=h.len
 have hle:=abN_le key cs
 unfold abO at hv
 by_cases hlt:abN key cs<cs.length
 ·rw [if_pos hlt]at hv
  subst hv
  obtain ⟨b,off,rfl,hc⟩:=h.at_ (by omega)
  exact above_found key leaf r b off cn cc cs _ _ w h hcn rfl (by omega) rfl
 ·rw [if_neg hlt]at hv
  subst hv
  exact above_none key leaf r co cn cc cs w h hcn (by omega)
theorem below_all(key:Int)(leaf:Bool)(r:Int)(co:Option Addr)(cn cc:Nat)(cs:List C)(v:Option Int)(w:World)(h:Cs w co cn cc cs)(hcn:cn≤100000)(hv:beO key cs=v) :
  Calls Tryz.prog 84 #[.int .i64 key,.agg #[.bool leaf,.int .i64 r,.slice co cn cc]] w fun e w'=>e=.returned (.tuple #[.int .i64 (v.getD 0),.bool v.isSome])∧Below w.heap.size w w':=by
 have hl:=h.len
 have hle:=Cel.firstN_le (Cel.notBelow key) cs
 unfold beO at hv
 by_cases hz:Cel.fN key cs=0
 ·rw [if_pos hz]at hv
  subst hv
  exact below_none key leaf r co cn cc cs w h hcn hz
 ·rw [if_neg hz]at hv
  subst hv
  have hf:Cel.fN key cs≤cs.length:=hle
  obtain ⟨b,off,rfl,hc⟩:=h.at_ (by omega)
  exact below_found key leaf r b off cn cc cs (Cel.fN key cs - 1) _ w h hcn (by omega) (by omega) rfl
end
end Tre
end Go.Proofs.YtfcikkechphmaaaGreatDoor
