/- Trees in memory, their steps, and what fault, Root, unbound, top, hold and child return; no statement of the seat is proved here. -/
import Derived.Test.YtfcikkechphmaaaGreatDoorW08
import Derived.Test.YtfcikkechphmaaaGreatDoorW43
import Derived.Deep.RegionLaw
import Derived.Deep.AppendLies
set_option maxHeartbeats 16000000
set_option maxRecDepth 20000
namespace Go.Proofs.YtfcikkechphmaaaGreatDoor
namespace Tre
open Go.RowKit Go.Maps
open Dsk (gt hid undrew keep_old keep_cell lt_cell newD)
open Cch (Fr wpAnyK wpAnyK_done wp_region_K hd_cell hd_frozen blk_set)
open Cel (C Cs Cok NB At5 ext1 below_set I64)
def TreeAt(w:World)(tb hb root:Nat):Prop:=w.heap[tb]? = some (.cells #[.pointer (some ⟨hb,0,none⟩),.int .i64 (root:Int)] 94 (0,0))
section
variable {w w':World} {tb hb root:Nat}
theorem TreeAt.lt(h:TreeAt w tb hb root):tb<w.heap.size:=(Array.getElem?_eq_some_iff.1 h).1
theorem TreeAt.cells(h:TreeAt w tb hb root):w.cell? ⟨tb,0,none⟩=some (.pointer (some ⟨hb,0,none⟩))∧w.cell? ⟨tb,1,none⟩=some (.int .i64 (root:Int)):=by
 unfold TreeAt at h;simp [World.cell?,h]
theorem TreeAt.keep(h:TreeAt w tb hb root)(b:Below w.heap.size w w'):TreeAt w' tb hb root:=(b.block tb h.lt).trans h
theorem TreeAt.rok{R:Nat→Prop}(h:TreeAt w tb hb root)(f:Rok R w w')(hR:R tb):TreeAt w' tb hb root:=(f.at_ hR h.lt).trans h
theorem TreeAt.new(w:World)(hb root:Nat):TreeAt (w.alloc (.cells #[.pointer (some ⟨hb,0,none⟩),.int .i64 (root:Int)] 94)) w.heap.size hb root:=heap_alloc_new w _
end
variable {tb hb root:Nat} {w:World}
theorem fault_yes(h:TreeAt w tb hb root):Calls Tryz.prog 57 #[.pointer (some ⟨tb,0,none⟩)] w fun e w'=>e=.returned (.int .i64 0)∧w'=w:=by
 obtain ⟨c0,c1⟩:=h.cells
 clear h
 go_enter Tryz.func57,Tryz.ntmps57
 go_wp2
 go_ret
 exact ⟨rfl,rfl⟩
def TZ(w:World)(v:Value):Prop:=v=.pointer none∨∃ b,v=.pointer (some ⟨b,0,none⟩)∧w.cell? ⟨b,0,none⟩=some (.pointer none)
variable {v:Value}
theorem TZ.keep{w':World}(h:TZ w v)(hb:Below w.heap.size w w'):TZ w' v:=by
 rcases h with h | ⟨b,h,c⟩
 ·exact Or.inl h
 ·exact Or.inr ⟨b,h,keep_old hb c⟩
theorem fault_no(h:TZ w v):Calls Tryz.prog 57 #[v] w fun e w'=>e=.returned (.int .i64 1)∧w'=w:=by
 rcases h with rfl | ⟨b,rfl,c⟩
 ·go_enter Tryz.func57,Tryz.ntmps57
  go_wp2
  go_ret
  exact ⟨rfl,rfl⟩
 ·go_enter Tryz.func57,Tryz.ntmps57
  go_wp2
  go_ret
  exact ⟨rfl,rfl⟩
theorem Root_yes(h:TreeAt w tb hb root):Calls Tryz.prog 15 #[.pointer (some ⟨tb,0,none⟩)] w fun e w'=>e=.returned (.int .i64 (root:Int))∧w'=w:=by
 have c:=hid (fault_yes h)
 obtain ⟨c0,c1⟩:=h.cells
 clear h
 go_enter Tryz.func15,Tryz.ntmps15
 go_wp2_with (go_at_call 57;refine c.out.mono ?_;rintro e w1 ⟨rfl,h1⟩;obtain rfl:=h1.symm;clear h1)
 go_ret
 exact ⟨rfl,rfl⟩
theorem Root_no(h:TZ w v):Calls Tryz.prog 15 #[v] w fun e w'=>e=.returned (.int .i64 0)∧w'=w:=by
 have c:=hid (fault_no h)
 clear h
 go_enter Tryz.func15,Tryz.ntmps15
 go_wp2_with (go_at_call 57;refine c.out.mono ?_;rintro e w1 ⟨rfl,h1⟩;obtain rfl:=h1.symm;clear h1)
 go_ret
 exact ⟨rfl,rfl⟩
structure St where
 pg:Int
 lo:Int
 hi:Int
 leaf:Bool
 r:Int
 co:Option Addr
 cn:Nat
 cc:Nat
 pl:Int
 deriving Inhabited
def SB(W:World)(q:Nat)(s:St):Prop:=W.heap[q]? = some (.cells #[.int .i64 (s).pg,.int .i64 (s).lo,.int .i64 (s).hi,.bool (s).leaf,.int .i64 (s).r,.slice (s).co (s).cn (s).cc,.int .i64 (s).pl] 140 (0,0))
section
variable {W W':World} {q:Nat} {s:St}
theorem SB.lt(h:SB W q s):q<W.heap.size:=(Array.getElem?_eq_some_iff.1 h).1
theorem SB.cells(h:SB W q s):W.cell? ⟨q,0,none⟩=some (.int .i64 s.pg)∧W.cell? ⟨q,1,none⟩=some (.int .i64 s.lo)∧W.cell? ⟨q,2,none⟩=some (.int .i64 s.hi)∧W.cell? ⟨q,3,none⟩=some (.bool s.leaf)∧W.cell? ⟨q,4,none⟩=some (.int .i64 s.r)∧W.cell? ⟨q,5,none⟩=some (.slice s.co s.cn s.cc)∧W.cell? ⟨q,6,none⟩=some (.int .i64 s.pl):=by
 unfold SB at h
 simp [World.cell?,h]
theorem SB.fz(h:SB W q s)(i:Nat):W.frozen? ⟨q,i,none⟩=false:=by unfold SB at h;simp [World.frozen?,h]
theorem SB.keep(h:SB W q s)(hb:Below W.heap.size W W'):SB W' q s:=by
 unfold SB;rw [hb.block q h.lt];exact h
theorem SB.rok{R:Nat→Prop}(h:SB W q s)(f:Rok R W W')(hR:R q):SB W' q s:=(f.at_ hR h.lt).trans h
theorem SB.new(w:World)(s:St):SB (w.alloc (.cells #[.int .i64 (s).pg,.int .i64 (s).lo,.int .i64 (s).hi,.bool (s).leaf,.int .i64 (s).r,.slice (s).co (s).cn (s).cc,.int .i64 (s).pl] 140)) w.heap.size s:=heap_alloc_new w _
end
def bare(pg lo hi:Int):St:=⟨pg,lo,hi,false,0,none,0,0,0⟩
variable {A:Array Value} {t:TypeId} {a:Tmp} {fn:Func}
theorem ret_b1(h:fn.results = #[.cell a t])(hu:(match Tryz.prog.underlying t with |some (.struct _)=>true |_=>false)=true)(hi:(Tryz.prog.info? t).map (·.size)=some A.size){tmps:Array Value}{W:World}{q:Nat}
  (hp:tmps.getD a undef=.pointer (some ⟨q,0,none⟩)) (hb:W.heap[q]? = some (.cells A t (0,0))):(results fn tmps).run Tryz.prog W=.ok (.agg A) W:=by
 cases hd:Tryz.prog.underlying t with
 | none=>rw [hd]at hu;cases hu
 | some d=>
  rw [hd]at hu
  refine results_cell_row h tmps W q t _ (0,0) d hp hb hd ?_ (by simpa using hi)
  cases d<;>simp at hu ⊢
theorem ret_b2{u:Tmp}(h:fn.results = #[.cell a t,.tmp u])(hu:(match Tryz.prog.underlying t with |some (.struct _)=>true |_=>false)=true)(hi:(Tryz.prog.info? t).map (·.size)=some A.size){tmps:Array Value}{W:World}{q:Nat}
  (hp:tmps.getD a undef=.pointer (some ⟨q,0,none⟩)) (hb:W.heap[q]? = some (.cells A t (0,0))):(results fn tmps).run Tryz.prog W=.ok (.tuple #[.agg A,tmps.getD u undef]) W:=by
 obtain ⟨fs,hu⟩:∃ fs,Tryz.prog.underlying t=some (.struct fs):=by
  cases hd:Tryz.prog.underlying t with
  | none=>rw [hd]at hu;cases hu
  | some d=>rw [hd]at hu;cases d<;>simp at hu ⊢
 have hl:=run_loadVar_row (P:=Tryz.prog) W q t t _ (0,0) _ hb hu rfl (by simpa using hi)
 rw [results_cell_tmp h,hp]
 simp [asAddr,hl]
section
variable {W:World} {q:Nat} {t:TypeId} {a0 a1 a2 a3 a4 a5 a6 v0 v1 v2 v3 v4 v5 v6:Value}
theorem box7(h:W.heap[q]? = some (.cells #[a0,a1,a2,a3,a4,a5,a6] t (0,0))):(((((((W.setCell ⟨q,0,none⟩ v0).setCell ⟨q,1,none⟩ v1).setCell ⟨q,2,none⟩ v2).setCell ⟨q,3,none⟩ v3).setCell ⟨q,4,none⟩ v4).setCell ⟨q,5,none⟩ v5).setCell ⟨q,6,none⟩ v6).heap[q]? = some (.cells #[v0,v1,v2,v3,v4,v5,v6] t (0,0)):=by
 have h0:=heap_setCell_same _ q 0 _ t v0 h
 have h1:=heap_setCell_same _ q 1 _ t v1 h0
 have h2:=heap_setCell_same _ q 2 _ t v2 h1
 have h3:=heap_setCell_same _ q 3 _ t v3 h2
 have h4:=heap_setCell_same _ q 4 _ t v4 h3
 have h5:=heap_setCell_same _ q 5 _ t v5 h4
 have h6:=heap_setCell_same _ q 6 _ t v6 h5
 rw [h6];simp
theorem below7{B:Nat}{w:World}(h:Below B w W)(hq:B≤q):Below B w (((((((W.setCell ⟨q,0,none⟩ v0).setCell ⟨q,1,none⟩ v1).setCell ⟨q,2,none⟩ v2).setCell ⟨q,3,none⟩ v3).setCell ⟨q,4,none⟩ v4).setCell ⟨q,5,none⟩ v5).setCell ⟨q,6,none⟩ v6):=below_set (below_set (below_set (below_set (below_set (below_set (below_set h hq _) hq _) hq _) hq _) hq _) hq _) hq _
theorem fr7:Fr (fun k=>k=q) W (((((((W.setCell ⟨q,0,none⟩ v0).setCell ⟨q,1,none⟩ v1).setCell ⟨q,2,none⟩ v2).setCell ⟨q,3,none⟩ v3).setCell ⟨q,4,none⟩ v4).setCell ⟨q,5,none⟩ v5).setCell ⟨q,6,none⟩ v6):=
 (((((((Fr.of_below (S:=fun k=>k=q) (Below.refl _ _)).set (Or.inl rfl) _).set (Or.inl rfl) _).set (Or.inl rfl) _).set (Or.inl rfl) _).set (Or.inl rfl) _).set (Or.inl rfl) _).set (Or.inl rfl) _
end
theorem unbound_any(w:World):Calls Tryz.prog 213 #[] w fun e w'=>e=.returned (.agg #[.int .i64 (-9223372036854775808),.int .i64 9223372036854775807])∧Below w.heap.size w w':=by
 have H:=hid (heap_alloc_new w (.cells #[.int .i64 (-9223372036854775808),.int .i64 9223372036854775807] 138))
 go_enter Tryz.func213,Tryz.ntmps213
 go_wp2
 refine bodyPost_ret (ret_b1 (a:=0) (by kernel_rfl) (by kernel_rfl) (by kernel_rfl) rfl H.out) rfl ?_
 exact ⟨rfl,ext1 _⟩
abbrev STop(tb:Nat)(root:Int)(W:World):Prop:=W.cell? ⟨tb,1,none⟩=some (.int .i64 root)
theorem top_yes(h:TreeAt w tb hb root):Calls Tryz.prog 153 #[.pointer (some ⟨tb,0,none⟩)] w fun e w'=>e=.returned (.agg #[.int .i64 (root:Int),.int .i64 (-9223372036854775808),.int .i64 9223372036854775807,.bool false,.int .i64 0,.slice none 0 0,.int .i64 0])∧Below w.heap.size w w':=by
 have c:=hid (fun W=>unbound_any W)
 obtain ⟨W0,hW0⟩:∃ W0,W0=w.alloc (.cells #[.int .i64 0,.int .i64 0,.int .i64 0,.bool false,.int .i64 0,.slice none 0 0,.int .i64 0] 140):=⟨_,rfl⟩
 have B0:Below w.heap.size w W0:=by rw [hW0];exact ext1 _
 have S0:=hid (show SB W0 w.heap.size (bare 0 0 0) by rw [hW0];exact SB.new w (bare 0 0 0))
 have BB:=hid B0
 have g1:STop tb root W0.drew:=(h.keep B0).cells.2
 clear h B0
 go_enter Tryz.func153,Tryz.ntmps153
 go_upto_region 1 with fail
 rw [←hW0]
 replace hW0:=hid hW0
 refine wp_region_K (S:=STop tb root) (fun i=>i == 6) (by kernel_rfl) (g1) (fun hHeld=>?_)
 refine gkp 0 ?_
 refine gkp 1 ?_
 refine gkp 2 ?_
 refine gkt 3 ?_ (h:=by intro W hSw;have y0:=hSw;go_simp;first |done |with_reducible rfl)
 refine gk1 4 (fun K hK=>?_)
 go_simp
 go_at_call 213;refine (c.out _).mono ?_;rintro e w1 ⟨rfl,hb1⟩;have hR:STop tb root w1:=keep_old hb1 hHeld;have B1:=hid (gt (show Below W0.heap.size W0 W0.drew from (Below.refl _ _).drew) hb1);clear hb1;obtain ⟨z0,z1,z2,z3,z4,z5,z6⟩:=(S0.out.keep B1.out).cells;have f:=(S0.out.keep B1.out).fz
 refine hK.out _ _ hR (fun hHeld=>?_)
 clear hK K
 (try simp only [Act.put,sA,sZ,sS])
 refine gkp 5 ?_
 refine gkl 6 (fun K hK=>?_)
 go_simp
 refine hK.out _ _ ?_
 clear hK K
 (try simp only [Act.put,sA,sZ,sS])
 refine wpAnyK_done (by kernel_rfl) ?_ _
 go_wp2
 refine bodyPost_ret (ret_b1 (a:=2) (by kernel_rfl) (by kernel_rfl) (by kernel_rfl) rfl (box7 (S0.out.keep B1.out))) rfl ?_
 exact ⟨rfl,below7 (gt BB.out B1.out) (Nat.le_refl _)⟩
def holdB(lo hi:Int)(leaf:Bool)(cs:List C):Bool:=if cs.length=0 then true else decide (lo≤(cs.getD 0 default).k)&&(if leaf then decide ((cs.getD (cs.length - 1) default).k≤hi) else decide ((cs.getD (cs.length - 1) default).k<hi))
abbrev SHo(q b off m cc:Nat)(f l:Int)(W:World):Prop:=W.cell? ⟨q,2,none⟩=some (.slice (some ⟨b,off,none⟩) (m+1) cc)∧W.cell? ⟨b,off,none⟩=some (.int .i64 f)∧W.cell? ⟨b,off+m*5,none⟩=some (.int .i64 l)
theorem hold_none(lo hi:Int)(leaf:Bool)(r:Int)(co:Option Addr)(cc:Nat)(w:World) :
  Calls Tryz.prog 214 #[.agg #[.int .i64 lo,.int .i64 hi],.agg #[.bool leaf,.int .i64 r,.slice co 0 cc]] w fun e w'=>e=.returned (.bool true)∧Below w.heap.size w w':=by
 go_enter Tryz.func214,Tryz.ntmps214
 go_wp2
 go_ret
 exact ⟨rfl,gt (ext1 _) (ext1 _)⟩
theorem hold_some(lo hi:Int)(leaf:Bool)(r:Int)(b off m cc:Nat)(f l:Int)(v:Bool)(w:World)(hf:w.cell? ⟨b,off,none⟩=some (.int .i64 f))(hl:w.cell? ⟨b,off+m*5,none⟩=some (.int .i64 l))(hm:m<100000)(hv:Hid (v=(decide (lo≤f)&&(if leaf then decide (l≤hi) else decide (l<hi))))) :
  Calls Tryz.prog 214 #[.agg #[.int .i64 lo,.int .i64 hi],.agg #[.bool leaf,.int .i64 r,.slice (some ⟨b,off,none⟩) (m+1) cc]] w fun e w'=>e=.returned (.bool v)∧Below w.heap.size w w':=by
 obtain ⟨W0,hW0⟩:∃ W0,W0=(w.alloc (.cells #[.int .i64 lo,.int .i64 hi] 138)).alloc (.cells #[.bool leaf,.int .i64 r,.slice (some ⟨b,off,none⟩) (m+1) cc] 111):=⟨_,rfl⟩
 have B0:Below w.heap.size w W0:=by rw [hW0];exact gt (ext1 _) (ext1 _)
 have k0:W0.cell? ⟨w.heap.size,0,none⟩=some (.int .i64 lo)∧W0.cell? ⟨w.heap.size,1,none⟩=some (.int .i64 hi):=by
  have h1:(w.alloc (.cells #[.int .i64 lo,.int .i64 hi] 138)).heap[w.heap.size]? = some (.cells #[.int .i64 lo,.int .i64 hi] 138 (0,0)):=heap_alloc_new w _
  have h2:W0.heap[w.heap.size]? = some (.cells #[.int .i64 lo,.int .i64 hi] 138 (0,0)):=by rw [hW0];exact ((ext1 _).block _ (by simp)).trans h1
  simp [World.cell?,h2]
 obtain ⟨q,hq⟩:∃ q,q=w.heap.size+1:=⟨_,rfl⟩
 have N0:NB 111 W0 q leaf r (some ⟨b,off,none⟩) (m+1) cc:=by
  have:=NB.new 111 (w.alloc (.cells #[.int .i64 lo,.int .i64 hi] 138)) leaf r (some ⟨b,off,none⟩) (m+1) cc
  rw [hW0,hq];simpa using this
 obtain ⟨n0,n1,n2⟩:=N0.cells
 have g1:SHo q b off m cc f l W0.drew:=⟨n2,keep_old B0 hf,keep_old B0 hl⟩
 have hw1:IntKind.i64.wrap ((m:Nat):Int)=((m:Nat):Int):=by rw [IntKind.wrap_i64];omega
 have hm1:(((m+1:Nat):Int) - 1)=((m:Nat):Int):=by omega
 have hml:(m:Int)<(m:Int)+1:=by omega
 have BB:=hid B0
 obtain ⟨k0,k1⟩:=k0
 clear hf hl N0 B0
 cases leaf
 all_goals
  by_cases c1:lo≤f
  all_goals
   go_enter Tryz.func214,Tryz.ntmps214
   go_upto_region 3 with fail
   rw [←hW0,←hq]
   replace hW0:=hid hW0;replace hq:=hid hq
   refine wp_region_K (S:=SHo q b off m cc f l) (fun _=>false) (by kernel_rfl) (g1) (fun hHeld=>?_)
   refine gkp 0 ?_
   refine gkt 1 ?_ (h:=by intro W hSw;obtain ⟨y0,y1,y2⟩:=hSw;go_simp;first |done |with_reducible rfl)
   refine gkp 2 ?_
   refine gkp 3 ?_
   refine gkt 4 ?_ (h:=by intro W hSw;obtain ⟨y0,y1,y2⟩:=hSw;go_simp;first |done |with_reducible rfl)
   refine gkp 5 ?_
   refine gkt 6 ?_ (h:=by intro W hSw;obtain ⟨y0,y1,y2⟩:=hSw;go_simp;first |done |with_reducible rfl)
   refine gkp 7 ?_
   refine gkt 8 ?_ (h:=by intro W hSw;obtain ⟨y0,y1,y2⟩:=hSw;go_simp;first |done |with_reducible rfl)
   refine gkp 9 ?_
   refine gkp 10 ?_
   refine gkp 11 ?_
   refine gkp 12 ?_
   refine gkt 13 ?_ (h:=by intro W hSw;obtain ⟨y0,y1,y2⟩:=hSw;go_simp;first |done |with_reducible rfl)
   refine gkp 14 ?_
   refine gkp 15 ?_
   refine wpAnyK_done (by kernel_rfl) ?_ _
   go_wp2
   go_ret
   refine ⟨?_,BB.out.drew⟩
   have:=hv.out
   simp only [if_true,Bool.false_eq_true,if_false]at this
   first
    | (rw [this,decide_eq_true (show lo≤f by omega)];rfl)
    | (rw [this,decide_eq_false (show ¬lo≤f by omega)];rfl)
theorem hold_any(lo hi:Int)(leaf:Bool)(r:Int)(co:Option Addr)(cn cc:Nat)(cs:List C)(w:World)(h:Cs w co cn cc cs)(hcn:cn≤100000) :
  Calls Tryz.prog 214 #[.agg #[.int .i64 lo,.int .i64 hi],.agg #[.bool leaf,.int .i64 r,.slice co cn cc]] w fun e w'=>e=.returned (.bool (holdB lo hi leaf cs))∧Below w.heap.size w w':=by
 have hl:=h.len
 cases cn with
 | zero=>rw [show holdB lo hi leaf cs=true by unfold holdB;rw [if_pos hl]];exact hold_none lo hi leaf r co cc w
 | succ m=>
  obtain ⟨b,off,rfl,hc⟩:=h.at_ (by omega)
  have h0:=(hc 0 (by omega)).1
  rw [show off+0*5=off by omega]at h0
  refine hold_some lo hi leaf r b off m cc _ _ _ w h0 (hc m (by omega)).1 (by omega) (hid ?_)
  unfold holdB
  rw [if_neg (by omega),hl,Nat.add_sub_cancel]
end Tre
namespace Tre
open Go.RowKit Go.Maps
open Dsk (gt hid undrew keep_old keep_cell lt_cell newD)
open Jrn (Row5)
open Cch (Fr wpAnyK wpAnyK_done wp_region_K hd_cell hd_frozen blk_set)
open Cel (C Cs Cok NB At5 ext1 below_set I64 nrm hasN pageN)
open Spl (Same AllB)
structure Pn (S:Nat→Prop) (W:World) (co:Option Addr) (cn cc:Nat) (cs:List C):Prop where
 own:W.ownsRow 0 144 5 (.slice co cn cc) cn (Cel.cv cs)
 ck:∀ a∈cs,Cok W a
 len:cs.length=cn
 cb:∀ b o,co=some ⟨b,o,none⟩→S b
 kb:∀ a∈cs,0<a.n→∀ b o,a.o=some ⟨b,o,none⟩→S b
 t5:∀ a∈cs,0<a.n→∀ b o,a.o=some ⟨b,o,none⟩→Cel.T5 W b
section
variable {S S':Nat→Prop} {W W':World} {co:Option Addr} {cn cc:Nat} {l:List C}
theorem Pn.cs(h:Pn S W co cn cc l):Cs W co cn cc l:=Cel.cs_own (B:=0) (t:=144) h.len h.own h.ck
theorem Pn.more(h:Pn S W co cn cc l)(hS:∀ b,S b→S' b):Pn S' W co cn cc l:=⟨h.own,h.ck,h.len,fun b o e=>hS _ (h.cb b o e),fun a ha hn b o e=>hS _ (h.kb a ha hn b o e),h.t5⟩
theorem Pn.same(h:Pn S W co cn cc l)(hf:∀ k,S k→k<W.heap.size→W'.heap[k]? = W.heap[k]?):Pn S W' co cn cc l:=by
 refine ⟨⟨h.own.1,?_⟩,fun a ha=>?_,h.len,h.cb,h.kb,fun a ha hn b o e=>?_⟩
 ·rcases h.own.2 with h1 | ⟨g,cap,cur,e,hb,hgg,h2⟩
  ·exact Or.inl h1
  ·exact Or.inr ⟨g,cap,cur,e,hb,by rw [hf g (h.cb g 0 (by simp only [Value.slice.injEq]at e;exact e.1)) ((Array.getElem?_eq_some_iff.1 hgg).1)];exact hgg,h2⟩
 ·have k:=h.ck a ha
  exact { k with rd:=k.rd.same (fun hp b o e hl=>hf b (h.kb a ha hp b o e) hl) }
 ·obtain ⟨D,m,hx⟩:=h.t5 a ha hn b o e
  exact ⟨D,m,by rw [hf b (h.kb a ha hn b o e) (Array.getElem?_eq_some_iff.1 hx).1];exact hx⟩
theorem Pn.keep(h:Pn S W co cn cc l)(hb:Below W.heap.size W W'):Pn S W' co cn cc l:=h.same (fun k _ hk=>hb.block k hk)
theorem Pn.of5{B:Nat}(h:Cel.Pn5 B W co cn cc l):Pn (fun k=>B≤k∧k<W.heap.size) W co cn cc l:=by
 refine ⟨Cel.own_low h.own (Nat.zero_le _),fun a ha=>(h.ck a ha).ok,h.len,fun b o e=>?_,fun a ha hn b o e=>⟨(h.ck a ha).nw hn b o e,?_⟩,fun a ha hn b o e=>(h.ck a ha).t5 hn b o e⟩
 ·rcases h.own.2 with h1 | ⟨g,cap,cur,e',hb,hgg,h2⟩
  ·simp only [Value.slice.injEq]at h1;rw [h1.1.1]at e;cases e
  ·simp only [Value.slice.injEq]at e';rw [e'.1]at e;cases e;exact ⟨hb,(Array.getElem?_eq_some_iff.1 hgg).1⟩
 ·obtain ⟨C,m,hx⟩:=(h.ck a ha).t5 hn b o e
  exact (Array.getElem?_eq_some_iff.1 hx).1
end
section
variable {arm:Prop} {room croom K:Nat} {p q:Nat} {R:Nat→Prop} {t:RS} {w:World} {hb tb root:Nat} {tr:List (Nat×List Nat)} {ws:List Nat}
variable {R':Nat→Prop} {K':Nat} {w':World}
theorem _root_.Go.Proofs.YtfcikkechphmaaaGreatDoor.HeapS.mv(h:HeapS arm room croom K w hb p q R t tr ws)(hP:PrgAt arm room croom K' w' p q R' t)(hH:HeapAt w' hb p)(hm:R' hb):HeapS arm room croom K' w' hb p q R' t tr ws:=⟨hP,hH,hm,h.lay,h.busy,h.sur⟩
theorem _root_.Go.Proofs.YtfcikkechphmaaaGreatDoor.HeapS.keep(h:HeapS arm room croom K w hb p q R t tr ws)(b:Below w.heap.size w w'):HeapS arm room croom K w' hb p q R t tr ws:=h.mv (h.prg.keep b) (h.heap.keep b) h.mem
theorem _root_.Go.Proofs.YtfcikkechphmaaaGreatDoor.HeapS.up(h:HeapS arm room croom K w hb p q R t tr ws)(b:K≤K'):HeapS arm room croom K' w hb p q R t tr ws:=h.mv (h.prg.up b) h.heap h.mem
theorem _root_.Go.Proofs.YtfcikkechphmaaaGreatDoor.HeapS.less(h:HeapS arm room croom K w hb p q R t tr ws)(hR:∀ b,R' b→R b)(hm:R' hb):HeapS arm room croom K w hb p q R' t tr ws:=h.mv (h.prg.less hR) h.heap hm
theorem _root_.Go.Proofs.YtfcikkechphmaaaGreatDoor.HeapS.news(h:HeapS arm room croom K w hb p q R t tr ws)(b:Below w.heap.size w w'):HeapS arm room croom K w' hb p q (NewR R w w') t tr ws:=h.mv (h.prg.more b (fun _ h=>h)) (h.heap.keep b) (Or.inl h.mem)
abbrev SWr(tb hb q:Nat)(leaf:Bool)(r:Int)(co:Option Addr)(cn cc:Nat)(W:World):Prop:=W.cell? ⟨tb,0,none⟩=some (.pointer (some ⟨hb,0,none⟩))∧W.cell? ⟨q,0,none⟩=some (.bool leaf)∧W.cell? ⟨q,1,none⟩=some (.int .i64 r)∧W.cell? ⟨q,2,none⟩=some (.slice co cn cc)
theorem write_yes{n:Nat}{leaf:Bool}{r:Int}{co:Option Addr}{cn cc:Nat}{cs:List C}(h:HeapS arm room croom K w hb p q R t tr ws)(hT:TreeAt w tb hb root)(hm:R tb)(hC:Cs w co cn cc cs)(hf:Cel.Few cs)(hy:hasN leaf r cs=true)(h1:2≤n)(h2:n≤t.now.length)(hnf:n∉flat tr)(hKb:K≤500000) :
  Calls Tryz.prog 56 #[.pointer (some ⟨tb,0,none⟩),.int .i64 (n:Int),.agg #[.bool leaf,.int .i64 r,.slice co cn cc]] w fun e w'=>e=.returned (.int .i64 0)∧HeapS arm room croom (K+1) w' hb p q R (t.put (n - 1) (pageN leaf r cs)) tr ws∧Same [n] t.now (t.put (n - 1) (pageN leaf r cs)).now∧(AllB t.now→AllB (t.put (n - 1) (pageN leaf r cs)).now)∧(t.put (n - 1) (pageN leaf r cs)).now.getD (n - 1) []=pageN leaf r cs∧Rok R w w':=by
 obtain ⟨W0,hW0⟩:∃ W0,W0=(w.alloc (.cells #[.bool leaf,.int .i64 r,.slice co cn cc] 111)).drew:=⟨_,rfl⟩
 have B0:Below w.heap.size w W0:=by rw [hW0];exact (ext1 _).drew
 have N0:NB 111 W0 w.heap.size leaf r co cn cc:=by rw [hW0];exact NB.new 111 w leaf r co cn cc
 have H0:=hid (h.mv (h.prg.new B0 (Nat.le_refl _) N0.lt) (h.heap.keep B0) (Or.inl h.mem))
 have T0:=hid (hT.keep B0)
 have C0:=hid (hC.keep B0)
 have hpb:=hid (Cel.pageN_by8 (W:=w) leaf r cs hC.ok)
 have cb:=hid (Cel.bytes_yes leaf r co cn cc cs W0 C0.out hf hy)
 have cp:=hid (Spl.Pager_yes H0.out.heap)
 have HH:=hid h;have HM:=hid hm;have H1:=hid h1;have H2:=hid h2;have HF:=hid hnf
 have BB:=hid B0
 have NN:=hid N0
 have g1:SWr tb hb w.heap.size leaf r co cn cc W0:=⟨T0.out.cells.1,N0.cells⟩
 clear h hT hm hC h1 h2 hnf B0 N0 hf hy
 generalize pageN leaf r cs=X at *
 go_enter Tryz.func56,Tryz.ntmps56
 go_upto_region 1 with fail
 obtain ⟨q0,hq0⟩:∃ q0,q0=w.heap.size:=⟨_,rfl⟩
 rw [←hq0]at H0 g1 NN ⊢
 replace hq0:=hid hq0
 refine wp_region_K (S:=SWr tb hb q0 leaf r co cn cc) (fun _=>false) (by kernel_rfl) (by rw [←hW0];exact g1) (fun hHeld=>?_)
 refine gkp 0 ?_
 refine gkp 1 ?_
 refine gkp 2 ?_
 refine gkt 3 ?_ (h:=by intro W hSw;obtain ⟨y0,y1,y2,y3⟩:=hSw;go_simp;first |done |with_reducible rfl)
 refine gkp 5 ?_
 refine gkt 6 ?_ (h:=by intro W hSw;obtain ⟨y0,y1,y2,y3⟩:=hSw;go_simp;first |done |with_reducible rfl)
 refine gk1 4 (fun K hK=>?_)
 go_simp
 rw [←hW0];replace hW0:=hid hW0;go_at_call 19;refine cp.out.mono ?_;rintro e w1 ⟨rfl,h1⟩;obtain rfl:=h1.symm;clear h1;have hR:=g1
 refine hK.out _ _ hR (fun hHeld=>?_)
 clear hK K
 (try simp only [Act.put,sA,sZ,sS])
 refine gk1 7 (fun K hK=>?_)
 go_simp
 go_at_call 114;refine cb.out.mono ?_;rintro e w2 ⟨g,rfl,hg,hr,hb2⟩;have RD:=hid hr;have B2:=hid hb2;have hR:SWr tb hb q0 leaf r co cn cc w2:=(⟨keep_old hb2 hHeld.1,keep_old hb2 hHeld.2.1,keep_old hb2 hHeld.2.2.1,keep_old hb2 hHeld.2.2.2⟩);clear hr hb2 hg
 refine hK.out _ _ hR (fun hHeld=>?_)
 clear hK K
 (try simp only [Act.put,sA,sZ,sS])
 refine gk1 8 (fun K hK=>?_)
 go_simp
 go_at_call 113;refine (Spl.put_page (H0.out.keep B2.out) H1.out H2.out HF.out hKb RD.out hpb.out).mono ?_;rintro e w3 ⟨rfl,hs3,hsm,hal,hgd,hk3⟩;have HS3:=hid hs3;have E3:=hid (And.intro hsm (And.intro hal hgd));have K3:=hid hk3;have hR:SWr tb hb q0 leaf r co cn cc w3:=(⟨((T0.out.keep B2.out).rok hk3 (Or.inl HM.out)).cells.1,(show NB 111 w3 q0 leaf r co cn cc from (hk3.at_ (Or.inr rfl) (NN.out.keep B2.out).lt).trans (NN.out.keep B2.out)).cells⟩);clear hs3 hsm hal hgd hk3
 refine hK.out _ _ hR (fun hHeld=>?_)
 clear hK K
 (try simp only [Act.put,sA,sZ,sS])
 refine gkp 9 ?_
 refine wpAnyK_done (by kernel_rfl) ?_ _
 go_wp2
 go_ret
 refine ⟨rfl,HS3.out.less (fun b h=>Or.inl h) HH.out.mem,E3.out.1,E3.out.2.1,E3.out.2.2,Rok.after (gt BB.out B2.out) K3.out (fun b h=>Or.inl h)⟩
end
end Tre
namespace Tre
open Go.RowKit Go.Maps
open Dsk (gt hid undrew keep_old keep_cell lt_cell newD)
open Jrn (Row5)
open Cch (Fr wpAnyK wpAnyK_done wp_region_K hd_cell hd_frozen blk_set)
open Cel (C Cs Cok NB At5 ext1 below_set I64 nrm hasN pageN)
open Spl (Same AllB)
structure NodeAt (P:List Pg) (n:Nat) (leaf:Bool) (r:Int) (cs:List C):Prop where
 lo:2≤n
 hi:n≤P.length
 pg:P.getD (n - 1) []=pageN leaf r cs
 has:hasN leaf r cs=true
 key:∀ a∈cs,I64 a.k
theorem fr3{W:World}{q:Nat}{v0 v1 v2:Value}:Fr (fun k=>k=q) W (((W.setCell ⟨q,0,none⟩ v0).setCell ⟨q,1,none⟩ v1).setCell ⟨q,2,none⟩ v2):=(((Fr.of_below (S:=fun k=>k=q) (Below.refl _ _)).set (Or.inl rfl) _).set (Or.inl rfl) _).set (Or.inl rfl) _
def Or2(R S:Nat→Prop):Nat→Prop:=fun b=>R b∨S b
section
variable {arm:Prop} {room croom K:Nat} {p q:Nat} {R:Nat→Prop} {t:RS} {w:World} {hb tb root:Nat} {tr:List (Nat×List Nat)} {ws:List Nat}
theorem read_yes{n:Nat}{leaf:Bool}{r:Int}{cs0:List C}(h:HeapS arm room croom K w hb p q R t tr ws)(hA:AllB t.now)(hT:TreeAt w tb hb root)(hm:R tb)(hN:NodeAt t.now n leaf r cs0)(hKb:K≤500000) :
  Calls Tryz.prog 62 #[.pointer (some ⟨tb,0,none⟩),.int .i64 (n:Int)] w fun e w'=>∃ co cn cc cs S,e=.returned (.tuple #[.agg #[.bool leaf,.int .i64 r,.slice co cn cc],.int .i64 0])∧Pn S w' co cn cc cs∧cs.map nrm=cs0.map nrm∧(∀ b,S b→w.heap.size≤b)∧HeapS arm room croom (K+1) w' hb p q (Or2 R S) t tr ws∧Rok R w w':=by
 obtain ⟨W0,hW0⟩:∃ W0,W0=w.alloc (.cells #[.bool false,.int .i64 0,.slice none 0 0] 111):=⟨_,rfl⟩
 have B0:Below w.heap.size w W0:=by rw [hW0];exact ext1 _
 obtain ⟨q0,hq0⟩:∃ q0,q0=w.heap.size:=⟨_,rfl⟩
 have N0:NB 111 W0 q0 false 0 none 0 0:=by rw [hW0,hq0];exact NB.new 111 w false 0 none 0 0
 have H0:=hid (h.mv (h.prg.new B0 (Nat.le_of_eq hq0.symm) N0.lt) (h.heap.keep B0) (Or.inl h.mem))
 have HH:=hid h;have HM:=hid hm
 have BB:=hid B0;have NN:=hid N0
 obtain ⟨c0,c1⟩:=(hT.keep B0).cells
 have hn1:=hN.lo;have hn2:=hN.hi
 have gl:¬(n:Int)≤1:=by omega
 have gh:¬(t.now.length:Int)<(n:Int):=by omega
 obtain ⟨hb1,hb2,hb3⟩:=Cel.page_back leaf r cs0 hN.key hN.has
 have hip:=Cel.page_isP leaf r cs0 hN.key hN.has
 have cp:=hid (Spl.Pager_yes H0.out.heap)
 have cg:=hid (Spl.get_page H0.out (by omega) hn2 (by omega))
 have hpb:t.pages=t.now:=RS.pages_busy h.busy
 have hx:=hA (n - 1)
 rw [hN.pg]at cg hx
 generalize pageN leaf r cs0=X at *
 have hpa:Hid (∀ W ao cap,Cel.Rd W ao 512 cap X→Calls Tryz.prog 116 #[.slice ao 512 cap] W fun e w'=>∃ co cn cc cs,e=.returned (.tuple #[.agg #[.bool leaf,.int .i64 r,.slice co cn cc],.int .i64 0])∧Cel.Pn5 W.heap.size w' co cn cc cs∧cs.map nrm=cs0.map nrm∧Below W.heap.size W w'):=hid (fun W ao cap hr=>by
  have:=Cel.parse_yes ao 512 cap X W hr hx (by simp [Cel.okP,hip])
  rw [hb1,hb2,hb3]at this
  exact this)
 have hpg:Hid (∀ W R',PrgAt arm room croom (K+1) W p q R' t→Calls Tryz.prog 20 #[.pointer (some ⟨p,0,none⟩)] W fun e w'=>e=.returned (.int .i64 (t.now.length:Int))∧Below W.heap.size W w'):=hid (fun W R' hP=>by
  have:=prg_pages hP
  rw [hpb]at this;exact this)
 clear h hA hT hm hN B0 N0 hb1 hb2 hb3 hip hpb hx hn1 hn2
 go_enter Tryz.func62,Tryz.ntmps62
 go_upto_region 1 with fail
 rw [←hW0,←hq0]
 replace hW0:=hid hW0;replace hq0:=hid hq0
 go_wp2_with (first
  | (go_at_call 19;refine cp.out.mono ?_;rintro e w1 ⟨rfl,h1⟩;obtain rfl:=h1.symm;clear h1)
  | (go_at_call 115;refine cg.out.mono ?_;rintro e w1 ⟨g,cap,rfl,hr,hg,hs,hk⟩;have RW:=hid hr;have H1:=hid hs;have K1:=hid hk;have N1:=hid (show NB 111 w1 q0 false 0 none 0 0 from (hk.at_ (Or.inr rfl) NN.out.lt).trans NN.out);clear hr hg hs hk)
  | (go_at_call 20;refine (hpg.out _ _ H1.out.prg).mono ?_;rintro e w2 ⟨rfl,hb2⟩;have B2:=hid hb2;clear hb2)
  | (go_at_call 116;refine (hpa.out w2 _ cap (show Cel.Rd w2 _ 512 cap X from Cel.Rd.keep (show Cel.Rd w1 _ 512 cap X from RW.out.rd) B2.out)).mono ?_;rintro e w3 ⟨co,cn,cc,cs,rfl,hP,hE,hb3⟩;have P3:=hid hP;have E3:=hid hE;have B3:=hid hb3;have N3:=hid ((N1.out.keep B2.out).keep hb3);obtain ⟨u0,u1,u2⟩:=N3.out.cells;have f0:=N3.out.fz 0;have f1:=N3.out.fz 1;have f2:=N3.out.fz 2;clear hP hE hb3))
 refine bodyPost_ret (ret_b2 (a:=4) (u:=5) (by kernel_rfl) (by kernel_rfl) (by kernel_rfl) rfl (N3.out.set3 leaf r co cn cc)) rfl ?_
 obtain ⟨W4,hW4⟩:∃ W4,W4=((w3.setCell ⟨q0,0,none⟩ (.bool leaf)).setCell ⟨q0,1,none⟩ (.int .i64 r)).setCell ⟨q0,2,none⟩ (.slice co cn cc):=⟨_,rfl⟩
 have F4:Fr (fun k=>k=q0) w3 W4:=by rw [hW4];exact fr3
 rw [←hW4]
 have hq:=hq0.out
 have hle:q0<w2.heap.size:=Nat.lt_of_lt_of_le N1.out.lt B2.out.size
 have R3:=((H1.out.keep B2.out).news B3.out)
 have M3:∀ b,b=q0→NewR (Plus (Plus R q0) g) w2 w3 b:=fun b e=>Or.inl (Or.inl (Or.inr e))
 have F5:Fr (NewR (Plus (Plus R q0) g) w2 w3) w3 W4:=fr_imp F4 M3
 have hne:hb≠q0:=by have:=HH.out.heap.lt;omega
 refine ⟨co,cn,cc,cs,fun k=>w2.heap.size≤k∧k<w3.heap.size,rfl,(Pn.of5 P3.out).same (fun k hk hl=>F4.blk k hl (by omega)),E3.out,fun b hb=>?_,?_,?_⟩
 ·have h1:=BB.out.size;have h2:=K1.out.size;have h3:=B2.out.size;omega
 ·refine (R3.mv (R3.prg.mine F5) (R3.heap.fr F4 hne) R3.mem).less (fun b hb=>?_) (Or.inl HH.out.mem)
  rcases hb with hb |hb
  ·exact Or.inl (Or.inl (Or.inl hb))
  ·exact Or.inr hb
 ·exact ((Rok.after BB.out K1.out (fun b h=>Or.inl h)).below (gt B2.out B3.out)).mine F4 (fun b e=>by omega)
end
end Tre
namespace Tre
open Go.RowKit Go.Maps
open Dsk (gt hid undrew keep_old keep_cell lt_cell newD)
open Jrn (Row5)
open Cch (Fr wpAnyK wpAnyK_done wp_region_K hd_cell hd_frozen blk_set)
open Cel (C Cs Cok NB At5 ext1 below_set I64 nrm hasN pageN)
open Spl (Same AllB)
section
variable {arm:Prop} {room croom K:Nat} {p q:Nat} {R:Nat→Prop} {t:RS} {w:World} {hb tb root:Nat} {tr:List (Nat×List Nat)} {ws:List Nat}
end
end Tre
namespace Tre
open Go.RowKit Go.Maps
open Dsk (gt hid undrew keep_old keep_cell lt_cell newD)
open Jrn (Row5)
open Cch (Fr wpAnyK wpAnyK_done wp_region_K hd_cell hd_frozen blk_set)
open Cel (C Cs Cok NB At5 ext1 below_set I64 nrm hasN pageN)
open Spl (Same AllB)
section
variable {arm:Prop} {room croom K:Nat} {p q:Nat} {R:Nat→Prop} {t:RS} {w:World} {hb tb root:Nat} {tr:List (Nat×List Nat)} {ws:List Nat}
variable {leaf:Bool} {lo hi:Int}
theorem holdB_nrm{cs cs':List C}(h:cs.map nrm=cs'.map nrm):holdB lo hi leaf cs=holdB lo hi leaf cs':=by
 have hl:cs.length=cs'.length:=by simpa using congrArg List.length h
 have hk:∀ i,(cs.getD i default).k=(cs'.getD i default).k:=fun i=>by
  have h1:=congrArg (fun l=>(l[i]?).map C.k) h
  simp only [List.getElem?_map,Option.map_map]at h1
  rw [List.getD,List.getD]
  cases ha:cs[i]?<;>cases hb:cs'[i]?<;>simp_all [Function.comp,nrm]
 unfold holdB
 rw [hl,hk,hk]
variable {cn:Nat} {cs0:List C} {r:Int}
theorem node_few{m:Nat}(h:hasN leaf r cs0=true)(hl:m=cs0.length)(hn:m=cn):cn≤100000:=by
 have h1:=Cel.len_le leaf cs0
 unfold hasN Cel.sizeN at h
 simp at h
 omega
def Entered(arm:Prop)(room croom K:Nat)(hb p q:Nat)(R:Nat→Prop)(t:RS)(tr:List (Nat×List Nat))(ws:List Nat)(n:Nat)(lo hi:Int)(leaf:Bool)(r:Int)(cs0:List C)(w:World)(e:Ending)(w':World):Prop:=
 ∃ co cn cc cs S,e=.returned (.tuple #[.agg #[.int .i64 (n:Int),.int .i64 lo,.int .i64 hi,.bool leaf,.int .i64 r,.slice co cn cc,.int .i64 0],.int .i64 0])∧Pn S w' co cn cc cs∧cs.map nrm=cs0.map nrm∧(∀ b,S b→w.heap.size≤b)∧HeapS arm room croom K w' hb p q (Or2 R S) t tr ws∧Rok R w w'
abbrev SEn(q6 q3 tb:Nat)(leaf:Bool)(co:Option Addr)(cn cc:Nat)(n root:Nat)(W:World):Prop:=W.cell? ⟨q6,2,none⟩=some (.slice co cn cc)∧W.cell? ⟨q6,0,none⟩=some (.bool leaf)∧W.cell? ⟨q3,0,none⟩=some (.int .i64 (n:Int))∧W.cell? ⟨tb,1,none⟩=some (.int .i64 (root:Int))
variable {n:Nat}
theorem sb_node{W:World}{q:Nat}{co:Option Addr}{cc:Nat}(h:SB W q (bare n lo hi)):SB (((W.setCell ⟨q,3,none⟩ (.bool leaf)).setCell ⟨q,4,none⟩ (.int .i64 r)).setCell ⟨q,5,none⟩ (.slice co cn cc)) q ⟨n,lo,hi,leaf,r,co,cn,cc,0⟩:=by
 have h0:=heap_setCell_same _ q 3 _ 140 (.bool leaf) h
 have h1:=heap_setCell_same _ q 4 _ 140 (.int .i64 r) h0
 have h2:=heap_setCell_same _ q 5 _ 140 (.slice co cn cc) h1
 unfold SB
 rw [h2];simp [bare]
theorem enter_some(h:HeapS arm room croom K w hb p q R t tr ws)(hA:AllB t.now)(hT:TreeAt w tb hb root)(hm:R tb)(hN:NodeAt t.now n leaf r cs0)(hKb:K≤500000)(hho:holdB lo hi leaf cs0=true)(hns:0<cs0.length) :
  Calls Tryz.prog 154 #[.pointer (some ⟨tb,0,none⟩),.agg #[.int .i64 (n:Int),.int .i64 lo,.int .i64 hi,.bool false,.int .i64 0,.slice none 0 0,.int .i64 0]] w (Entered arm room croom (K+1) hb p q R t tr ws n lo hi leaf r cs0 w):=by
 obtain ⟨W0,hW0⟩:∃ W0,W0=(w.alloc (.cells #[.int .i64 (n:Int),.int .i64 lo,.int .i64 hi,.bool false,.int .i64 0,.slice none 0 0,.int .i64 0] 140)).alloc (.cells #[.int .i64 0,.int .i64 0,.int .i64 0,.bool false,.int .i64 0,.slice none 0 0,.int .i64 0] 140):=⟨_,rfl⟩
 have B0:Below w.heap.size w W0:=by rw [hW0];exact gt (ext1 _) (ext1 _)
 have hs0:W0.heap.size=w.heap.size+1+1:=by rw [hW0];simp
 have s3:SB W0 w.heap.size (bare n lo hi):=by rw [hW0];exact (SB.new w (bare n lo hi)).keep (ext1 _)
 have s4:SB W0 (w.heap.size+1) (bare 0 0 0):=by
  have:=SB.new (w.alloc (.cells #[.int .i64 (n:Int),.int .i64 lo,.int .i64 hi,.bool false,.int .i64 0,.slice none 0 0,.int .i64 0] 140)) (bare 0 0 0)
  simp only [World.size_alloc]at this
  rw [hW0];exact this
 obtain ⟨q4,hq4⟩:∃ q4,q4=w.heap.size+1:=⟨_,rfl⟩
 obtain ⟨q3,hq3⟩:∃ q3,q3=w.heap.size:=⟨_,rfl⟩
 rw [←hq4]at s4;rw [←hq3]at s3
 have H0:=hid (h.news B0)
 have m3:Hid (NewR R w W0 q3):=hid (Or.inr ⟨by omega,s3.lt⟩)
 have m4:Hid (NewR R w W0 q4):=hid (Or.inr ⟨by omega,s4.lt⟩)
 have T0:=hid (hT.keep B0)
 have HM:Hid (NewR R w W0 tb):=hid (Or.inl hm)
 have S3:=hid s3;have S4:=hid s4;have HH:=hid h;have BB:=hid B0
 have cr:=hid (read_yes H0.out hA T0.out HM.out hN hKb)
 have hlt:=hid (show hb<w.heap.size∧tb<w.heap.size from ⟨h.heap.lt,hT.lt⟩)
 have HNE:=hid hN
 have HHO:=hid hho
 obtain ⟨x0,x1,x2,x3,x4,x5,x6⟩:=s3.cells
 simp only [bare]at x0 x1 x2 x3 x4 x5 x6
 replace hns:=hid hns
 clear h hA hT hm B0 s3 s4 hho hN
 go_enter Tryz.func154,Tryz.ntmps154
 go_upto_region 1 with fail
 rw [←hW0,←hq4,←hq3]
 replace hW0:=hid hW0;replace hq3:=hid hq3;replace hq4:=hid hq4;replace hs0:=hid hs0
 go_upto_region 4 with (go_at_call 62;refine cr.out.mono ?_;rintro e w1 ⟨co,cn,cc,cs,S,rfl,hP,hE,hS,hs,hk⟩;have P1:=hid hP;have E1:=hid hE;have N1:=hid hS;have H1:=hid hs;have K1:=hid hk;have S31:=hid (S3.out.rok hk m3.out);have S41:=hid (S4.out.rok hk m4.out);have T1:=hid (T0.out.rok hk HM.out);clear hP hE hS hs hk x0 x1 x2 x3 x4 x5 x6)
 obtain ⟨q6,hq6⟩:∃ q6,q6=w1.heap.size:=⟨_,rfl⟩
 obtain ⟨W2,hW2⟩:∃ W2,W2=w1.alloc (.cells #[.bool leaf,.int .i64 r,.slice co cn cc] 111):=⟨_,rfl⟩
 have B2:=hid (show Below w1.heap.size w1 W2 by rw [hW2];exact ext1 _)
 have N2:=hid (show NB 111 W2 q6 leaf r co cn cc by rw [hW2,hq6];exact NB.new 111 w1 leaf r co cn cc)
 rw [←hW2,←hq6]
 replace hW2:=hid hW2;replace hq6:=hid hq6
 have hlen:cs.length=cs0.length:=by simpa using congrArg List.length E1.out
 have hcl:=P1.out.len
 have g1:SEn q6 q3 tb leaf co cn cc n root W2.drew:=⟨(N2.out.keep (Below.refl _ _).drew).cells.2.2,(N2.out.keep (Below.refl _ _).drew).cells.1,(S31.out.keep B2.out.drew).cells.1,(T1.out.keep B2.out.drew).cells.2⟩
 have ch:=hid (hold_any lo hi leaf r co cn cc cs W2.drew (P1.out.cs.keep B2.out.drew) (node_few HNE.out.has hlen hcl))
 rw [show holdB lo hi leaf cs=true from (holdB_nrm E1.out).trans HHO.out]at ch
 have hne:((cn:Int) == 0)=false:=by have:=hns.out;simp;omega
 refine wp_region_K (S:=SEn q6 q3 tb leaf co cn cc n root) (fun _=>false) (by kernel_rfl) (g1) (fun hHeld=>?_)
 refine gkp 0 ?_
 refine gkt 1 ?_ (h:=by intro W hSw;obtain ⟨y0,y1,y2,y3⟩:=hSw;go_simp;first |done |with_reducible rfl)
 refine gkp 2 ?_
 refine gkp 3 ?_
 refine gkp 4 ?_
 refine gku 5 ?_
 refine gku 6 ?_
 refine gku 7 ?_
 refine gku 8 ?_
 refine gku 9 ?_
 refine gku 10 ?_
 refine gku 11 ?_
 refine gku 12 ?_
 refine gku 13 ?_
 refine gku 14 ?_
 refine gku 15 ?_
 refine gku 16 ?_
 refine gkp 17 ?_
 refine gkp 18 ?_
 refine wpAnyK_done (by kernel_rfl) ?_ _
 have S32:=hid (S31.out.keep B2.out.drew);have S42:=hid (S41.out.keep B2.out.drew)
 obtain ⟨x0,x1,x2,x3,x4,x5,x6⟩:=S32.out.cells
 simp only [bare]at x0 x1 x2 x3 x4 x5 x6
 obtain ⟨n0,n1,n2⟩:=(N2.out.keep (Below.refl _ _).drew).cells
 go_upto_region 7 with (go_at_call 214;refine ch.out.mono ?_;rintro e w3 ⟨rfl,hb3⟩;have B3:=hid hb3;have N3:=hid ((N2.out.keep (Below.refl _ _).drew).keep hb3);have S33:=hid (S32.out.keep hb3);have S43:=hid (S42.out.keep hb3);clear hb3 x0 x1 x2 x3 x4 x5 x6 n0 n1 n2)
 obtain ⟨n0,n1,n2⟩:=N3.out.cells
 obtain ⟨x0,x1,x2,x3,x4,x5,x6⟩:=S33.out.cells
 simp only [bare]at x0 x1 x2 x3 x4 x5 x6
 have fx:=S33.out.fz
 have fx3:=fx 3;have fx4:=fx 4;have fx5:=fx 5
 clear fx
 go_upto_region 8 with fail
 obtain ⟨w4,hw4⟩:∃ w4,w4=((w3.setCell ⟨q3,3,none⟩ (.bool leaf)).setCell ⟨q3,4,none⟩ (.int .i64 r)).setCell ⟨q3,5,none⟩ (.slice co cn cc):=⟨_,rfl⟩
 rw [←hw4]
 have F4:=hid (show Fr (fun k=>k=q3) w3 w4 by rw [hw4];exact (((Fr.of_below (S:=fun k=>k=q3) (Below.refl _ _)).set (Or.inl rfl) _).set (Or.inl rfl) _).set (Or.inl rfl) _)
 have n43:=hid (show q4≠q3 by have h1:=hq3.out;have h2:=hq4.out;omega)
 have S34:=hid (show SB w4 q3 ⟨n,lo,hi,leaf,r,co,cn,cc,0⟩ by rw [hw4];exact sb_node S33.out)
 have S44:=hid (show SB w4 q4 (bare 0 0 0) from (F4.out.blk q4 S43.out.lt n43.out).trans S43.out)
 replace hw4:=hid hw4
 clear x0 x1 x2 x3 x4 x5 x6 n0 n1 n2 fx3 fx4 fx5
 obtain ⟨x0,x1,x2,x3,x4,x5,x6⟩:=S34.out.cells
 obtain ⟨z0,z1,z2,z3,z4,z5,z6⟩:=S44.out.cells
 have f0:=S44.out.fz 0;have f1:=S44.out.fz 1;have f2:=S44.out.fz 2;have f3:=S44.out.fz 3;have f4:=S44.out.fz 4;have f5:=S44.out.fz 5;have f6:=S44.out.fz 6
 simp only at x0 x1 x2 x3 x4 x5 x6
 go_wp2
 refine bodyPost_ret (ret_b2 (a:=4) (u:=5) (by kernel_rfl) (by kernel_rfl) (by kernel_rfl) rfl (box7 S44.out)) rfl ?_
 generalize hW5:((((((w4.setCell ⟨q4,0,none⟩ (.int .i64 (n:Int))).setCell ⟨q4,1,none⟩ (.int .i64 lo)).setCell ⟨q4,2,none⟩ (.int .i64 hi)).setCell ⟨q4,3,none⟩ (.bool leaf)).setCell ⟨q4,4,none⟩ (.int .i64 r)).setCell ⟨q4,5,none⟩ (.slice co cn cc)).setCell ⟨q4,6,none⟩ (.int .i64 0)=W5
 have F5:Fr (fun k=>k=q4) w4 W5:=by rw [←hW5];exact fr7
 have F6:Fr (fun k=>k=q3∨k=q4) w3 W5:=(fr_imp F4.out (fun b e=>Or.inl e)).trans (fr_imp F5 (fun b e=>Or.inr e)) (fun _ _ h=>h)
 have h3:=hq3.out;have h4:=hq4.out
 have BW:=gt B2.out.drew B3.out
 have hnS:∀ b,S b→W0.heap.size≤b:=N1.out
 have hs0':=hs0.out
 refine ⟨co,cn,cc,cs,S,rfl,?_,E1.out,fun b hb=>Nat.le_trans BB.out.size (hnS b hb),?_,?_⟩
 ·exact (P1.out.keep BW).same (fun k hk hl=>F6.blk k hl (by have:=hnS k hk;omega))
 ·have hX:=H1.out.keep BW
  refine (hX.mv (hX.prg.mine (fr_imp F6 (fun b e=>?_))) (hX.heap.fr F6 (by have:=hlt.out.1;omega)) hX.mem).less (fun b hb=>?_) (Or.inl HH.out.mem)
  ·rcases e with e |e
   ·rw [e];exact Or.inl m3.out
   ·rw [e];exact Or.inl m4.out
  ·rcases hb with hb |hb
   ·exact Or.inl (Or.inl hb)
   ·exact Or.inr hb
 ·exact ((Rok.after BB.out K1.out (fun b h=>Or.inl h)).below BW).mine F6 (fun b e=>by omega)
theorem enter_root(h:HeapS arm room croom K w hb p q R t tr ws)(hA:AllB t.now)(hT:TreeAt w tb hb n)(hm:R tb)(hN:NodeAt t.now n true r cs0)(hKb:K≤500000)(hho:holdB lo hi true cs0=true)(hem:cs0.length=0) :
  Calls Tryz.prog 154 #[.pointer (some ⟨tb,0,none⟩),.agg #[.int .i64 (n:Int),.int .i64 lo,.int .i64 hi,.bool false,.int .i64 0,.slice none 0 0,.int .i64 0]] w (Entered arm room croom (K+1) hb p q R t tr ws n lo hi true r cs0 w):=by
 obtain ⟨W0,hW0⟩:∃ W0,W0=(w.alloc (.cells #[.int .i64 (n:Int),.int .i64 lo,.int .i64 hi,.bool false,.int .i64 0,.slice none 0 0,.int .i64 0] 140)).alloc (.cells #[.int .i64 0,.int .i64 0,.int .i64 0,.bool false,.int .i64 0,.slice none 0 0,.int .i64 0] 140):=⟨_,rfl⟩
 have B0:Below w.heap.size w W0:=by rw [hW0];exact gt (ext1 _) (ext1 _)
 have hs0:W0.heap.size=w.heap.size+1+1:=by rw [hW0];simp
 have s3:SB W0 w.heap.size (bare n lo hi):=by rw [hW0];exact (SB.new w (bare n lo hi)).keep (ext1 _)
 have s4:SB W0 (w.heap.size+1) (bare 0 0 0):=by
  have:=SB.new (w.alloc (.cells #[.int .i64 (n:Int),.int .i64 lo,.int .i64 hi,.bool false,.int .i64 0,.slice none 0 0,.int .i64 0] 140)) (bare 0 0 0)
  simp only [World.size_alloc]at this
  rw [hW0];exact this
 obtain ⟨q4,hq4⟩:∃ q4,q4=w.heap.size+1:=⟨_,rfl⟩
 obtain ⟨q3,hq3⟩:∃ q3,q3=w.heap.size:=⟨_,rfl⟩
 rw [←hq4]at s4;rw [←hq3]at s3
 have H0:=hid (h.news B0)
 have m3:Hid (NewR R w W0 q3):=hid (Or.inr ⟨by omega,s3.lt⟩)
 have m4:Hid (NewR R w W0 q4):=hid (Or.inr ⟨by omega,s4.lt⟩)
 have T0:=hid (hT.keep B0)
 have HM:Hid (NewR R w W0 tb):=hid (Or.inl hm)
 have S3:=hid s3;have S4:=hid s4;have HH:=hid h;have BB:=hid B0
 have cr:=hid (read_yes H0.out hA T0.out HM.out hN hKb)
 have hlt:=hid (show hb<w.heap.size∧tb<w.heap.size from ⟨h.heap.lt,hT.lt⟩)
 have HNE:=hid hN
 have HHO:=hid hho
 obtain ⟨x0,x1,x2,x3,x4,x5,x6⟩:=s3.cells
 simp only [bare]at x0 x1 x2 x3 x4 x5 x6
 replace hem:=hid hem
 clear h hA hT hm B0 s3 s4 hho hN
 go_enter Tryz.func154,Tryz.ntmps154
 go_upto_region 1 with fail
 rw [←hW0,←hq4,←hq3]
 replace hW0:=hid hW0;replace hq3:=hid hq3;replace hq4:=hid hq4;replace hs0:=hid hs0
 go_upto_region 4 with (go_at_call 62;refine cr.out.mono ?_;rintro e w1 ⟨co,cn,cc,cs,S,rfl,hP,hE,hS,hs,hk⟩;have P1:=hid hP;have E1:=hid hE;have N1:=hid hS;have H1:=hid hs;have K1:=hid hk;have S31:=hid (S3.out.rok hk m3.out);have S41:=hid (S4.out.rok hk m4.out);have T1:=hid (T0.out.rok hk HM.out);clear hP hE hS hs hk x0 x1 x2 x3 x4 x5 x6)
 obtain ⟨q6,hq6⟩:∃ q6,q6=w1.heap.size:=⟨_,rfl⟩
 obtain ⟨W2,hW2⟩:∃ W2,W2=w1.alloc (.cells #[.bool true,.int .i64 r,.slice co cn cc] 111):=⟨_,rfl⟩
 have B2:=hid (show Below w1.heap.size w1 W2 by rw [hW2];exact ext1 _)
 have N2:=hid (show NB 111 W2 q6 true r co cn cc by rw [hW2,hq6];exact NB.new 111 w1 true r co cn cc)
 rw [←hW2,←hq6]
 replace hW2:=hid hW2;replace hq6:=hid hq6
 have hlen:cs.length=cs0.length:=by simpa using congrArg List.length E1.out
 have hcl:=P1.out.len
 have g1:SEn q6 q3 tb true co cn cc n n W2.drew:=⟨(N2.out.keep (Below.refl _ _).drew).cells.2.2,(N2.out.keep (Below.refl _ _).drew).cells.1,(S31.out.keep B2.out.drew).cells.1,(T1.out.keep B2.out.drew).cells.2⟩
 have ch:=hid (hold_any lo hi true r co cn cc cs W2.drew (P1.out.cs.keep B2.out.drew) (node_few HNE.out.has hlen hcl))
 rw [show holdB lo hi true cs=true from (holdB_nrm E1.out).trans HHO.out]at ch
 have hz0:cn=0:=by have:=hcl;have:=hlen;have:=hem.out;omega
 have hne:((cn:Int) == 0)=true:=by simp;omega
 clear hz0
 refine wp_region_K (S:=SEn q6 q3 tb true co cn cc n n) (fun _=>false) (by kernel_rfl) (g1) (fun hHeld=>?_)
 refine gkp 0 ?_
 refine gkt 1 ?_ (h:=by intro W hSw;obtain ⟨y0,y1,y2,y3⟩:=hSw;go_simp;first |done |with_reducible rfl)
 refine gkp 2 ?_
 refine gkp 3 ?_ (v:=.bool true) (h:=by intro W hSw;go_simp;first |done |with_reducible rfl)
 refine gkp 4 ?_
 refine gkp 5 ?_
 refine gkt 6 ?_ (h:=by intro W hSw;obtain ⟨y0,y1,y2,y3⟩:=hSw;go_simp;first |done |with_reducible rfl)
 refine gkp 7 ?_
 refine gkp 8 ?_
 refine gkt 9 ?_ (h:=by intro W hSw;obtain ⟨y0,y1,y2,y3⟩:=hSw;go_simp;first |done |with_reducible rfl)
 refine gkp 10 ?_
 refine gkp 11 ?_
 refine gkp 12 ?_
 refine gkt 13 ?_ (h:=by intro W hSw;obtain ⟨y0,y1,y2,y3⟩:=hSw;go_simp;first |done |with_reducible rfl)
 refine gkp 14 ?_
 refine gkp 15 ?_
 refine gkp 16 ?_
 refine gkp 17 ?_
 refine gkp 18 ?_
 refine wpAnyK_done (by kernel_rfl) ?_ _
 have S32:=hid (S31.out.keep B2.out.drew);have S42:=hid (S41.out.keep B2.out.drew)
 obtain ⟨x0,x1,x2,x3,x4,x5,x6⟩:=S32.out.cells
 simp only [bare]at x0 x1 x2 x3 x4 x5 x6
 obtain ⟨n0,n1,n2⟩:=(N2.out.keep (Below.refl _ _).drew).cells
 go_upto_region 7 with (go_at_call 214;refine ch.out.mono ?_;rintro e w3 ⟨rfl,hb3⟩;have B3:=hid hb3;have N3:=hid ((N2.out.keep (Below.refl _ _).drew).keep hb3);have S33:=hid (S32.out.keep hb3);have S43:=hid (S42.out.keep hb3);clear hb3 x0 x1 x2 x3 x4 x5 x6 n0 n1 n2)
 obtain ⟨n0,n1,n2⟩:=N3.out.cells
 obtain ⟨x0,x1,x2,x3,x4,x5,x6⟩:=S33.out.cells
 simp only [bare]at x0 x1 x2 x3 x4 x5 x6
 have fx:=S33.out.fz
 have fx3:=fx 3;have fx4:=fx 4;have fx5:=fx 5
 clear fx
 go_upto_region 8 with fail
 obtain ⟨w4,hw4⟩:∃ w4,w4=((w3.setCell ⟨q3,3,none⟩ (.bool true)).setCell ⟨q3,4,none⟩ (.int .i64 r)).setCell ⟨q3,5,none⟩ (.slice co cn cc):=⟨_,rfl⟩
 rw [←hw4]
 have F4:=hid (show Fr (fun k=>k=q3) w3 w4 by rw [hw4];exact (((Fr.of_below (S:=fun k=>k=q3) (Below.refl _ _)).set (Or.inl rfl) _).set (Or.inl rfl) _).set (Or.inl rfl) _)
 have n43:=hid (show q4≠q3 by have h1:=hq3.out;have h2:=hq4.out;omega)
 have S34:=hid (show SB w4 q3 ⟨n,lo,hi,true,r,co,cn,cc,0⟩ by rw [hw4];exact sb_node S33.out)
 have S44:=hid (show SB w4 q4 (bare 0 0 0) from (F4.out.blk q4 S43.out.lt n43.out).trans S43.out)
 replace hw4:=hid hw4
 clear x0 x1 x2 x3 x4 x5 x6 n0 n1 n2 fx3 fx4 fx5
 obtain ⟨x0,x1,x2,x3,x4,x5,x6⟩:=S34.out.cells
 obtain ⟨z0,z1,z2,z3,z4,z5,z6⟩:=S44.out.cells
 have f0:=S44.out.fz 0;have f1:=S44.out.fz 1;have f2:=S44.out.fz 2;have f3:=S44.out.fz 3;have f4:=S44.out.fz 4;have f5:=S44.out.fz 5;have f6:=S44.out.fz 6
 simp only at x0 x1 x2 x3 x4 x5 x6
 go_wp2
 refine bodyPost_ret (ret_b2 (a:=4) (u:=5) (by kernel_rfl) (by kernel_rfl) (by kernel_rfl) rfl (box7 S44.out)) rfl ?_
 generalize hW5:((((((w4.setCell ⟨q4,0,none⟩ (.int .i64 (n:Int))).setCell ⟨q4,1,none⟩ (.int .i64 lo)).setCell ⟨q4,2,none⟩ (.int .i64 hi)).setCell ⟨q4,3,none⟩ (.bool true)).setCell ⟨q4,4,none⟩ (.int .i64 r)).setCell ⟨q4,5,none⟩ (.slice co cn cc)).setCell ⟨q4,6,none⟩ (.int .i64 0)=W5
 have F5:Fr (fun k=>k=q4) w4 W5:=by rw [←hW5];exact fr7
 have F6:Fr (fun k=>k=q3∨k=q4) w3 W5:=(fr_imp F4.out (fun b e=>Or.inl e)).trans (fr_imp F5 (fun b e=>Or.inr e)) (fun _ _ h=>h)
 have h3:=hq3.out;have h4:=hq4.out
 have BW:=gt B2.out.drew B3.out
 have hnS:∀ b,S b→W0.heap.size≤b:=N1.out
 have hs0':=hs0.out
 refine ⟨co,cn,cc,cs,S,rfl,?_,E1.out,fun b hb=>Nat.le_trans BB.out.size (hnS b hb),?_,?_⟩
 ·exact (P1.out.keep BW).same (fun k hk hl=>F6.blk k hl (by have:=hnS k hk;omega))
 ·have hX:=H1.out.keep BW
  refine (hX.mv (hX.prg.mine (fr_imp F6 (fun b e=>?_))) (hX.heap.fr F6 (by have:=hlt.out.1;omega)) hX.mem).less (fun b hb=>?_) (Or.inl HH.out.mem)
  ·rcases e with e |e
   ·rw [e];exact Or.inl m3.out
   ·rw [e];exact Or.inl m4.out
  ·rcases hb with hb |hb
   ·exact Or.inl (Or.inl hb)
   ·exact Or.inr hb
 ·exact ((Rok.after BB.out K1.out (fun b h=>Or.inl h)).below BW).mine F6 (fun b e=>by omega)
end
end Tre
namespace Tre
open Go.RowKit Go.Maps
open Dsk (gt hid undrew keep_old keep_cell lt_cell newD)
open Cch (Fr wpAnyK wpAnyK_done wp_region_K hd_cell hd_frozen blk_set)
open Cel (C Cs Cok NB At5 ext1 below_set I64 nrm hasN pageN cv)
variable {w:World}
theorem row_parts{g n cap:Nat}{xs:List Value}{e:TypeId}{k:Nat}(h:w.ownsRow 0 e k (.slice (some ⟨g,0,none⟩) n cap) n xs):∃ cur,w.heap[g]? = some (.cells cur e (0,0))∧n≤cap∧cap≤maxLen∧cur.size=cap*k∧cur.toList.take (n*k)=xs:=by
 rcases h.2 with ⟨hv,_⟩ | ⟨g',cap',cur,hv,hb',hg,hnc,hm,hcs,ht⟩
 ·simp at hv
 ·simp only [Value.slice.injEq,Option.some.injEq,Addr.mk.injEq,and_true,true_and]at hv
  obtain ⟨rfl,rfl⟩:=hv
  exact ⟨cur,hg,hnc,hm,hcs,ht⟩
theorem at5_cells{b o:Nat}{a:C}(h:At5 w b o a):∀ j u,(cv [a])[j]? = some u→w.cell? ((⟨b,o,none⟩:Addr).add j)=some u:=by
 intro j u hu
 obtain ⟨h0,h1,h2,h3,h4⟩:=h
 rw [Addr.add_lit]
 match j with
 | 0=>simp [cv]at hu;subst hu;exact h0
 | 1=>simp [cv]at hu;subst hu;exact h1
 | 2=>simp [cv]at hu;subst hu;exact h2
 | 3=>simp [cv]at hu;subst hu;exact h3
 | 4=>simp [cv]at hu;subst hu;exact h4
 | n+5=>simp [cv]at hu
theorem insert_end(co:Option Addr)(n cc gv:Nat)(l:List C)(a:C)(w:World)(hrow:w.ownsRow 0 144 5 (.slice co n cc) n (cv l))(hn:n≤100000)(hlen:l.length=n)(ha:At5 w gv 0 a) :
  Calls Tryz.prog 78 #[.slice co n cc,.int .i64 (n:Int),.slice (some ⟨gv,0,none⟩) 1 1] w fun e w'=>∃ g' cc',e=.returned (.slice (some ⟨g',0,none⟩) (n+1) cc')∧w'.ownsRow 0 144 5 (.slice (some ⟨g',0,none⟩) (n+1) cc') (n+1) (cv (l++[a]))∧w.grownBy w' (Value.slice co n cc).ownBlock∧((Value.slice co n cc).ownBlock=some g'∨g'=w.heap.size)∧g'<w'.heap.size:=by
 obtain ⟨i57,hi57,hz0,hz1,hz2⟩:=info_parts Cel.Tryz.info144
 have HI:=hid hi57;have HZ0:=hid hz0;have HZ1:=hid hz1;have HZ2:=hid hz2
 have HR:=hid hrow;have HA:=hid (at5_cells ha)
 have hcl:(cv l).length=n*5:=by rw [Cel.cv_length,hlen]
 clear hi57 hz0 hz1 hz2 ha
 have hx:(co=none∧n=0∧cc=0)∨∃ g,co=some ⟨g,0,none⟩∧n≤cc:=by
  rcases hrow.2 with ⟨h1,h2⟩ | ⟨g,cap,cur,e,hb,hgg,h2,_⟩
  ·simp only [Value.slice.injEq]at h1;exact Or.inl ⟨h1.1,h2,h1.2.2⟩
  ·simp only [Value.slice.injEq]at e;exact Or.inr ⟨g,e.1,by rw [e.2.2];exact h2⟩
 clear hrow
 rcases hx with ⟨rfl,rfl,rfl⟩ | ⟨g,rfl,hnc⟩
 ·go_enter Tryz.func78,Tryz.ntmps78
  go_wp2_with ((with_reducible refine Cel.here_op 25 ?_);refine wpList_append_lies _ rfl (.tmp 23) (.tmp 24) 109 rfl 0 144 i57 (.agg #[.int .i64 0,.int .i64 0,.int .i64 0,.slice none 0 0,.int .i64 0]) 5 56 Tryz.underlying109 HI.out HZ0.out HZ1.out HZ2.out rfl (by decide) (.slice none 0 0) 0 (cv l) rfl HR.out ⟨gv,0,none⟩ 1 1 (cv [a]) rfl rfl HA.out (Cel.cv_one a) (by omega) (by unfold maxLen;omega) (by omega) (Nat.zero_le _) _ rfl ?_;intro g6 cap6 w6 ho6 hg6 ha6 hl6;have O6:=hid ho6;have G6:=hid (And.intro hg6 (And.intro ha6 hl6));clear ho6 hg6 ha6 hl6)
  go_ret
  exact ⟨g6,cap6,rfl,by rw [Cel.cv_append];exact O6.out,G6.out⟩
 ·have n1:(0:Int)≤(n:Int):=by omega
  have n2:¬(cc:Int)<(n:Int):=by omega
  go_enter Tryz.func78,Tryz.ntmps78
  go_wp2_with ((with_reducible refine Cel.here_op 25 ?_);refine wpList_append_lies _ rfl (.tmp 23) (.tmp 24) 109 rfl 0 144 i57 (.agg #[.int .i64 0,.int .i64 0,.int .i64 0,.slice none 0 0,.int .i64 0]) 5 56 Tryz.underlying109 HI.out HZ0.out HZ1.out HZ2.out rfl (by decide) (.slice (some ⟨g,0,none⟩) n cc) n (cv l) rfl HR.out ⟨gv,0,none⟩ 1 1 (cv [a]) rfl rfl HA.out (Cel.cv_one a) (by omega) (by unfold maxLen;omega) (by omega) (Nat.zero_le _) _ rfl ?_;intro g6 cap6 w6 ho6 hg6 ha6 hl6;have O6:=hid ho6;have G6:=hid (And.intro hg6 (And.intro ha6 hl6));clear ho6 hg6 ha6 hl6)
  all_goals
   go_ret
   exact ⟨g6,cap6,rfl,by rw [Cel.cv_append];exact O6.out,G6.out⟩
end Tre
end Go.Proofs.YtfcikkechphmaaaGreatDoor
