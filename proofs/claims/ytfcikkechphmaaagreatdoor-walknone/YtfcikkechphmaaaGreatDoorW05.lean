/- What the writer's above and inLeaf put; no statement of the seat is proved here. -/
import Derived.Test.YtfcikkechphmaaaGreatDoorW04
import Derived.ChangeKeysEq
import Derived.Lib.SlBytesConst
set_option maxHeartbeats 16000000
set_option maxRecDepth 20000
namespace Go.Proofs.YtfcikkechphmaaaGreatDoor
namespace Cel
open Go.RowKit
theorem S5.grown{q p:Nat}{a:C}{w w':World}(h:S5 q a w)(hg:w.grownBy w' (some p))(hne:q≠p):S5 q a w':=
 ⟨grow_cell hg h.1 hne,grow_cell hg h.2.1 hne,grow_cell hg h.2.2.1 hne,grow_cell hg h.2.2.2.1 hne,grow_cell hg h.2.2.2.2 hne⟩
theorem wnum4(q:Nat)(ys:List Nat)(v:Int)(W:World)(h:WB W q ys)(hn:ys.length+4≤512) :
  Calls Tryz.prog 231 #[.pointer (some ⟨q,0,none⟩),.int .i64 v,.int .i64 4] W fun e w'=>e=.returned (.tuple #[])∧WB w' q (ys++putN (uN v) 4 false)∧W.grownBy w' (some q):=wnum_any q ys v 4 W h (by omega) hn
theorem wnum2(q:Nat)(ys:List Nat)(v:Int)(W:World)(h:WB W q ys)(hn:ys.length+2≤512) :
  Calls Tryz.prog 231 #[.pointer (some ⟨q,0,none⟩),.int .i64 v,.int .i64 2] W fun e w'=>e=.returned (.tuple #[])∧WB w' q (ys++putN (uN v) 2 false)∧W.grownBy w' (some q):=wnum_any q ys v 2 W h (by omega) hn
theorem wnum1(q:Nat)(ys:List Nat)(v:Int)(W:World)(h:WB W q ys)(hn:ys.length+1≤512) :
  Calls Tryz.prog 231 #[.pointer (some ⟨q,0,none⟩),.int .i64 v,.int .i64 1] W fun e w'=>e=.returned (.tuple #[])∧WB w' q (ys++putN (uN v) 1 false)∧W.grownBy w' (some q):=wnum_any q ys v 1 W h (by omega) hn
theorem wabove_any(q:Nat)(ys:List Nat)(a:C)(W:World)(h:WB W q ys)(hk:I64 a.k)(hn:ys.length+(oneN false a).length≤512) :
  Calls Tryz.prog 229 #[.pointer (some ⟨q,0,none⟩),.agg #[.int .i64 (a).k,.int .i64 (a).c,.int .i64 (a).l,.slice (a).o (a).n (a).m,.int .i64 (a).x]] W fun e w'=>e=.returned (.tuple #[])∧WB w' q (ys++oneN false a)∧W.grownBy w' (some q):=by
 have hql:=lt_of_block h.2
 have hne:W.heap.size≠q:=by omega
 have c1:=hid (wnum4 q ys a.c _ (h.keep (ext1 (.cells #[.int .i64 a.k,.int .i64 a.c,.int .i64 a.l,.slice a.o a.n a.m,.int .i64 a.x] 144))) (by rw [oneN_length]at hn;simp at hn;omega))
 have g0:=hid (S5.new 144 W a)
 have B0:Hid (Below W.heap.size W (W.alloc (.cells #[.int .i64 a.k,.int .i64 a.c,.int .i64 a.l,.slice a.o a.n a.m,.int .i64 a.x] 144))):=hid (ext1 _)
 have cz:=hid (zig_any a.k hk)
 have hz:=hid (zigN_lt a.k hk)
 have hn':Hid (ys.length+4+szN (zigN a.k)≤512):=hid (by rw [oneN_length]at hn;simp at hn;omega)
 have e1:oneN false a=putN (uN a.c) 4 false++varN (zigN a.k):=rfl
 rw [e1]
 generalize zigN a.k=z at *
 clear e1 hn h hql
 replace hne:=hid hne
 go_enter Tryz.func229,Tryz.ntmps229
 go_wp2_with (first
  | (go_at_call 231;refine c1.out.mono ?_;rintro e w1 ⟨rfl,hw,hg⟩;have W1:=hid hw;have G1:=hid (grow_trans (grow_below B0.out) hg);obtain ⟨y0,y1,y2,y3,y4⟩:=g0.out.grown hg hne.out;clear hw hg c1)
  | (go_at_call 264;refine (cz.out _).mono ?_;rintro e w2 ⟨rfl,hw⟩;obtain rfl:=hw.symm)
  | (go_at_call 284;refine (wvar_any q _ z _ W1.out hz.out (by have:=hn'.out;simp [putN_length];omega)).mono ?_;rintro e w3 ⟨rfl,hw,hg⟩;have W3:=hid hw;have G3:=hid hg;clear hw hg))
 go_end0
 have:=W3.out
 rw [List.append_assoc]at this
 exact ⟨rfl,this,grow_trans G1.out G3.out⟩
theorem winleaf_any(q:Nat)(ys:List Nat)(a:C)(W:World)(h:WB W q ys)(ha:Cok W a)(hq:0<a.n→∀ g o,a.o=some ⟨g,o,none⟩→g≠q)(hn:ys.length+(oneN true a).length≤512) :
  Calls Tryz.prog 230 #[.pointer (some ⟨q,0,none⟩),.agg #[.int .i64 (a).k,.int .i64 (a).c,.int .i64 (a).l,.slice (a).o (a).n (a).m,.int .i64 (a).x]] W fun e w'=>e=.returned (.tuple #[])∧WB w' q (ys++oneN true a)∧W.grownBy w' (some q):=by
 have hql:=lt_of_block h.2
 have hne:=hid (show W.heap.size≠q by omega)
 have hk:=ha.kI
 have cz:=hid (zig_any a.k hk)
 have hz:=hid (zigN_lt a.k hk)
 have hu:=uN_wrap a.l
 have hul:=hid (uN_lt a.l)
 have hrl:=ha.rd.1
 have g0:=hid (S5.new 144 W a)
 have B0:Hid (Below W.heap.size W (W.alloc (.cells #[.int .i64 a.k,.int .i64 a.c,.int .i64 a.l,.slice a.o a.n a.m,.int .i64 a.x] 144))):=hid (ext1 _)
 have h0:=hid (h.keep B0.out)
 have R0:=hid (ha.rd.keep B0.out)
 have hq':=hid hq
 have csp:=hid (fun w=>spills_any a w hrl)
 have hrl':=hid hrl
 obtain ⟨s1,hs1⟩:∃ s,s=szN (zigN a.k):=⟨_,rfl⟩
 obtain ⟨s2,hs2⟩:∃ s,s=szN (uN a.l):=⟨_,rfl⟩
 have hn':Hid (ys.length+(s1+s2+a.n+(if spillB a=true then 4 else 0))≤512):=hid (by rw [oneN_length,←hs1,←hs2,hrl]at hn;simpa using hn)
 have l1:Hid ((varN (zigN a.k)).length=s1):=hid (by rw [varN_length,hs1])
 have l2:Hid ((varN (uN a.l)).length=s2):=hid (by rw [varN_length,hs2])
 have e1:oneN true a=varN (zigN a.k)++varN (uN a.l)++a.b++(if spillB a then putN (uN a.x) 4 false else []):=rfl
 rw [e1]
 replace hs1:=hid hs1
 replace hs2:=hid hs2
 generalize zigN a.k=z at *
 generalize uN a.l=u at *
 clear e1 hn h hql ha hq hk hrl
 cases hsp:spillB a with
 | false=>
  rw [hsp]at csp hn'
  simp only [Bool.false_eq_true,if_false,Nat.add_zero]at hn' ⊢
  clear hsp
  go_enter Tryz.func230,Tryz.ntmps230
  go_wp2_with (first
   | (go_at_call 264;refine (cz.out _).mono ?_;rintro e w2 ⟨rfl,hw⟩;obtain rfl:=hw.symm;clear cz)
   | (go_at_call 284;refine (wvar_any q ys z _ h0.out hz.out (by have:=hn'.out;have:=hs1.out;omega)).mono ?_;rintro e w1 ⟨rfl,hw,hg⟩;have W1:=hid hw;have G1:=hid (grow_trans (grow_below B0.out) hg);have g1:=hid (g0.out.grown hg hne.out);have R1:=hid (R0.out.grown hg hq'.out);obtain ⟨y0,y1,y2,y3,y4⟩:=g1.out;clear hw hg h0 R0 g0)
   | (go_at_call 284;refine (wvar_any q _ u _ W1.out hul.out (by have:=hn'.out;have:=hs2.out;have:=l1.out;simp;omega)).mono ?_;rintro e w3 ⟨rfl,hw,hg⟩;have W3:=hid hw;have G3:=hid (grow_trans G1.out hg);have g3:=hid (g1.out.grown hg hne.out);have R3:=hid (R1.out.grown hg hq'.out);clear y0 y1 y2 y3 y4;obtain ⟨y0,y1,y2,y3,y4⟩:=g3.out;clear hw hg W1 R1 g1)
   | (go_at_call 285;refine (wbytes_any q _ _ _ _ _ _ W3.out R3.out (by have:=hn'.out;have:=l1.out;have:=l2.out;simp;omega)).mono ?_;rintro e w4 ⟨rfl,hw,hg⟩;have W4:=hid hw;have G4:=hid (grow_trans G3.out hg);have g4:=hid (g3.out.grown hg hne.out);clear y0 y1 y2 y3 y4;obtain ⟨y0,y1,y2,y3,y4⟩:=g4.out;clear hw hg W3 R3 g3)
   | (go_at_call 265;refine (csp.out _).mono ?_;rintro e w5 ⟨rfl,hb⟩;have B5:=hid hb;clear hb))
  go_end0
  have:=W4.out.keep B5.out
  rw [List.append_nil,←List.append_assoc,←List.append_assoc]
  exact ⟨rfl,this,grow_trans G4.out (grow_below B5.out)⟩
 | true=>
  rw [hsp]at csp hn'
  simp only [if_true]at hn' ⊢
  clear hsp
  go_enter Tryz.func230,Tryz.ntmps230
  go_wp2_with (first
   | (go_at_call 264;refine (cz.out _).mono ?_;rintro e w2 ⟨rfl,hw⟩;obtain rfl:=hw.symm;clear cz)
   | (go_at_call 284;refine (wvar_any q ys z _ h0.out hz.out (by have:=hn'.out;have:=hs1.out;omega)).mono ?_;rintro e w1 ⟨rfl,hw,hg⟩;have W1:=hid hw;have G1:=hid (grow_trans (grow_below B0.out) hg);have g1:=hid (g0.out.grown hg hne.out);have R1:=hid (R0.out.grown hg hq'.out);obtain ⟨y0,y1,y2,y3,y4⟩:=g1.out;clear hw hg h0 R0 g0)
   | (go_at_call 284;refine (wvar_any q _ u _ W1.out hul.out (by have:=hn'.out;have:=hs2.out;have:=l1.out;simp;omega)).mono ?_;rintro e w3 ⟨rfl,hw,hg⟩;have W3:=hid hw;have G3:=hid (grow_trans G1.out hg);have g3:=hid (g1.out.grown hg hne.out);have R3:=hid (R1.out.grown hg hq'.out);clear y0 y1 y2 y3 y4;obtain ⟨y0,y1,y2,y3,y4⟩:=g3.out;clear hw hg W1 R1 g1)
   | (go_at_call 285;refine (wbytes_any q _ _ _ _ _ _ W3.out R3.out (by have:=hn'.out;have:=l1.out;have:=l2.out;simp;omega)).mono ?_;rintro e w4 ⟨rfl,hw,hg⟩;have W4:=hid hw;have G4:=hid (grow_trans G3.out hg);have g4:=hid (g3.out.grown hg hne.out);clear y0 y1 y2 y3 y4;obtain ⟨y0,y1,y2,y3,y4⟩:=g4.out;clear hw hg W3 R3 g3)
   | (go_at_call 265;refine (csp.out _).mono ?_;rintro e w5 ⟨rfl,hb⟩;have B5:=hid hb;have W5:=hid (W4.out.keep hb);have g5:=hid (g4.out.keep hb);clear y0 y1 y2 y3 y4;obtain ⟨y0,y1,y2,y3,y4⟩:=g5.out;clear hb)
   | (go_at_call 231;refine (wnum4 q _ a.x _ W5.out (by have:=hn'.out;have:=l1.out;have:=l2.out;have:=hrl'.out;simp;omega)).mono ?_;rintro e w6 ⟨rfl,hw,hg⟩;have W6:=hid hw;have G6:=hid hg;clear hw hg))
  go_end0
  have:=W6.out
  rw [←List.append_assoc,←List.append_assoc,←List.append_assoc]
  exact ⟨rfl,this,grow_trans (grow_trans G4.out (grow_below B5.out)) G6.out⟩
end Cel
namespace Cel
open Go.RowKit
section
variable {P:Program} {ops:Array Oper} {rest:List Oper} {o:Oper} {a:Act} {w:World} {Q:Exit→Act→World→Prop}
theorem wpList_load_run(hgd:o.guard=none)(ty:TypeId)(x:Operand)(ho:o.op=.load ty x)(ad:Addr)(hx:a.eval x=.pointer (some ad))(v:Value)
  (hrun:(loadVar ty ad).run P w=.ok v w) (h:wpList P ops Q rest (a.put o.dst v) w):wpList P ops Q (o::rest) a w:=by
 refine wpList_plain hgd fun K hK=>?_
 unfold Oper.wp
 simp [execOp,ho,hx,Instr.loadAt,Instr.sureAddr,hrun,Result.andThen]
 exact hK _ _ h
theorem wpList_store_run(hgd:o.guard=none)(ty:TypeId)(x y:Operand)(ho:o.op=.store ty x y)(ad:Addr)(hx:a.eval x=.pointer (some ad))(v:Value)(hy:a.eval y=v)(w':World)
  (hrun:(storeVar ty ad v).run P w=.ok () w') (h:wpList P ops Q rest (a.put o.dst undef) w'):wpList P ops Q (o::rest) a w:=by
 refine wpList_plain hgd fun K hK=>?_
 unfold Oper.wp
 simp [execOp,ho,hx,hy,Instr.storeAt,Instr.sureAddr,hrun,Result.andThen]
 exact hK _ _ h
theorem wpList_build_run(hgd:o.guard=none)(ty:TypeId)(ho:o.op=.build ty #[])(v:Value)
  (hrun:(Instr.build ty #[]).run P w=.ok v w) (h:wpList P ops Q rest (a.put o.dst v) w):wpList P ops Q (o::rest) a w:=by
 refine wpList_plain hgd fun K hK=>?_
 unfold Oper.wp
 simp [execOp,ho,hrun,Result.andThen]
 exact hK _ _ h
theorem wpList_alloc_run(hgd:o.guard=none)(ty:TypeId)(ho:o.op=.alloc ty)(v:Value)(w':World)
  (hrun:(Instr.alloc ty true (.tuple #[])).run P w=.ok v w') (h:wpList P ops Q rest (a.put o.dst v) w'):wpList P ops Q (o::rest) a w:=by
 refine wpList_plain hgd fun K hK=>?_
 unfold Oper.wp
 simp [execOp,ho,hrun,Result.andThen]
 exact hK _ _ h
theorem wpList_box_run(hgd:o.guard=none)(ty:TypeId)(x:Operand)(ho:o.op=.box ty x)(u v:Value)(hx:a.eval x=u)(w':World)
  (hrun:(Instr.box ty u).run P w=.ok v w') (h:wpList P ops Q rest (a.put o.dst v) w'):wpList P ops Q (o::rest) a w:=by
 refine wpList_plain hgd fun K hK=>?_
 unfold Oper.wp
 simp [execOp,ho,hx,hrun,Result.andThen]
 exact hK _ _ h
end
variable {w:World}
theorem here_store{P:Program}{ops:Array Oper}{Q:Exit→Act→World→Prop}{a:Act}{rest:List Oper}(ty:TypeId){x y:Operand}{t:TypeId}{pos:String}{after:Array Edge}{gd:Option (Nat×Bool)}
  (h:wpList P ops Q (⟨none,.store ty x y,t,pos,after,gd⟩::rest) a w):wpList P ops Q (⟨none,.store ty x y,t,pos,after,gd⟩::rest) a w:=h
def pgV(x:List Nat):Value:=.agg (bs x).toArray
def wrV(x:List Nat):Value:=.agg (wrow x x.length).toArray
theorem build60(W:World):(Instr.build 263 #[]).run Tryz.prog W=.ok (pgV (zs 512)) W:=by kernel_rfl
theorem alloc60(W:World):(Instr.alloc 263 true (.tuple #[])).run Tryz.prog W=.ok (.pointer (some ⟨W.heap.size,0,none⟩)) (W.alloc (.cells (bs (zs 512)).toArray 263)):=by kernel_rfl
theorem build89(W:World):(Instr.build 320 #[]).run Tryz.prog W=.ok (wrV []) W:=by kernel_rfl
theorem box89(W:World):(Instr.box 320 (wrV [])).run Tryz.prog W=.ok (.pointer (some ⟨W.heap.size,0,none⟩)) (W.alloc (.cells (wrow [] 0).toArray 320)):=by kernel_rfl
theorem wb_new(W:World):WB (W.alloc (.cells (wrow [] 0).toArray 320)) W.heap.size []:=⟨by simp,heap_alloc_new W _⟩
variable {x:List Nat} {W:World}
theorem load60{ad:Addr}(hx:x.length=512)(h:∀ j v,(bs x)[j]? = some v→W.cell? (ad.add j)=some v):(loadVar 263 ad).run Tryz.prog W=.ok (pgV x) W:=by
 have hl:=run_loadCells_list (P:=Tryz.prog) W ad (bs x) h
 rw [bs_length,hx]at hl
 simp [loadVar,hl,pgV]
def PB(W:World)(q:Nat)(x:List Nat):Prop:=x.length=512∧W.heap[q]? = some (.cells (bs x).toArray 263 (0,0))
variable {q:Nat} {W':World}
theorem PB.keep(h:PB W q x)(hb:Below W.heap.size W W'):PB W' q x:=⟨h.1,by rw [hb.block q (lt_of_block h.2)];exact h.2⟩
variable {B:Nat}
theorem PB.under(h:PB W q x)(hb:Below B W W')(hq:q<B):PB W' q x:=⟨h.1,by rw [hb.block q hq];exact h.2⟩
theorem PB.new(W:World):PB (W.alloc (.cells (bs (zs 512)).toArray 263)) W.heap.size (zs 512):=⟨zs_length _,heap_alloc_new W _⟩
theorem PB.load(h:PB W q x):(loadVar 263 ⟨q,0,none⟩).run Tryz.prog W=.ok (pgV x) W:=by
 refine load60 h.1 fun j v hj=>?_
 rw [Addr.add_lit]
 simpa [World.cell?,h.2] using hj
theorem PB.store{y:List Nat}(h:PB W q x)(hy:y.length=512):(storeVar 263 ⟨q,0,none⟩ (pgV y)).run Tryz.prog W=.ok () (W.setRow q (bs y).toArray)∧PB (W.setRow q (bs y).toArray) q y:=by
 refine ⟨run_storeVar_row W q 263 263 (bs x).toArray (bs y).toArray h.2 ?_ (by simp [bs_length,h.1,hy]) ?_,hy,setRow_heap W q _ _ 263 _ h.2⟩
 ·have:(Tryz.prog.info? 263).map (·.size)=some 512:=by kernel_rfl
  rw [this];simp [bs_length,hy]
 ·rw [Array.all_eq_true_iff_forall_mem]
  intro v hv
  exact bs_one y v (by simpa using hv)
theorem PB.rd(h:PB W q x):Rd W (some ⟨q,0,none⟩) 512 512 x:=by
 refine ⟨h.1,Nat.le_refl _,fun e=>(by cases e),fun _=>⟨q,0,rfl,fun t ht=>?_⟩⟩
 have:=bs_get x t (by rw [h.1];exact ht)
 rw [Nat.zero_add]
 simpa [World.cell?,h.2] using this
theorem WB.load{ys:List Nat}(h:WB W q ys):(loadVar 263 ⟨q,0,none⟩).run Tryz.prog W=.ok (pgV (padN ys)) W:=by
 refine load60 (padN_length ys h.1) fun j v hj=>?_
 rw [Addr.add_lit]
 have hlt:j<(bs (padN ys)).length:=(List.getElem?_eq_some_iff.1 hj).1
 simp only [World.cell?,h.2,Nat.zero_add,List.getElem?_toArray,wrow]
 rw [List.getElem?_append_left hlt];exact hj
theorem ret_page{fn:Func}{a u:Tmp}(h:fn.results = #[.cell a 263,.tmp u]){tmps:Array Value}{W:World}{q:Nat}{x:List Nat}
  (hp:tmps.getD a undef=.pointer (some ⟨q,0,none⟩)) (hb:PB W q x):(results fn tmps).run Tryz.prog W=.ok (.tuple #[pgV x,tmps.getD u undef]) W:=by
 rw [results_cell_tmp h,hp]
 simp [asAddr,hb.load]
theorem below_grown(h:Below B w W)(hg:W.grownBy W' (some q))(hq:B≤q)(hB:B≤w.heap.size):Below B w W':=
 h.trans ⟨hg.os,hg.tape,hg.output,hg.size,fun k hk=>hg.block k (by have:=h.size;omega) (by intro e;cases e;omega)⟩
theorem below_row(h:Below B w W)(hq:B≤q)(c:Array Value):Below B w (W.setRow q c):=below_setRow h hq c
end Cel
namespace Cel
open Go.RowKit
def hd7(leaf:Bool)(n:Nat)(r:Int):List Nat:=putN (uN (if leaf then 1 else 2)) 1 false++putN (uN (n:Int)) 2 false++putN (uN r) 4 false
theorem hd7_length(leaf:Bool)(n:Nat)(r:Int):(hd7 leaf n r).length=7:=by simp [hd7,putN_length]
def pageN(leaf:Bool)(r:Int)(cs:List C):List Nat:=padN (hd7 leaf cs.length r++allN leaf cs)
def hasN(leaf:Bool)(r:Int)(cs:List C):Bool:=goodN leaf r cs&&decide (sizeN leaf cs≤512)
theorem raw_length(leaf:Bool)(r:Int)(cs:List C):(hd7 leaf cs.length r++allN leaf cs).length=sizeN leaf cs:=by
 rw [List.length_append,hd7_length,sumN_all];rfl
theorem pageN_length(leaf:Bool)(r:Int)(cs:List C)(h:sizeN leaf cs≤512):(pageN leaf r cs).length=512:=padN_length _ (by rw [raw_length];exact h)
theorem Cs.apart{w:World}{co:Option Addr}{cn cc:Nat}{cs:List C}(h:Cs w co cn cc cs){i:Nat}(hi:i<cn){q:Nat}(hq:w.heap.size≤q):0<(cs.getD i default).n→∀ g o,(cs.getD i default).o=some ⟨g,o,none⟩→g≠q:=by
 intro hn g o e
 obtain ⟨b,off,e2,hc⟩:=(h.ok_at hi).rd.2.2.2 hn
 rw [e]at e2
 simp only [Option.some.injEq,Addr.mk.injEq,and_true]at e2
 have:=lt_cell (hc 0 hn)
 simp only at this
 omega
theorem written_no(leaf:Bool)(r:Int)(co:Option Addr)(cn cc:Nat)(cs:List C)(w:World)(h:Cs w co cn cc cs)(hf:Few cs)(hno:hasN leaf r cs=false) :
  Calls Tryz.prog 174 #[.agg #[.bool leaf,.int .i64 r,.slice co cn cc]] w fun e w'=>e=.returned (.tuple #[pgV (zs 512),.bool false])∧Below w.heap.size w w':=by
 have hcn:cn≤100000:=by have:=h.len;have:=hf.1;omega
 obtain ⟨w0,hw0⟩:∃ w0,w0=w.alloc (.cells #[.bool leaf,.int .i64 r,.slice co cn cc] 111):=⟨_,rfl⟩
 have hB0:Below w.heap.size w w0:=by rw [hw0];exact ext1 _
 obtain ⟨w1,hw1⟩:∃ w1,w1=w0.alloc (.cells (bs (zs 512)).toArray 263):=⟨_,rfl⟩
 have hB1:Below w.heap.size w w1:=by rw [hw1];exact gt hB0 (ext1 _)
 have N0:NB 111 w1 w.heap.size leaf r co cn cc:=by
  have:=NB.new 111 w leaf r co cn cc
  rw [←hw0]at this
  rw [hw1];exact this.keep (ext1 _)
 have P0:PB w1 w0.heap.size (zs 512):=by rw [hw1];exact PB.new w0
 have hsz:w0.heap.size=w.heap.size+1:=by rw [hw0];simp
 rw [hsz]at P0
 have cg:=hid (good_any leaf r co cn cc cs w1 (h.keep hB1) hcn)
 have cf:=hid (fun W (hb:Below w1.heap.size w1 W)=>fits_any leaf r co cn cc cs W ((h.keep hB1).keep hb) hf)
 have hno':=hid hno
 unfold hasN at hno'
 generalize goodN leaf r cs=G at *
 generalize decide (sizeN leaf cs≤512)=F at *
 have N1:=hid N0
 have P1:=hid P0
 have B1:=hid hB1
 have al:=hid alloc60
 have bu:=hid build60
 replace hw0:=hid hw0.symm
 replace hw1:=hid hw1.symm
 replace hsz:=hid hsz
 have PS:Hid (∀ W,PB W (w.heap.size+1) (zs 512)→(storeVar 263 ⟨w.heap.size+1,0,none⟩ (pgV (zs 512))).run Tryz.prog W=.ok () (W.setRow (w.heap.size+1) (bs (zs 512)).toArray)∧PB (W.setRow (w.heap.size+1) (bs (zs 512)).toArray) (w.heap.size+1) (zs 512)):=hid (fun W hp=>hp.store (zs_length _))
 obtain ⟨Z,hZ⟩:∃ Z,Z=zs 512:=⟨_,rfl⟩
 rw [←hZ]at PS P0 P1 al bu hw1 ⊢
 replace hZ:=hid hZ
 obtain ⟨u0,u1,u2⟩:=N0.cells
 clear h hf hno N0 P0 hB0 hB1
 cases G with
 | false=>
  go_enter Tryz.func174,Tryz.ntmps174
  go_wp2_with (first
   | ((with_reducible refine here_op 2 ?_);rw [hw0.out];refine wpList_alloc_run rfl 263 rfl _ _ (al.out _) ?_;rw [hw1.out,hsz.out])
   | (go_at_call 228;refine cg.out.mono ?_;rintro e w2 ⟨rfl,hb⟩;have B2:=hid (gt B1.out hb);have P2:=hid (PS.out _ (P1.out.keep hb));clear hb u0 u1 u2)
   | ((with_reducible refine here_op 17 ?_);refine wpList_build_run rfl 263 rfl _ (bu.out _) ?_)
   | ((with_reducible refine here_store 263 ?_);refine wpList_store_run rfl 263 (.tmp 2) (.tmp 17) rfl ⟨w.heap.size+1,0,none⟩ rfl _ rfl _ P2.out.1 ?_))
  (try simp only [Exit.inBlock,Exit.then])
  refine bodyPost_ret (ret_page rfl rfl P2.out.2) rfl ?_
  exact ⟨rfl,below_row B2.out (by omega) _⟩
 | true=>
  have hF:F=false:=by simpa using hno'.out
  subst hF
  go_enter Tryz.func174,Tryz.ntmps174
  go_wp2_with (first
   | ((with_reducible refine here_op 2 ?_);rw [hw0.out];refine wpList_alloc_run rfl 263 rfl _ _ (al.out _) ?_;rw [hw1.out,hsz.out])
   | (go_at_call 228;refine cg.out.mono ?_;rintro e w2 ⟨rfl,hb⟩;have B2:=hid hb;have N2:=hid (N1.out.keep hb);clear hb u0 u1 u2;obtain ⟨u0,u1,u2⟩:=N2.out.cells)
   | (go_at_call 143;refine (cf.out _ B2.out).mono ?_;rintro e w3 ⟨rfl,hb⟩;have B3:=hid (gt B1.out (gt B2.out hb));have P3:=hid (PS.out _ (P1.out.keep (gt B2.out hb)));clear hb u0 u1 u2)
   | ((with_reducible refine here_op 17 ?_);refine wpList_build_run rfl 263 rfl _ (bu.out _) ?_)
   | ((with_reducible refine here_store 263 ?_);refine wpList_store_run rfl 263 (.tmp 2) (.tmp 17) rfl ⟨w.heap.size+1,0,none⟩ rfl _ rfl _ P3.out.1 ?_))
  (try simp only [Exit.inBlock,Exit.then])
  refine bodyPost_ret (ret_page rfl rfl P3.out.2) rfl ?_
  exact ⟨rfl,below_row B3.out (by omega) _⟩
theorem written_true(r:Int)(co:Option Addr)(cn cc:Nat)(cs:List C)(w:World)(h:Cs w co cn cc cs)(hf:Few cs)(hyes:hasN true r cs=true) :
  Calls Tryz.prog 174 #[.agg #[.bool true,.int .i64 r,.slice co cn cc]] w fun e w'=>e=.returned (.tuple #[pgV (pageN true r cs),.bool true])∧Below w.heap.size w w':=by
 have hcn:cn≤100000:=by have:=h.len;have:=hf.1;omega
 obtain ⟨w0,hw0⟩:∃ w0,w0=w.alloc (.cells #[.bool true,.int .i64 r,.slice co cn cc] 111):=⟨_,rfl⟩
 have hB0:Below w.heap.size w w0:=by rw [hw0];exact ext1 _
 obtain ⟨w1,hw1⟩:∃ w1,w1=w0.alloc (.cells (bs (zs 512)).toArray 263):=⟨_,rfl⟩
 have hB1:Below w.heap.size w w1:=by rw [hw1];exact gt hB0 (ext1 _)
 have N0:NB 111 w1 w.heap.size true r co cn cc:=by
  have:=NB.new 111 w true r co cn cc
  rw [←hw0]at this
  rw [hw1];exact this.keep (ext1 _)
 have P0:PB w1 w0.heap.size (zs 512):=by rw [hw1];exact PB.new w0
 have hsz:w0.heap.size=w.heap.size+1:=by rw [hw0];simp
 rw [hsz]at P0
 have cg:=hid (good_any true r co cn cc cs w1 (h.keep hB1) hcn)
 have cf:=hid (fun W (hb:Below w1.heap.size w1 W)=>fits_any true r co cn cc cs W ((h.keep hB1).keep hb) hf)
 have hG:goodN true r cs=true∧sizeN true cs≤512:=by simpa [hasN] using hyes
 rw [hG.1]at cg
 rw [show decide (sizeN true cs≤512)=true by simpa using hG.2]at cf
 have N1:=hid N0
 have P1:=hid P0
 have B1:=hid hB1
 have h':=hid h
 have hl':=hid h.len
 have al:=hid alloc60
 have b89:=hid build89
 have x89:=hid box89
 replace hw0:=hid hw0.symm
 replace hw1:=hid hw1.symm
 replace hsz:=hid hsz
 obtain ⟨Z,hZ⟩:∃ Z,Z=zs 512:=⟨_,rfl⟩
 rw [←hZ]at P0 P1 al hw1
 replace hZ:=hid hZ
 have hT5:=hid hG.2
 obtain ⟨T,hT⟩:∃ T,T=hd7 true cn r++allN true cs:=⟨_,rfl⟩
 have hTl:T.length=sizeN true cs:=by rw [hT,←h.len];exact raw_length _ _ _
 have hTp:pageN true r cs=padN T:=by rw [hT,←h.len];rfl
 rw [hTp]
 replace hT:=hid hT
 replace hTl:=hid hTl
 obtain ⟨M,hM⟩:∃ M:List Nat,M=putN (uN 1) 1 false:=⟨_,rfl⟩
 have hMl:Hid (M.length=1):=hid (by rw [hM];exact putN_length _ _ _)
 have hd7e:Hid (hd7 true cn r=M++putN (uN (cn:Int)) 2 false++putN (uN r) 4 false):=hid (by rw [hM];rfl)
 have n1:Hid (∀ q W,WB W q []→Calls Tryz.prog 231 #[.pointer (some ⟨q,0,none⟩),.int .i64 1,.int .i64 1] W fun e w'=>e=.returned (.tuple #[])∧WB w' q M∧W.grownBy w' (some q)):=hid (fun q W hw=>by rw [hM];exact wnum1 q [] 1 W hw (by simp))
 have n2:Hid (∀ q W,WB W q M→Calls Tryz.prog 231 #[.pointer (some ⟨q,0,none⟩),.int .i64 (cn:Int),.int .i64 2] W fun e w'=>e=.returned (.tuple #[])∧WB w' q (M++putN (uN (cn:Int)) 2 false)∧W.grownBy w' (some q)):=hid (fun q W hw=>wnum2 q M _ W hw (by rw [hMl.out];omega))
 have n4:Hid (∀ q W,WB W q (M++putN (uN (cn:Int)) 2 false)→Calls Tryz.prog 231 #[.pointer (some ⟨q,0,none⟩),.int .i64 r,.int .i64 4] W fun e w'=>e=.returned (.tuple #[])∧WB w' q (hd7 true cn r)∧W.grownBy w' (some q)):=hid (fun q W hw=>by rw [hd7e.out];exact wnum4 q _ r W hw (by rw [List.length_append,hMl.out,putN_length];omega))
 obtain ⟨u0,u1,u2⟩:=N0.cells
 have t1:Hid True:=hid trivial
 have t2:Hid True:=hid trivial
 have t3:Hid True:=hid trivial
 clear h hf hyes N0 P0 hB0 hB1 hG hM hTp
 go_enter Tryz.func174,Tryz.ntmps174
 go_wp2_with (first
  | ((with_reducible refine here_op 2 ?_);rw [hw0.out];refine wpList_alloc_run rfl 263 rfl _ _ (al.out _) ?_;rw [hw1.out,hsz.out])
  | (go_at_call 228;refine cg.out.mono ?_;rintro e w2 ⟨rfl,hb⟩;have B2:=hid hb;have N2:=hid (N1.out.keep hb);clear hb u0 u1 u2;obtain ⟨u0,u1,u2⟩:=N2.out.cells)
  | (go_at_call 143;refine (cf.out _ B2.out).mono ?_;rintro e wq ⟨rfl,hb⟩;have B3:=hid (gt B1.out (gt B2.out hb));have N3:=hid (N1.out.keep (gt B2.out hb));have P3:=hid (P1.out.keep (gt B2.out hb));have hwq:=hid (show w.heap.size+1<wq.heap.size from lt_of_block P3.out.2);clear hb u0 u1 u2)
  | ((with_reducible refine here_op 18 ?_);refine wpList_build_run rfl 320 rfl _ (b89.out _) ?_)
  | ((with_reducible refine here_op 19 ?_);refine wpList_box_run rfl 320 (.tmp 18) rfl _ _ rfl _ (x89.out _) ?_;obtain ⟨q,hq⟩:∃ q,q=wq.heap.size:=⟨_,rfl⟩;have W4:=hid (wb_new wq);have E4:=hid (show Below wq.heap.size wq (wq.alloc (.cells (wrow [] 0).toArray 320)) from ext1 _);rw [←hq]at W4 ⊢;generalize wq.alloc (.cells (wrow [] 0).toArray 320)=w4 at *;replace hq:=hid hq;obtain ⟨u0,u1,u2⟩:=(N3.out.keep E4.out).cells)
  | (go_at_call 231;clear t1;refine (n1.out q _ W4.out).mono ?_;rintro e w5 ⟨rfl,hw,hg⟩;have W5:=hid hw;have E5:=hid (below_grown E4.out hg (by rw [hq.out];exact Nat.le_refl _) (Nat.le_refl _));clear hw hg u0 u1 u2;obtain ⟨u0,u1,u2⟩:=(N3.out.keep E5.out).cells)
  | (go_at_call 231;clear t2;refine (n2.out q _ W5.out).mono ?_;rintro e w6 ⟨rfl,hw,hg⟩;have W6:=hid hw;have E6:=hid (below_grown E5.out hg (by rw [hq.out];exact Nat.le_refl _) (Nat.le_refl _));clear hw hg u0 u1 u2;obtain ⟨u0,u1,u2⟩:=(N3.out.keep E6.out).cells)
  | (go_at_call 231;clear t3;refine (n4.out q _ W6.out).mono ?_;rintro e w7 ⟨rfl,hw,hg⟩;have W7:=hid hw;have E7:=hid (below_grown E6.out hg (by rw [hq.out];exact Nat.le_refl _) (Nat.le_refl _));clear hw hg u0 u1 u2;obtain ⟨u0,u1,u2⟩:=(N3.out.keep E7.out).cells))
 clear cg cf n1 n2 n4 al b89 x89 hw0 hw1
 go_loopw [41] (fun c W=>∃ (i:Nat) (ys:List Nat),i≤cn∧c=.int .i64 (i:Int)∧ys++allN true (cs.drop i)=T∧WB W q ys∧Below wq.heap.size wq W) (fun c _=>cn - (intOf c).toNat)
 case atStart=>exact ⟨0,hd7 true cn r,by omega,rfl,hT.out.symm,W7.out,E7.out⟩
 case round=>
  obtain ⟨i,ys,hi,rfl,he,hW,hb⟩:=hrel
  have he':=hid he
  have hW':=hid hW
  have hb':=hid hb
  clear he hW hb u0 u1 u2
  by_cases hik:i<cn
  ·have B5:=hid (gt B3.out hb'.out)
   obtain ⟨b,off,rfl,hc⟩:=h'.out.at_ (by omega)
   have ha:=hid ((h'.out.keep B5.out).ok_at hik)
   have hap:=hid (h'.out.apart hik (q:=q) (by rw [hq.out];exact B3.out.size))
   obtain ⟨x0,x1,x2,x3,x4⟩:=(hc i hik).keep B5.out
   have hd:=dropC cs i (by have:=hl'.out;omega)
   generalize cs.getD i default=a at *
   rw [hd]at he'
   have hE:ys++oneN true a++allN true (cs.drop (i+1))=T:=by rw [List.append_assoc];exact he'.out
   have hfit:Hid (ys.length+(oneN true a).length≤512):=hid (by have h1:=congrArg List.length hE;have h2:=hTl.out;have h3:=hT5.out;simp only [List.length_append]at h1;omega)
   have hE':=hid hE
   clear hd he' hc hE
   go_wp2_with (go_at_call 230;refine (winleaf_any q ys a _ (hW'.out.keep (ext1 _)) (ha.out.keep (ext1 _)) hap.out hfit.out).mono ?_;rintro e w1 ⟨rfl,hw,hg⟩;have W1:=hid hw;have G1:=hid hg;clear hw hg)
   refine ⟨⟨i+1,_,by omega,by go_num,hE'.out,W1.out,?_⟩,by simp [intOf];omega⟩
   exact below_grown (gt hb'.out (ext1 _)) G1.out (by rw [hq.out];exact Nat.le_refl _) (Nat.le_refl _)
  ·obtain rfl:i=cn:=by omega
   have hE:=he'.out
   rw [List.drop_of_length_le (by have:=hl'.out;omega)]at hE
   simp only [allN,List.flatMap_nil,List.append_nil]at hE
   subst hE
   have ld:=hid hW'.out.load
   have hpl:=hid (padN_length ys hW'.out.1)
   have P5:=hid ((P3.out.under hb'.out hwq.out).store (y:=padN ys) hpl.out)
   go_wp2_with (first
    | ((with_reducible refine here_op 52 ?_);refine wpList_load_run rfl 263 (.tmp 51) rfl ⟨q,0,none⟩ rfl _ ld.out ?_)
    | ((with_reducible refine here_store 263 ?_);refine wpList_store_run rfl 263 (.tmp 2) (.tmp 52) rfl ⟨w.heap.size+1,0,none⟩ rfl _ rfl _ P5.out.1 ?_))
   (try simp only [Exit.inBlock,Exit.then])
   refine bodyPost_ret (ret_page rfl rfl P5.out.2) rfl ?_
   exact ⟨rfl,below_row (gt B3.out hb'.out) (by omega) _⟩
theorem written_false(r:Int)(co:Option Addr)(cn cc:Nat)(cs:List C)(w:World)(h:Cs w co cn cc cs)(hf:Few cs)(hyes:hasN false r cs=true) :
  Calls Tryz.prog 174 #[.agg #[.bool false,.int .i64 r,.slice co cn cc]] w fun e w'=>e=.returned (.tuple #[pgV (pageN false r cs),.bool true])∧Below w.heap.size w w':=by
 have hcn:cn≤100000:=by have:=h.len;have:=hf.1;omega
 obtain ⟨w0,hw0⟩:∃ w0,w0=w.alloc (.cells #[.bool false,.int .i64 r,.slice co cn cc] 111):=⟨_,rfl⟩
 have hB0:Below w.heap.size w w0:=by rw [hw0];exact ext1 _
 obtain ⟨w1,hw1⟩:∃ w1,w1=w0.alloc (.cells (bs (zs 512)).toArray 263):=⟨_,rfl⟩
 have hB1:Below w.heap.size w w1:=by rw [hw1];exact gt hB0 (ext1 _)
 have N0:NB 111 w1 w.heap.size false r co cn cc:=by
  have:=NB.new 111 w false r co cn cc
  rw [←hw0]at this
  rw [hw1];exact this.keep (ext1 _)
 have P0:PB w1 w0.heap.size (zs 512):=by rw [hw1];exact PB.new w0
 have hsz:w0.heap.size=w.heap.size+1:=by rw [hw0];simp
 rw [hsz]at P0
 have cg:=hid (good_any false r co cn cc cs w1 (h.keep hB1) hcn)
 have cf:=hid (fun W (hb:Below w1.heap.size w1 W)=>fits_any false r co cn cc cs W ((h.keep hB1).keep hb) hf)
 have hG:goodN false r cs=true∧sizeN false cs≤512:=by simpa [hasN] using hyes
 rw [hG.1]at cg
 rw [show decide (sizeN false cs≤512)=true by simpa using hG.2]at cf
 have N1:=hid N0
 have P1:=hid P0
 have B1:=hid hB1
 have h':=hid h
 have hl':=hid h.len
 have al:=hid alloc60
 have b89:=hid build89
 have x89:=hid box89
 replace hw0:=hid hw0.symm
 replace hw1:=hid hw1.symm
 replace hsz:=hid hsz
 obtain ⟨Z,hZ⟩:∃ Z,Z=zs 512:=⟨_,rfl⟩
 rw [←hZ]at P0 P1 al hw1
 replace hZ:=hid hZ
 have hT5:=hid hG.2
 obtain ⟨T,hT⟩:∃ T,T=hd7 false cn r++allN false cs:=⟨_,rfl⟩
 have hTl:T.length=sizeN false cs:=by rw [hT,←h.len];exact raw_length _ _ _
 have hTp:pageN false r cs=padN T:=by rw [hT,←h.len];rfl
 rw [hTp]
 replace hT:=hid hT
 replace hTl:=hid hTl
 obtain ⟨M,hM⟩:∃ M:List Nat,M=putN (uN 2) 1 false:=⟨_,rfl⟩
 have hMl:Hid (M.length=1):=hid (by rw [hM];exact putN_length _ _ _)
 have hd7e:Hid (hd7 false cn r=M++putN (uN (cn:Int)) 2 false++putN (uN r) 4 false):=hid (by rw [hM];rfl)
 have n1:Hid (∀ q W,WB W q []→Calls Tryz.prog 231 #[.pointer (some ⟨q,0,none⟩),.int .i64 2,.int .i64 1] W fun e w'=>e=.returned (.tuple #[])∧WB w' q M∧W.grownBy w' (some q)):=hid (fun q W hw=>by rw [hM];exact wnum1 q [] 2 W hw (by simp))
 have n2:Hid (∀ q W,WB W q M→Calls Tryz.prog 231 #[.pointer (some ⟨q,0,none⟩),.int .i64 (cn:Int),.int .i64 2] W fun e w'=>e=.returned (.tuple #[])∧WB w' q (M++putN (uN (cn:Int)) 2 false)∧W.grownBy w' (some q)):=hid (fun q W hw=>wnum2 q M _ W hw (by rw [hMl.out];omega))
 have n4:Hid (∀ q W,WB W q (M++putN (uN (cn:Int)) 2 false)→Calls Tryz.prog 231 #[.pointer (some ⟨q,0,none⟩),.int .i64 r,.int .i64 4] W fun e w'=>e=.returned (.tuple #[])∧WB w' q (hd7 false cn r)∧W.grownBy w' (some q)):=hid (fun q W hw=>by rw [hd7e.out];exact wnum4 q _ r W hw (by rw [List.length_append,hMl.out,putN_length];omega))
 obtain ⟨u0,u1,u2⟩:=N0.cells
 have t1:Hid True:=hid trivial
 have t2:Hid True:=hid trivial
 have t3:Hid True:=hid trivial
 clear h hf hyes N0 P0 hB0 hB1 hG hM hTp
 go_enter Tryz.func174,Tryz.ntmps174
 go_wp2_with (first
  | ((with_reducible refine here_op 2 ?_);rw [hw0.out];refine wpList_alloc_run rfl 263 rfl _ _ (al.out _) ?_;rw [hw1.out,hsz.out])
  | (go_at_call 228;refine cg.out.mono ?_;rintro e w2 ⟨rfl,hb⟩;have B2:=hid hb;have N2:=hid (N1.out.keep hb);clear hb u0 u1 u2;obtain ⟨u0,u1,u2⟩:=N2.out.cells)
  | (go_at_call 143;refine (cf.out _ B2.out).mono ?_;rintro e wq ⟨rfl,hb⟩;have B3:=hid (gt B1.out (gt B2.out hb));have N3:=hid (N1.out.keep (gt B2.out hb));have P3:=hid (P1.out.keep (gt B2.out hb));have hwq:=hid (show w.heap.size+1<wq.heap.size from lt_of_block P3.out.2);clear hb u0 u1 u2)
  | ((with_reducible refine here_op 18 ?_);refine wpList_build_run rfl 320 rfl _ (b89.out _) ?_)
  | ((with_reducible refine here_op 19 ?_);refine wpList_box_run rfl 320 (.tmp 18) rfl _ _ rfl _ (x89.out _) ?_;obtain ⟨q,hq⟩:∃ q,q=wq.heap.size:=⟨_,rfl⟩;have W4:=hid (wb_new wq);have E4:=hid (show Below wq.heap.size wq (wq.alloc (.cells (wrow [] 0).toArray 320)) from ext1 _);rw [←hq]at W4 ⊢;generalize wq.alloc (.cells (wrow [] 0).toArray 320)=w4 at *;replace hq:=hid hq;obtain ⟨u0,u1,u2⟩:=(N3.out.keep E4.out).cells)
  | (go_at_call 231;clear t1;refine (n1.out q _ W4.out).mono ?_;rintro e w5 ⟨rfl,hw,hg⟩;have W5:=hid hw;have E5:=hid (below_grown E4.out hg (by rw [hq.out];exact Nat.le_refl _) (Nat.le_refl _));clear hw hg u0 u1 u2;obtain ⟨u0,u1,u2⟩:=(N3.out.keep E5.out).cells)
  | (go_at_call 231;clear t2;refine (n2.out q _ W5.out).mono ?_;rintro e w6 ⟨rfl,hw,hg⟩;have W6:=hid hw;have E6:=hid (below_grown E5.out hg (by rw [hq.out];exact Nat.le_refl _) (Nat.le_refl _));clear hw hg u0 u1 u2;obtain ⟨u0,u1,u2⟩:=(N3.out.keep E6.out).cells)
  | (go_at_call 231;clear t3;refine (n4.out q _ W6.out).mono ?_;rintro e w7 ⟨rfl,hw,hg⟩;have W7:=hid hw;have E7:=hid (below_grown E6.out hg (by rw [hq.out];exact Nat.le_refl _) (Nat.le_refl _));clear hw hg u0 u1 u2;obtain ⟨u0,u1,u2⟩:=(N3.out.keep E7.out).cells))
 clear cg cf n1 n2 n4 al b89 x89 hw0 hw1
 go_loopw [41] (fun c W=>∃ (i:Nat) (ys:List Nat),i≤cn∧c=.int .i64 (i:Int)∧ys++allN false (cs.drop i)=T∧WB W q ys∧Below wq.heap.size wq W) (fun c _=>cn - (intOf c).toNat)
 case atStart=>exact ⟨0,hd7 false cn r,by omega,rfl,hT.out.symm,W7.out,E7.out⟩
 case round=>
  obtain ⟨i,ys,hi,rfl,he,hW,hb⟩:=hrel
  have he':=hid he
  have hW':=hid hW
  have hb':=hid hb
  clear he hW hb u0 u1 u2
  by_cases hik:i<cn
  ·have B5:=hid (gt B3.out hb'.out)
   obtain ⟨b,off,rfl,hc⟩:=h'.out.at_ (by omega)
   have ha:=hid ((h'.out.keep B5.out).ok_at hik)
   have hap:=hid (h'.out.apart hik (q:=q) (by rw [hq.out];exact B3.out.size))
   obtain ⟨x0,x1,x2,x3,x4⟩:=(hc i hik).keep B5.out
   have hd:=dropC cs i (by have:=hl'.out;omega)
   generalize cs.getD i default=a at *
   rw [hd]at he'
   have hE:ys++oneN false a++allN false (cs.drop (i+1))=T:=by rw [List.append_assoc];exact he'.out
   have hfit:Hid (ys.length+(oneN false a).length≤512):=hid (by have h1:=congrArg List.length hE;have h2:=hTl.out;have h3:=hT5.out;simp only [List.length_append]at h1;omega)
   have hE':=hid hE
   clear hd he' hc hE
   go_wp2_with (go_at_call 229;refine (wabove_any q ys a _ (hW'.out.keep (ext1 _)) ha.out.kI hfit.out).mono ?_;rintro e w1 ⟨rfl,hw,hg⟩;have W1:=hid hw;have G1:=hid hg;clear hw hg)
   refine ⟨⟨i+1,_,by omega,by go_num,hE'.out,W1.out,?_⟩,by simp [intOf];omega⟩
   exact below_grown (gt hb'.out (ext1 _)) G1.out (by rw [hq.out];exact Nat.le_refl _) (Nat.le_refl _)
  ·obtain rfl:i=cn:=by omega
   have hE:=he'.out
   rw [List.drop_of_length_le (by have:=hl'.out;omega)]at hE
   simp only [allN,List.flatMap_nil,List.append_nil]at hE
   subst hE
   have ld:=hid hW'.out.load
   have hpl:=hid (padN_length ys hW'.out.1)
   have P5:=hid ((P3.out.under hb'.out hwq.out).store (y:=padN ys) hpl.out)
   go_wp2_with (first
    | ((with_reducible refine here_op 52 ?_);refine wpList_load_run rfl 263 (.tmp 51) rfl ⟨q,0,none⟩ rfl _ ld.out ?_)
    | ((with_reducible refine here_store 263 ?_);refine wpList_store_run rfl 263 (.tmp 2) (.tmp 52) rfl ⟨w.heap.size+1,0,none⟩ rfl _ rfl _ P5.out.1 ?_))
   (try simp only [Exit.inBlock,Exit.then])
   refine bodyPost_ret (ret_page rfl rfl P5.out.2) rfl ?_
   exact ⟨rfl,below_row (gt B3.out hb'.out) (by omega) _⟩
end Cel
namespace Cel
open Go.RowKit
theorem written_yes(leaf:Bool)(r:Int)(co:Option Addr)(cn cc:Nat)(cs:List C)(w:World)(h:Cs w co cn cc cs)(hf:Few cs)(hyes:hasN leaf r cs=true) :
  Calls Tryz.prog 174 #[.agg #[.bool leaf,.int .i64 r,.slice co cn cc]] w fun e w'=>e=.returned (.tuple #[pgV (pageN leaf r cs),.bool true])∧Below w.heap.size w w':=by
 cases leaf
 ·exact written_false r co cn cc cs w h hf hyes
 ·exact written_true r co cn cc cs w h hf hyes
def wrN(leaf:Bool)(r:Int)(cs:List C):List Nat:=if hasN leaf r cs then pageN leaf r cs else zs 512
theorem wrN_length(leaf:Bool)(r:Int)(cs:List C):(wrN leaf r cs).length=512:=by
 unfold wrN
 split
 ·rename_i h
  exact pageN_length leaf r cs (by simp [hasN]at h;exact h.2)
 ·exact zs_length _
theorem written_any(leaf:Bool)(r:Int)(co:Option Addr)(cn cc:Nat)(cs:List C)(w:World)(h:Cs w co cn cc cs)(hf:Few cs) :
  Calls Tryz.prog 174 #[.agg #[.bool leaf,.int .i64 r,.slice co cn cc]] w fun e w'=>e=.returned (.tuple #[pgV (wrN leaf r cs),.bool (hasN leaf r cs)])∧Below w.heap.size w w':=by
 unfold wrN
 cases hy:hasN leaf r cs with
 | true=>simpa using written_yes leaf r co cn cc cs w h hf hy
 | false=>simpa using written_no leaf r co cn cc cs w h hf hy
theorem bytes_yes(leaf:Bool)(r:Int)(co:Option Addr)(cn cc:Nat)(cs:List C)(w:World)(h:Cs w co cn cc cs)(hf:Few cs)(hy:hasN leaf r cs=true) :
  Calls Tryz.prog 114 #[.agg #[.bool leaf,.int .i64 r,.slice co cn cc]] w fun e w'=>∃ g,e=.returned (.slice (some ⟨g,0,none⟩) 512 512)∧w.heap.size≤g∧Rd w' (some ⟨g,0,none⟩) 512 512 (pageN leaf r cs)∧Below w.heap.size w w':=by
 have B0:Hid (Below w.heap.size w (w.alloc (.cells #[.bool leaf,.int .i64 r,.slice co cn cc] 111))):=hid (ext1 _)
 have cw:=hid (written_yes leaf r co cn cc cs _ (h.keep B0.out) hf hy)
 have al:=hid alloc60
 have hl:(pageN leaf r cs).length=512:=pageN_length leaf r cs (by simp [hasN]at hy;exact hy.2)
 have st:Hid (∀ W:World,(storeVar 263 ⟨W.heap.size,0,none⟩ (pgV (pageN leaf r cs))).run Tryz.prog (W.alloc (.cells (bs (zs 512)).toArray 263))=.ok () ((W.alloc (.cells (bs (zs 512)).toArray 263)).setRow W.heap.size (bs (pageN leaf r cs)).toArray)∧PB ((W.alloc (.cells (bs (zs 512)).toArray 263)).setRow W.heap.size (bs (pageN leaf r cs)).toArray) W.heap.size (pageN leaf r cs)):=hid (fun W=>(PB.new W).store hl)
 generalize pageN leaf r cs=X at *
 obtain ⟨Z,hZ⟩:∃ Z,Z=zs 512:=⟨_,rfl⟩
 rw [←hZ]at st al
 clear h hf hy hZ hl
 go_enter Tryz.func114,Tryz.ntmps114
 go_wp2_with (first
  | (go_at_call 174;refine cw.out.mono ?_;rintro e w1 ⟨rfl,hb⟩;have B1:=hid (gt B0.out hb);clear hb)
  | ((with_reducible refine here_op 3 ?_);refine wpList_alloc_run rfl 263 rfl _ _ (al.out _) ?_)
  | ((with_reducible refine here_store 263 ?_);refine wpList_store_run rfl 263 (.tmp 3) (.tmp 8) rfl ⟨w1.heap.size,0,none⟩ rfl _ rfl _ (st.out _).1 ?_))
 go_ret
 exact ⟨w1.heap.size,rfl,B1.out.size,(st.out w1).2.rd,below_row (gt B1.out (ext1 _)) B1.out.size _⟩
end Cel
namespace Cel
open Go.RowKit
def SrcBad(W:World)(p:Nat):Prop:=∃ e:Int,e≠0∧W.heap[p]? = some (.cells #[.bool true,.slice none 0 0,.int .i64 e] 366 (0,0))
def Src(W:World)(p:Nat):Option (List Nat)→Prop
 | none=>SrcBad W p
 | some xs=>SrcAt W p xs∧∀ x∈xs,x<256
variable {o:Option (List Nat)} {p:Nat} {W W':World}
theorem Src.keep(h:Src W p o)(hb:Below W.heap.size W W'):Src W' p o:=by
 cases o with
 | none=>obtain ⟨e,he,hp⟩:=h;exact ⟨e,he,by rw [hb.block p (lt_of_block hp)];exact hp⟩
 | some xs=>exact ⟨h.1.keep hb,h.2⟩
theorem Src.lt(h:Src W p o):p<W.heap.size:=by
 cases o with
 | none=>obtain ⟨e,he,hp⟩:=h;exact lt_of_block hp
 | some xs=>obtain ⟨⟨b,off,n,cap,hp,_⟩,_⟩:=h;exact lt_of_block hp
theorem Src.block(h:Src W p o):∃ C,W.heap[p]? = some (.cells C 366 (0,0)):=by
 cases o with
 | none=>obtain ⟨e,he,hp⟩:=h;exact ⟨_,hp⟩
 | some xs=>obtain ⟨⟨b,off,n,cap,hp,_⟩,_⟩:=h;exact ⟨_,hp⟩
theorem Src.grown5(h:Src W p o)(hg:W.grownBy W' (some p)):Five W W':=by
 obtain ⟨C,hp⟩:=h.block
 exact five_grown hp (by decide) hg
theorem Src.five(h:Src W p o)(k:Five W W')(hp:W'.heap[p]? = W.heap[p]?):Src W' p o:=by
 cases o with
 | none=>obtain ⟨e,he,h1⟩:=h;exact ⟨e,he,hp.trans h1⟩
 | some xs=>
  obtain ⟨⟨b,off,n,cap,h1,hr,hn,h5⟩,hx⟩:=h
  exact ⟨⟨b,off,n,cap,hp.trans h1,hr.five (fun _ b' o' e=>by cases e;exact h5) k,hn,h5.five k⟩,hx⟩
def numO(s:Nat):Option (List Nat)→Nat×Option (List Nat)
 | none=>(0,none)
 | some xs=>if s≤xs.length then (psum xs s false s,some (xs.drop s)) else (0,none)
def varO(most:Nat):Option (List Nat)→Nat×Option (List Nat)
 | none=>(0,none)
 | some xs=>if (asm 0 8 xs).2=0∨(asm 0 8 xs).2≠szN (asm 0 8 xs).1∨most<(asm 0 8 xs).1 then (0,none) else ((asm 0 8 xs).1,some (xs.drop (asm 0 8 xs).2))
def bytesO(k:Nat):Option (List Nat)→List Nat×Option (List Nat)
 | none=>([],none)
 | some xs=>if k≤xs.length then (xs.take k,some (xs.drop k)) else ([],none)
variable {xs:List Nat}
theorem drop_by(h:∀ x∈xs,x<256)(k:Nat):∀ x∈xs.drop k,x<256:=fun x hx=>h x (List.mem_of_mem_drop hx)
theorem take_by(h:∀ x∈xs,x<256)(k:Nat):∀ x∈xs.take k,x<256:=fun x hx=>h x (List.mem_of_mem_take hx)
theorem err_bad(p:Nat)(W:World)(h:SrcBad W p):Calls Tryz.prog 242 #[.pointer (some ⟨p,0,none⟩)] W fun e w'=>(∃ z:Int,z≠0∧e=.returned (.int .i64 z))∧W=w':=by
 obtain ⟨z,hz,hp⟩:=h
 obtain ⟨s0,s1,s2,f1,f2⟩:=src_cells hp
 have hz':=hid hz
 clear hp hz
 go_enter Tryz.func242,Tryz.ntmps242
 go_wp2
 go_ret
 exact ⟨⟨z,hz'.out,rfl⟩,rfl⟩
theorem src_set2{a b c v:Value}(h:W.heap[p]? = some (.cells #[a,b,c] 366 (0,0))):(W.setCell ⟨p,2,none⟩ v).heap[p]? = some (.cells #[a,b,v] 366 (0,0)):=by
 rw [heap_setCell_same W p 2 _ 366 v h];simp
theorem fail_any(p:Nat)(xs:List Nat)(z:Int)(hz:z≠0)(W:World)(h:SrcAt W p xs):Calls Tryz.prog 292 #[.pointer (some ⟨p,0,none⟩),.int .i64 z] W fun e w'=>e=.returned (.tuple #[])∧SrcBad w' p∧W.grownBy w' (some p):=by
 obtain ⟨b,off,n,cap,hp,hr,hn,hne⟩:=h
 obtain ⟨s0,s1,s2,f1,f2⟩:=src_cells hp
 have hp':=hid hp
 have hz':=hid hz
 clear hp hr hn hne hz
 go_enter Tryz.func292,Tryz.ntmps292
 go_wp2
 go_end0
 exact ⟨rfl,⟨z,hz'.out,src_set (src_set2 hp'.out)⟩,grow_trans (grow_set _ _ _ _) (grow_set _ _ _ _)⟩
theorem num_k(p:Nat)(xs:List Nat)(s:Nat)(l:Bool)(W:World)(h:SrcAt W p xs)(hx:∀ x∈xs,x<256)(h1:1≤s)(h8:s≤8)(hs:s≤xs.length) :
  Calls Tryz.prog 235 #[.pointer (some ⟨p,0,none⟩),.int .i64 (s:Int),.bool l] W fun e w'=>e=.returned (.int .u64 (psum xs s l s:Nat))∧SrcAt w' p (xs.drop s)∧W.grownBy w' (some p):=by
 have c26:=hid (err_ok p xs W h)
 have c27:=hid (sized_any (s:Int))
 rw [show (decide ((1:Int)≤(s:Int))&&decide ((s:Int)≤8))=true by simp;omega]at c27
 have c28:=hid (gather_src p xs hx s l hs h8 (On W p xs) (fun k W' hS hk=>on_more W p xs k W' hS hk) W ⟨by simpa using h,World.grownBy.refl _ _⟩)
 obtain ⟨b,off,n,cap,hp,hr,hn,hne⟩:=h
 obtain ⟨s0,s1,s2,f1,f2⟩:=src_cells hp
 have hl:=hr.1
 have hn8:¬(n:Int)<(s:Int):=by omega
 generalize psum xs s l s=R at *
 clear hp hr hne hx hl h8 h1 hs
 go_enter Tryz.func235,Tryz.ntmps235
 go_wp2_with (first |(go_at_call 242;refine c26.out.mono ?_;rintro e w1 ⟨rfl,rfl⟩) |(go_at_call 293;refine (c27.out _).mono ?_;rintro e w2 ⟨rfl,hw2⟩;obtain rfl:=hw2.symm) |(go_at_call 294;refine c28.out.mono ?_;rintro e w3 ⟨rfl,hS⟩;replace hS:=hid hS))
 go_ret
 exact ⟨rfl,hS.out.1,hS.out.2⟩
theorem num_short(p:Nat)(xs:List Nat)(s:Nat)(l:Bool)(W:World)(h:SrcAt W p xs)(hs:xs.length<s) :
  Calls Tryz.prog 235 #[.pointer (some ⟨p,0,none⟩),.int .i64 (s:Int),.bool l] W fun e w'=>e=.returned (.int .u64 0)∧SrcBad w' p∧W.grownBy w' (some p):=by
 have c26:=hid (err_ok p xs W h)
 have cf:=hid (fail_any p xs 8 (by decide) W h)
 obtain ⟨b,off,n,cap,hp,hr,hn,hne⟩:=h
 obtain ⟨s0,s1,s2,f1,f2⟩:=src_cells hp
 have hl:=hr.1
 have hn8:(n:Int)<(s:Int):=by omega
 clear hp hr hne hl hs
 go_enter Tryz.func235,Tryz.ntmps235
 go_wp2_with (first |(go_at_call 242;refine c26.out.mono ?_;rintro e w1 ⟨rfl,rfl⟩) |(go_at_call 292;refine cf.out.mono ?_;rintro e w2 ⟨rfl,hS,hg⟩;replace hS:=hid hS;replace hg:=hid hg))
 go_ret
 exact ⟨rfl,hS.out,hg.out⟩
theorem num_bad(p:Nat)(s:Nat)(l:Bool)(W:World)(h:SrcBad W p) :
  Calls Tryz.prog 235 #[.pointer (some ⟨p,0,none⟩),.int .i64 (s:Int),.bool l] W fun e w'=>e=.returned (.int .u64 0)∧SrcBad w' p∧W.grownBy w' (some p):=by
 have c26:=hid (err_bad p W h)
 have h':=hid h
 clear h
 go_enter Tryz.func235,Tryz.ntmps235
 go_wp2_with (go_at_call 242;refine c26.out.mono ?_;rintro e w1 ⟨⟨z,hz,rfl⟩,rfl⟩;have hz2:(z == 0)=false:=(by simpa using hz);have hz3:(z != 0)=true:=(by simpa using hz);clear hz)
 go_ret
 exact ⟨rfl,h'.out,World.grownBy.refl _ _⟩
theorem num_src(p:Nat)(s:Nat)(o:Option (List Nat))(W:World)(h:Src W p o)(h1:1≤s)(h8:s≤8) :
  Calls Tryz.prog 235 #[.pointer (some ⟨p,0,none⟩),.int .i64 (s:Int),.bool false] W fun e w'=>e=.returned (.int .u64 ((numO s o).1:Nat))∧Src w' p (numO s o).2∧W.grownBy w' (some p):=by
 cases o with
 | none=>exact num_bad p s false W h
 | some xs=>
  by_cases hs:s≤xs.length
  ·simp only [numO,if_pos hs]
   exact (num_k p xs s false W h.1 h.2 h1 h8 hs).mono fun e w' ⟨a,b,c⟩=>⟨a,⟨b,drop_by h.2 s⟩,c⟩
  ·simp only [numO,if_neg hs]
   exact num_short p xs s false W h.1 (by omega)
theorem var_bad(p:Nat)(most:Nat)(W:World)(h:SrcBad W p) :
  Calls Tryz.prog 236 #[.pointer (some ⟨p,0,none⟩),.int .u64 (most:Int)] W fun e w'=>e=.returned (.int .u64 0)∧SrcBad w' p∧W.grownBy w' (some p):=by
 have c26:=hid (err_bad p W h)
 have h':=hid h
 clear h
 go_enter Tryz.func236,Tryz.ntmps236
 go_wp2_with (go_at_call 242;refine c26.out.mono ?_;rintro e w1 ⟨⟨z,hz,rfl⟩,rfl⟩;have hz2:(z == 0)=false:=(by simpa using hz);have hz3:(z != 0)=true:=(by simpa using hz);clear hz)
 go_ret
 exact ⟨rfl,h'.out,World.grownBy.refl _ _⟩
theorem var_wrong(p:Nat)(xs:List Nat)(most:Nat)(W:World)(h:SrcAt W p xs)(hx:∀ x∈xs,x<256)(hw:(asm 0 8 xs).2=0∨(asm 0 8 xs).2≠szN (asm 0 8 xs).1∨most<(asm 0 8 xs).1) :
  Calls Tryz.prog 236 #[.pointer (some ⟨p,0,none⟩),.int .u64 (most:Int)] W fun e w'=>e=.returned (.int .u64 0)∧SrcBad w' p∧W.grownBy w' (some p):=by
 have c26:=hid (err_ok p xs W h)
 have c30:=hid (asm_src p xs hx (On W p xs) (fun k W' hS hk=>on_more W p xs k W' hS hk) (fun W' hS=>on_end W p xs W' hS) W ⟨by simpa using h,World.grownBy.refl _ _⟩)
 have hb:=(asm_bound 8 0 xs hx (by omega) (by simp)).1
 have c16:=hid (size_any (asm 0 8 xs).1 hb)
 have cf8:=hid (fun W' ys (hS:SrcAt W' p ys)=>fail_any p ys 8 (by decide) W' hS)
 have cf9:=hid (fun W' ys (hS:SrcAt W' p ys)=>fail_any p ys 9 (by decide) W' hS)
 have cf11:=hid (fun W' ys (hS:SrcAt W' p ys)=>fail_any p ys 11 (by decide) W' hS)
 generalize asm 0 8 xs=R at *
 obtain ⟨v,k0⟩:=R
 simp only at *
 generalize szN v=z at *
 have hcs:k0=0∨(((k0:Int) == 0)=false∧((k0:Int) == (z:Int))=false)∨(((k0:Int) == 0)=false∧k0=z∧(most:Int)<(v:Int)):=by
  by_cases h1:k0=0
  ·exact Or.inl h1
  ·right
   by_cases h2:k0=z
   ·right;refine ⟨by simp;omega,h2,?_⟩;rcases hw with h |h |h<;>omega
   ·left;exact ⟨by simp;omega,by simp;omega⟩
 clear hw h hx
 rcases hcs with rfl | ⟨h1,h2⟩ | ⟨h1,rfl,h2⟩
 ·go_enter Tryz.func236,Tryz.ntmps236
  go_wp2_with (first |(go_at_call 242;refine c26.out.mono ?_;rintro e w1 ⟨rfl,rfl⟩) |(go_at_call 296;refine c30.out.mono ?_;rintro e w2 ⟨rfl,k,hS,_⟩;replace hS:=hid hS) |(go_at_call 292;refine (cf8.out _ _ hS.out.1).mono ?_;rintro e w4 ⟨rfl,hB,hg⟩;replace hB:=hid hB;replace hg:=hid hg))
  go_ret
  exact ⟨rfl,hB.out,grow_trans hS.out.2 hg.out⟩
 ·go_enter Tryz.func236,Tryz.ntmps236
  go_wp2_with (first |(go_at_call 242;refine c26.out.mono ?_;rintro e w1 ⟨rfl,rfl⟩) |(go_at_call 296;refine c30.out.mono ?_;rintro e w2 ⟨rfl,k,hS,hk⟩;replace hS:=hid hS;clear hk) |(go_at_call 263;refine (c16.out _).mono ?_;rintro e w3 ⟨rfl,hw3⟩;obtain rfl:=hw3.symm) |(go_at_call 292;refine (cf9.out _ _ hS.out.1).mono ?_;rintro e w4 ⟨rfl,hB,hg⟩;replace hB:=hid hB;replace hg:=hid hg))
  go_ret
  exact ⟨rfl,hB.out,grow_trans hS.out.2 hg.out⟩
 ·go_enter Tryz.func236,Tryz.ntmps236
  go_wp2_with (first |(go_at_call 242;refine c26.out.mono ?_;rintro e w1 ⟨rfl,rfl⟩) |(go_at_call 296;refine c30.out.mono ?_;rintro e w2 ⟨rfl,k,hS,hk⟩;replace hS:=hid hS;clear hk) |(go_at_call 263;refine (c16.out _).mono ?_;rintro e w3 ⟨rfl,hw3⟩;obtain rfl:=hw3.symm) |(go_at_call 292;refine (cf11.out _ _ hS.out.1).mono ?_;rintro e w4 ⟨rfl,hB,hg⟩;replace hB:=hid hB;replace hg:=hid hg))
  go_ret
  exact ⟨rfl,hB.out,grow_trans hS.out.2 hg.out⟩
theorem var_src(p:Nat)(most:Nat)(o:Option (List Nat))(W:World)(h:Src W p o) :
  Calls Tryz.prog 236 #[.pointer (some ⟨p,0,none⟩),.int .u64 (most:Int)] W fun e w'=>e=.returned (.int .u64 ((varO most o).1:Nat))∧Src w' p (varO most o).2∧W.grownBy w' (some p):=by
 cases o with
 | none=>exact var_bad p most W h
 | some xs=>
  by_cases hw:(asm 0 8 xs).2=0∨(asm 0 8 xs).2≠szN (asm 0 8 xs).1∨most<(asm 0 8 xs).1
  ·simp only [varO,if_pos hw]
   exact var_wrong p xs most W h.1 h.2 hw
  ·simp only [varO,if_neg hw]
   have e1:asm 0 8 xs=((asm 0 8 xs).1,szN (asm 0 8 xs).1):=by
    have:(asm 0 8 xs).2=szN (asm 0 8 xs).1:=by omega
    rw [←this]
   have e2:(asm 0 8 xs).2=szN (asm 0 8 xs).1:=by omega
   rw [e2]
   exact (var_ok p xs _ most W h.1 h.2 e1 (by omega)).mono fun e w' ⟨a,b,c⟩=>⟨a,⟨b,drop_by h.2 _⟩,c⟩
theorem bytes_bad(p:Nat)(k:Nat)(W:World)(h:SrcBad W p) :
  Calls Tryz.prog 237 #[.pointer (some ⟨p,0,none⟩),.int .i64 (k:Int)] W fun e w'=>e=.returned (.slice none 0 0)∧SrcBad w' p∧W.grownBy w' (some p):=by
 have c26:=hid (err_bad p W h)
 have h':=hid h
 clear h
 go_enter Tryz.func237,Tryz.ntmps237
 go_wp2_with (go_at_call 242;refine c26.out.mono ?_;rintro e w1 ⟨⟨z,hz,rfl⟩,rfl⟩;have hz2:(z == 0)=false:=(by simpa using hz);have hz3:(z != 0)=true:=(by simpa using hz);clear hz)
 go_ret
 exact ⟨rfl,h'.out,World.grownBy.refl _ _⟩
theorem bytes_short(p:Nat)(xs:List Nat)(k:Nat)(W:World)(h:SrcAt W p xs)(hs:xs.length<k) :
  Calls Tryz.prog 237 #[.pointer (some ⟨p,0,none⟩),.int .i64 (k:Int)] W fun e w'=>e=.returned (.slice none 0 0)∧SrcBad w' p∧W.grownBy w' (some p):=by
 have c26:=hid (err_ok p xs W h)
 have cf:=hid (fail_any p xs 8 (by decide) W h)
 obtain ⟨b,off,n,cap,hp,hr,hn,hne⟩:=h
 obtain ⟨s0,s1,s2,f1,f2⟩:=src_cells hp
 have hl:=hr.1
 have hn8:(n:Int)<(k:Int):=by omega
 clear hp hr hne hl hs
 go_enter Tryz.func237,Tryz.ntmps237
 go_wp2_with (first |(go_at_call 242;refine c26.out.mono ?_;rintro e w1 ⟨rfl,rfl⟩) |(go_at_call 292;refine cf.out.mono ?_;rintro e w2 ⟨rfl,hS,hg⟩;replace hS:=hid hS;replace hg:=hid hg))
 go_ret
 exact ⟨rfl,hS.out,hg.out⟩
theorem bytes_src(p:Nat)(k:Nat)(o:Option (List Nat))(W:World)(h:Src W p o)(hk:k≤1000) :
  Calls Tryz.prog 237 #[.pointer (some ⟨p,0,none⟩),.int .i64 (k:Int)] W fun e w'=>∃ ao n c,e=.returned (.slice ao n c)∧Rd w' ao n c (bytesO k o).1∧(∀ x∈(bytesO k o).1,x<256)∧(0<n→∀ b o,ao=some ⟨b,o,none⟩→T5 w' b)∧Src w' p (bytesO k o).2∧W.grownBy w' (some p)∧(0<n→∀ b o,ao=some ⟨b,o,none⟩→W.heap.size≤b):=by
 cases o with
 | none=>exact (bytes_bad p k W h).mono fun e w' ⟨a,b,c⟩=>⟨none,0,0,a,Rd.nil _,by simp [bytesO],fun h=>by omega,b,c,fun h=>by omega⟩
 | some xs=>
  by_cases hs:k≤xs.length
  ·simp only [bytesO,if_pos hs]
   exact (bytes_ok p xs k W h.1 hs hk).mono fun e w' ⟨ao,c,a,b,d,g,t,n⟩=>⟨ao,k,c,a,b,take_by h.2 k,fun _=>t,⟨d,drop_by h.2 k⟩,g,fun _=>n⟩
  ·simp only [bytesO,if_neg hs]
   exact (bytes_short p xs k W h.1 (by omega)).mono fun e w' ⟨a,b,c⟩=>⟨none,0,0,a,Rd.nil _,by simp,fun h=>by omega,b,c,fun h=>by omega⟩
theorem err_src(p:Nat)(o:Option (List Nat))(W:World)(h:Src W p o):Calls Tryz.prog 242 #[.pointer (some ⟨p,0,none⟩)] W fun e w'=>(∃ z:Int,(z=0↔o.isSome=true)∧e=.returned (.int .i64 z))∧W=w':=by
 cases o with
 | none=>exact (err_bad p W h).mono fun e w' ⟨⟨z,hz,a⟩,b⟩=>⟨⟨z,by simp [hz],a⟩,b⟩
 | some xs=>exact (err_ok p xs W h.1).mono fun e w' ⟨a,b⟩=>⟨⟨0,by simp,a⟩,b⟩
theorem byte_src(p:Nat)(o:Option (List Nat))(W:World)(h:Src W p o) :
  Calls Tryz.prog 238 #[.pointer (some ⟨p,0,none⟩)] W fun e w'=>e=.returned (.int .u8 ((((numO 1 o).1 % 256:Nat)):Int))∧Src w' p (numO 1 o).2∧W.grownBy w' (some p):=by
 have c:=hid (num_src p 1 o W h (by omega) (by omega))
 generalize numO 1 o=R at *
 obtain ⟨v,o'⟩:=R
 simp only at *
 have hw:IntKind.u8.wrap (v:Int)=((v % 256:Nat):Int):=by rw [IntKind.wrap_u8];omega
 clear h
 go_enter Tryz.func238,Tryz.ntmps238
 go_wp2_with (go_at_call 235;refine c.out.mono ?_;rintro e w1 ⟨rfl,hS,hg⟩;replace hS:=hid hS;replace hg:=hid hg)
 go_ret
 exact ⟨by simp,hS.out,hg.out⟩
end Cel
end Go.Proofs.YtfcikkechphmaaaGreatDoor
