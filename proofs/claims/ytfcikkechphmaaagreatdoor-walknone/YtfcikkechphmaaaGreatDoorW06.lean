/- What the reader's link, key and above do; no statement of the seat is proved here. -/
import Derived.Test.YtfcikkechphmaaaGreatDoorW05
import Derived.Test.YtfcikkechphmaaaGreatDoorW04
import Derived.Laws.EntriesVeiled
import Derived.Deep.DeepCutAuto
import Derived.Laws.Rows
set_option maxHeartbeats 16000000
set_option maxRecDepth 20000
namespace Go.Proofs.YtfcikkechphmaaaGreatDoor
namespace Cel
open Go.RowKit
def RX(W:World)(q p:Nat):Prop:=W.heap[q]? = some (.cells #[.func (.func 235) #[.pointer (some ⟨p,0,none⟩)] #[],.func (.func 236) #[.pointer (some ⟨p,0,none⟩)] #[],.func (.func 237) #[.pointer (some ⟨p,0,none⟩)] #[]] 328 (0,0))
abbrev S3(q p:Nat)(W:World):Prop:=W.cell? ⟨q,0,none⟩=some (.func (.func 235) #[.pointer (some ⟨p,0,none⟩)] #[])∧W.cell? ⟨q,1,none⟩=some (.func (.func 236) #[.pointer (some ⟨p,0,none⟩)] #[])∧W.cell? ⟨q,2,none⟩=some (.func (.func 237) #[.pointer (some ⟨p,0,none⟩)] #[])
variable {q p:Nat} {W:World}
theorem RX.cells(h:RX W q p):S3 q p W:=by
 unfold RX at h
 simp [S3,World.cell?,h]
theorem RX.lt(h:RX W q p):q<W.heap.size:=lt_of_block h
variable {W':World}
theorem RX.keep(h:RX W q p)(hb:Below W.heap.size W W'):RX W' q p:=by
 unfold RX;rw [hb.block q h.lt];exact h
theorem RX.grown(h:RX W q p)(hg:W.grownBy W' (some p))(hne:q≠p):RX W' q p:=by
 unfold RX;rw [hg.block q h.lt (by simpa using hne)];exact h
theorem RX.new(W:World)(p:Nat):RX (W.alloc (.cells #[.func (.func 235) #[.pointer (some ⟨p,0,none⟩)] #[],.func (.func 236) #[.pointer (some ⟨p,0,none⟩)] #[],.func (.func 237) #[.pointer (some ⟨p,0,none⟩)] #[]] 328)) W.heap.size p:=heap_alloc_new W _
theorem psum_bound(xs:List Nat)(s:Nat)(hx:∀ x∈xs,x<256)(hs:s≤xs.length):psum xs s false s<2 ^ (8*s):=by
 obtain ⟨q,h1,h2⟩:=psum_big xs s hx hs s (Nat.le_refl _)
 rw [h2];simpa using h1
theorem numO_lt{o:Option (List Nat)}(h:Src W p o)(s:Nat):(numO s o).1<2 ^ (8*s):=by
 cases o with
 | none=>exact Nat.pow_pos (by omega)
 | some xs=>
  simp only [numO]
  split
  ·rename_i hs;exact psum_bound xs s h.2 hs
  ·exact Nat.pow_pos (by omega)
theorem varO_lt{o:Option (List Nat)}(h:Src W p o)(most:Nat):(varO most o).1<18446744073709551616∧(varO most o).1≤most:=by
 cases o with
 | none=>exact ⟨by simp [varO],by simp [varO]⟩
 | some xs=>
  have hb:=(asm_bound 8 0 xs h.2 (by omega) (by simp)).1
  simp only [varO]
  split
  ·exact ⟨by simp,by simp⟩
  ·exact ⟨hb,by simp only;omega⟩
theorem link_src(p:Nat)(o:Option (List Nat))(W:World)(h:Src W p o) :
  Calls Tryz.prog 241 #[.agg #[.func (.func 235) #[.pointer (some ⟨p,0,none⟩)] #[],.func (.func 236) #[.pointer (some ⟨p,0,none⟩)] #[],.func (.func 237) #[.pointer (some ⟨p,0,none⟩)] #[]]] W fun e w'=>e=.returned (.int .i64 ((numO 4 o).1:Nat))∧Src w' p (numO 4 o).2∧W.grownBy w' (some p):=by
 have B0:Hid (Below W.heap.size W (W.alloc (.cells #[.func (.func 235) #[.pointer (some ⟨p,0,none⟩)] #[],.func (.func 236) #[.pointer (some ⟨p,0,none⟩)] #[],.func (.func 237) #[.pointer (some ⟨p,0,none⟩)] #[]] 328))):=hid (ext1 _)
 have c:=hid (num_src p 4 o _ (h.keep B0.out) (by omega) (by omega))
 have hlt:=numO_lt h 4
 generalize numO 4 o=R at *
 obtain ⟨v,o'⟩:=R
 simp only [Nat.reduceMul,Nat.reducePow]at *
 clear h
 go_enter Tryz.func241,Tryz.ntmps241
 go_wp2_with (go_at_call 235;refine c.out.mono ?_;rintro e w1 ⟨rfl,hS,hg⟩;replace hS:=hid hS;replace hg:=hid hg)
 go_ret
 exact ⟨rfl,hS.out,grow_trans (grow_below B0.out) hg.out⟩
theorem key_src(p:Nat)(o:Option (List Nat))(W:World)(h:Src W p o) :
  Calls Tryz.prog 297 #[.agg #[.func (.func 235) #[.pointer (some ⟨p,0,none⟩)] #[],.func (.func 236) #[.pointer (some ⟨p,0,none⟩)] #[],.func (.func 237) #[.pointer (some ⟨p,0,none⟩)] #[]]] W fun e w'=>e=.returned (.int .i64 (zagN (varO 18446744073709551615 o).1))∧Src w' p (varO 18446744073709551615 o).2∧W.grownBy w' (some p):=by
 have B0:Hid (Below W.heap.size W (W.alloc (.cells #[.func (.func 235) #[.pointer (some ⟨p,0,none⟩)] #[],.func (.func 236) #[.pointer (some ⟨p,0,none⟩)] #[],.func (.func 237) #[.pointer (some ⟨p,0,none⟩)] #[]] 328))):=hid (ext1 _)
 have c:=hid (var_src p 18446744073709551615 o _ (h.keep B0.out))
 have hlt:=(varO_lt h 18446744073709551615).1
 generalize varO 18446744073709551615 o=R at *
 obtain ⟨v,o'⟩:=R
 simp only at *
 have cz:=hid (zag_any v hlt)
 generalize zagN v=z at *
 clear h hlt
 go_enter Tryz.func297,Tryz.ntmps297
 go_wp2_with (first |(go_at_call 236;refine c.out.mono ?_;rintro e w1 ⟨rfl,hS,hg⟩;replace hS:=hid hS;replace hg:=hid hg) |(go_at_call 326;refine (cz.out _).mono ?_;rintro e w2 ⟨rfl,hw⟩;obtain rfl:=hw.symm))
 go_ret
 exact ⟨rfl,hS.out,grow_trans (grow_below B0.out) hg.out⟩
def CB(W:World)(t:Nat)(k c l:Int)(o:Option Addr)(n m:Nat)(x:Int):Prop:=W.heap[t]? = some (.cells #[.int .i64 k,.int .i64 c,.int .i64 l,.slice o n m,.int .i64 x] 144 (0,0))
section
variable {W W':World} {t:Nat} {k c l x:Int} {o:Option Addr} {n m:Nat}
theorem CB.cells(h:CB W t k c l o n m x):W.cell? ⟨t,0,none⟩=some (.int .i64 k)∧W.cell? ⟨t,1,none⟩=some (.int .i64 c)∧W.cell? ⟨t,2,none⟩=some (.int .i64 l)∧W.cell? ⟨t,3,none⟩=some (.slice o n m)∧W.cell? ⟨t,4,none⟩=some (.int .i64 x):=by
 unfold CB at h
 simp [World.cell?,h]
theorem CB.fz(h:CB W t k c l o n m x)(i:Nat):W.frozen? ⟨t,i,none⟩=false:=by
 unfold CB at h
 simp [World.frozen?,h]
theorem CB.lt(h:CB W t k c l o n m x):t<W.heap.size:=lt_of_block h
theorem CB.keep(h:CB W t k c l o n m x)(hb:Below W.heap.size W W'):CB W' t k c l o n m x:=by
 unfold CB;rw [hb.block t h.lt];exact h
theorem CB.grown{p:Nat}(h:CB W t k c l o n m x)(hg:W.grownBy W' (some p))(hne:t≠p):CB W' t k c l o n m x:=by
 unfold CB;rw [hg.block t h.lt (by simpa using hne)];exact h
theorem CB.new(W:World)(k c l:Int)(o:Option Addr)(n m:Nat)(x:Int):CB (W.alloc (.cells #[.int .i64 k,.int .i64 c,.int .i64 l,.slice o n m,.int .i64 x] 144)) W.heap.size k c l o n m x:=heap_alloc_new W _
theorem CB.set3(h:CB W t k c l o n m x)(o':Option Addr)(n' m':Nat):CB (W.setCell ⟨t,3,none⟩ (.slice o' n' m')) t k c l o' n' m' x:=by
 have h1:=heap_setCell_same W t 3 _ 144 (.slice o' n' m') h
 unfold CB
 rw [h1];simp
theorem CB.set4(h:CB W t k c l o n m x)(x':Int):CB (W.setCell ⟨t,4,none⟩ (.int .i64 x')) t k c l o n m x':=by
 have h1:=heap_setCell_same W t 4 _ 144 (.int .i64 x') h
 unfold CB
 rw [h1];simp
end
variable {u:Value} {t i:Nat} {w:World}
theorem grow1(h:w.grownBy W (some p))(ht:w.heap.size≤t):w.grownBy (W.setCell ⟨t,i,none⟩ u) (some p):=
 ⟨h.os,h.tape,h.output,by simpa using h.size,fun k hk hne=>by
  rw [heap_setCell_other _ _ k _ (by simp;omega)]
  exact h.block k hk hne⟩
variable {z:Option (List Nat)} {n m:Nat} {o:Option Addr} {k c l x:Int}
theorem CB.src(h:CB W t k c l o n m x)(hs:Src W p z):Src (W.setCell ⟨t,i,none⟩ u) p z:=by
 refine hs.five (five_set h (by decide)) (heap_setCell_other _ _ p _ ?_)
 obtain ⟨C,hp⟩:=hs.block
 intro e
 simp only at e
 subst e
 unfold CB at h
 rw [hp]at h
 simp only [Option.some.injEq,Obj.cells.injEq]at h
 exact absurd h.2.1 (by decide)
theorem CB.five(h:CB W t k c l o n m x):Five W (W.setCell ⟨t,i,none⟩ u):=five_set h (by decide)
theorem CB.set0(h:CB W t k c l o n m x)(k':Int):CB (W.setCell ⟨t,0,none⟩ (.int .i64 k')) t k' c l o n m x:=by
 have h1:=heap_setCell_same W t 0 _ 144 (.int .i64 k') h
 unfold CB
 rw [h1];simp
theorem CB.set1(h:CB W t k c l o n m x)(c':Int):CB (W.setCell ⟨t,1,none⟩ (.int .i64 c')) t k c' l o n m x:=by
 have h1:=heap_setCell_same W t 1 _ 144 (.int .i64 c') h
 unfold CB
 rw [h1];simp
theorem CB.set2(h:CB W t k c l o n m x)(l':Int):CB (W.setCell ⟨t,2,none⟩ (.int .i64 l')) t k c l' o n m x:=by
 have h1:=heap_setCell_same W t 2 _ 144 (.int .i64 l') h
 unfold CB
 rw [h1];simp
theorem CB.all(h:CB W t k c l o n m x)(hs:Src W p z)(hg:w.grownBy W (some p))(ht:w.heap.size≤t)(k' c' l':Int)(o':Option Addr)(n' m':Nat)(x':Int) :
  CB (((((W.setCell ⟨t,0,none⟩ (.int .i64 k')).setCell ⟨t,1,none⟩ (.int .i64 c')).setCell ⟨t,2,none⟩ (.int .i64 l')).setCell ⟨t,3,none⟩ (.slice o' n' m')).setCell ⟨t,4,none⟩ (.int .i64 x')) t k' c' l' o' n' m' x' ∧
  Src (((((W.setCell ⟨t,0,none⟩ (.int .i64 k')).setCell ⟨t,1,none⟩ (.int .i64 c')).setCell ⟨t,2,none⟩ (.int .i64 l')).setCell ⟨t,3,none⟩ (.slice o' n' m')).setCell ⟨t,4,none⟩ (.int .i64 x')) p z ∧
  w.grownBy (((((W.setCell ⟨t,0,none⟩ (.int .i64 k')).setCell ⟨t,1,none⟩ (.int .i64 c')).setCell ⟨t,2,none⟩ (.int .i64 l')).setCell ⟨t,3,none⟩ (.slice o' n' m')).setCell ⟨t,4,none⟩ (.int .i64 x')) (some p) ∧
  Five W (((((W.setCell ⟨t,0,none⟩ (.int .i64 k')).setCell ⟨t,1,none⟩ (.int .i64 c')).setCell ⟨t,2,none⟩ (.int .i64 l')).setCell ⟨t,3,none⟩ (.slice o' n' m')).setCell ⟨t,4,none⟩ (.int .i64 x')):=by
 have h1:=h.set0 k'
 have h2:=h1.set1 c'
 have h3:=h2.set2 l'
 have h4:=h3.set3 o' n' m'
 have h5:=h4.set4 x'
 exact ⟨h5,h4.src (h3.src (h2.src (h1.src (h.src hs)))),grow1 (grow1 (grow1 (grow1 (grow1 hg ht) ht) ht) ht) ht,(((h.five.trans h1.five).trans h2.five).trans h3.five).trans h4.five⟩
theorem ret_cell{fn:Func}{a:Tmp}(h:fn.results = #[.cell a 144]){tmps:Array Value}{W:World}{q:Nat}{k c l x:Int}{o:Option Addr}{n m:Nat}
  (hp:tmps.getD a undef=.pointer (some ⟨q,0,none⟩)) (hb:CB W q k c l o n m x):(results fn tmps).run Tryz.prog W=.ok (.agg #[.int .i64 k,.int .i64 c,.int .i64 l,.slice o n m,.int .i64 x]) W:=by
 have hu:∃ fs,Tryz.prog.underlying 144=some (.struct fs):=by
  have:(match Tryz.prog.underlying 144 with |some (.struct _)=>true |_=>false)=true:=by kernel_rfl
  cases hd:Tryz.prog.underlying 144 with
  | none=>rw [hd]at this;cases this
  | some d=>rw [hd]at this;cases d<;>simp at this ⊢
 obtain ⟨fs,hu⟩:=hu
 exact results_cell_row h tmps W q 144 _ (0,0) _ hp hb hu rfl (by kernel_rfl)
theorem S3.grown(h:S3 q p W)(hg:W.grownBy W' (some p))(hne:q≠p):S3 q p W':=⟨grow_cell hg h.1 hne,grow_cell hg h.2.1 hne,grow_cell hg h.2.2 hne⟩
def rdA(o:Option (List Nat)):C×Option (List Nat):=(⟨zagN (varO 18446744073709551615 (numO 4 o).2).1,((numO 4 o).1:Nat),0,none,0,0,0,[]⟩,(varO 18446744073709551615 (numO 4 o).2).2)
theorem above_src(p:Nat)(o:Option (List Nat))(W:World)(h:Src W p o) :
  Calls Tryz.prog 239 #[.agg #[.func (.func 235) #[.pointer (some ⟨p,0,none⟩)] #[],.func (.func 236) #[.pointer (some ⟨p,0,none⟩)] #[],.func (.func 237) #[.pointer (some ⟨p,0,none⟩)] #[]]] W fun e w'=>e=.returned (.agg #[.int .i64 (rdA o).1.k,.int .i64 (rdA o).1.c,.int .i64 0,.slice none 0 0,.int .i64 0])∧Src w' p (rdA o).2∧W.grownBy w' (some p):=by
 obtain ⟨W2,hW2⟩:∃ W2,W2=((W.alloc (.cells #[.func (.func 235) #[.pointer (some ⟨p,0,none⟩)] #[],.func (.func 236) #[.pointer (some ⟨p,0,none⟩)] #[],.func (.func 237) #[.pointer (some ⟨p,0,none⟩)] #[]] 328)).alloc (.cells #[.int .i64 0,.int .i64 0,.int .i64 0,.slice none 0 0,.int .i64 0] 144)).drew:=⟨_,rfl⟩
 have B2:Below W.heap.size W W2:=by rw [hW2];exact (gt (ext1 _) (ext1 _)).drew
 have hpl:=h.lt
 have R2:RX W2 W.heap.size p:=by rw [hW2];exact ((RX.new W p).keep (ext1 _)).keep (Below.refl _ _).drew
 have C2:CB W2 (W.heap.size+1) 0 0 0 none 0 0 0:=by
  have:=CB.new (W.alloc (.cells #[.func (.func 235) #[.pointer (some ⟨p,0,none⟩)] #[],.func (.func 236) #[.pointer (some ⟨p,0,none⟩)] #[],.func (.func 237) #[.pointer (some ⟨p,0,none⟩)] #[]] 328)) 0 0 0 none 0 0 0
  rw [show (W.alloc (.cells #[.func (.func 235) #[.pointer (some ⟨p,0,none⟩)] #[],.func (.func 236) #[.pointer (some ⟨p,0,none⟩)] #[],.func (.func 237) #[.pointer (some ⟨p,0,none⟩)] #[]] 328)).heap.size=W.heap.size+1 by simp]at this
  rw [hW2];exact this.keep (Below.refl _ _).drew
 have cl:=hid (link_src p o W2 (h.keep B2))
 have ck:=hid (fun w1 (hs:Src w1 p (numO 4 o).2)=>key_src p (numO 4 o).2 w1 hs)
 unfold rdA
 generalize varO 18446744073709551615 (numO 4 o).2=R2' at *
 obtain ⟨u,o2⟩:=R2'
 generalize numO 4 o=R1 at *
 obtain ⟨v,o1⟩:=R1
 simp only at *
 generalize zagN u=z at *
 have g1:=R2.cells
 have hne:=hid (show W.heap.size≠p by omega)
 have hne2:=hid (show W.heap.size+1≠p by omega)
 have B2':=hid B2;have C2':=hid C2
 replace hW2:=hid hW2.symm
 clear h R2 B2 C2 hpl
 go_enter Tryz.func239,Tryz.ntmps239
 go_upto_region 1 with fail
 refine wp_region_K (S:=S3 W.heap.size p) (fun i=>i == 5) (by kernel_rfl) (hW2.out▸g1) (fun hHeld=>?_)
 rw [hW2.out]at hHeld ⊢
 refine gkt 0 ?_ (h:=by intro W hSw;obtain ⟨y0,y1,y2⟩:=hSw;go_simp;first |done |with_reducible rfl)
 refine gkt 2 ?_ (h:=by intro W hSw;obtain ⟨y0,y1,y2⟩:=hSw;go_simp;first |done |with_reducible rfl)
 refine gk1 1 (fun K hK=>?_)
 go_simp
 go_at_call 241;refine cl.out.mono ?_;rintro e w1 ⟨rfl,hs,hg⟩;have hR:S3 W.heap.size p w1:=S3.grown hHeld hg hne.out;have S1:=hid hs;have G1:=hid hg;clear hs hg
 refine hK.out _ _ hR (fun hHeld=>?_)
 clear hK K
 (try simp only [Act.put,sA,sZ,sS])
 refine gk1 3 (fun K hK=>?_)
 go_simp
 go_at_call 297;refine (ck.out _ S1.out).mono ?_;rintro e w2 ⟨rfl,hs,hg⟩;have hR:S3 W.heap.size p w2:=S3.grown hHeld hg hne.out;have SA:=hid hs;have CA:=hid ((C2'.out.grown G1.out hne2.out).grown hg hne2.out);have GA:=hid (grow_trans (grow_trans (grow_below B2'.out) G1.out) hg);obtain ⟨y0,y1,y2,y3,y4⟩:=CA.out.cells;have f0:=CA.out.fz 0;have f1:=CA.out.fz 1;have f2:=CA.out.fz 2;have f3:=CA.out.fz 3;have f4:=CA.out.fz 4;clear hs hg
 refine hK.out _ _ hR (fun hHeld=>?_)
 clear hK K
 (try simp only [Act.put,sA,sZ,sS])
 refine gkp 4 ?_
 refine gkl 5 (fun K hK=>?_)
 go_simp
 refine hK.out _ _ ?_
 clear hK K
 (try simp only [Act.put,sA,sZ,sS])
 refine wpAnyK_done (by kernel_rfl) ?_ _
 go_wp2
 (try simp only [Exit.inBlock,Exit.then])
 obtain ⟨e1,e2,e3,_⟩:=CA.out.all SA.out GA.out (by omega) z (v:Int) 0 none 0 0 0
 refine bodyPost_ret (ret_cell rfl rfl e1) rfl ?_
 exact ⟨rfl,e2,e3⟩
end Cel
namespace Cel
open Go.RowKit
def rl1(o:Option (List Nat)):Nat×Option (List Nat):=varO 18446744073709551615 o
def rl2(o:Option (List Nat)):Nat×Option (List Nat):=varO 20000 (rl1 o).2
def rl3(o:Option (List Nat)):List Nat×Option (List Nat):=bytesO (locN ((rl2 o).1:Nat)) (rl2 o).2
def rlS(o:Option (List Nat)):Bool:=decide (((rl3 o).1.length:Int)<((rl2 o).1:Nat))
def rl4(o:Option (List Nat)):Nat×Option (List Nat):=if rlS o then numO 4 (rl3 o).2 else (0,(rl3 o).2)
def rdL(o:Option (List Nat)):C×Option (List Nat):=(⟨zagN (rl1 o).1,0,((rl2 o).1:Nat),none,0,0,((rl4 o).1:Nat),(rl3 o).1⟩,(rl4 o).2)
theorem locN_le(l:Int):locN l≤96:=by unfold locN;split;omega;split<;>omega
abbrev SL(q p t:Nat)(l:Int)(W:World):Prop:=S3 q p W∧W.cell? ⟨t,2,none⟩=some (.int .i64 l)
theorem inleaf_src(p:Nat)(o:Option (List Nat))(W:World)(h:Src W p o) :
  Calls Tryz.prog 240 #[.agg #[.func (.func 235) #[.pointer (some ⟨p,0,none⟩)] #[],.func (.func 236) #[.pointer (some ⟨p,0,none⟩)] #[],.func (.func 237) #[.pointer (some ⟨p,0,none⟩)] #[]]] W fun e w'=>∃ ao n m,e=.returned (.agg #[.int .i64 (rdL o).1.k,.int .i64 0,.int .i64 (rdL o).1.l,.slice ao n m,.int .i64 (rdL o).1.x])∧Rd w' ao n m (rdL o).1.b∧(∀ x∈(rdL o).1.b,x<256)∧(0<n→∀ b o,ao=some ⟨b,o,none⟩→T5 w' b)∧Src w' p (rdL o).2∧W.grownBy w' (some p)∧(0<n→∀ b o,ao=some ⟨b,o,none⟩→W.heap.size≤b):=by
 obtain ⟨W2,hW2⟩:∃ W2,W2=((W.alloc (.cells #[.func (.func 235) #[.pointer (some ⟨p,0,none⟩)] #[],.func (.func 236) #[.pointer (some ⟨p,0,none⟩)] #[],.func (.func 237) #[.pointer (some ⟨p,0,none⟩)] #[]] 328)).alloc (.cells #[.int .i64 0,.int .i64 0,.int .i64 0,.slice none 0 0,.int .i64 0] 144)).drew:=⟨_,rfl⟩
 have B2:Below W.heap.size W W2:=by rw [hW2];exact (gt (ext1 _) (ext1 _)).drew
 have hpl:=h.lt
 have R2:RX W2 W.heap.size p:=by rw [hW2];exact ((RX.new W p).keep (ext1 _)).keep (Below.refl _ _).drew
 have C2:CB W2 (W.heap.size+1) 0 0 0 none 0 0 0:=by
  have:=CB.new (W.alloc (.cells #[.func (.func 235) #[.pointer (some ⟨p,0,none⟩)] #[],.func (.func 236) #[.pointer (some ⟨p,0,none⟩)] #[],.func (.func 237) #[.pointer (some ⟨p,0,none⟩)] #[]] 328)) 0 0 0 none 0 0 0
  rw [show (W.alloc (.cells #[.func (.func 235) #[.pointer (some ⟨p,0,none⟩)] #[],.func (.func 236) #[.pointer (some ⟨p,0,none⟩)] #[],.func (.func 237) #[.pointer (some ⟨p,0,none⟩)] #[]] 328)).heap.size=W.heap.size+1 by simp]at this
  rw [hW2];exact this.keep (Below.refl _ _).drew
 have hs2:W2.heap.size=W.heap.size+1+1:=by rw [hW2];simp
 have c1:=hid (fun w1 (hs:Src w1 p o)=>key_src p o w1 hs)
 have c2:=hid (fun w1 (hs:Src w1 p (rl1 o).2)=>var_src p 20000 (rl1 o).2 w1 hs)
 have hl2:(rl2 o).1≤20000:=by
  unfold rl2
  cases h2:(rl1 o).2 with
  | none=>simp [varO]
  | some ys=>
   simp only [varO]
   split
   ·simp
   ·simp only;omega
 have c3:=hid (local_any ((rl2 o).1:Nat))
 have c4:=hid (fun w1 (hs:Src w1 p (rl2 o).2)=>bytes_src p (locN ((rl2 o).1:Nat)) (rl2 o).2 w1 hs (by have:=locN_le ((rl2 o).1:Nat);omega))
 have c5:=hid (fun w1 (hs:Src w1 p (rl3 o).2)=>link_src p (rl3 o).2 w1 hs)
 change Hid (∀ w1,Src w1 p (rl1 o).2→Calls Tryz.prog 236 #[.pointer (some ⟨p,0,none⟩),.int .u64 ((20000:Nat):Int)] w1 fun e w'=>e=.returned (.int .u64 ((rl2 o).1:Nat))∧Src w' p (rl2 o).2∧w1.grownBy w' (some p)) at c2
 change Hid (∀ w1,Src w1 p o→Calls Tryz.prog 297 #[.agg #[.func (.func 235) #[.pointer (some ⟨p,0,none⟩)] #[],.func (.func 236) #[.pointer (some ⟨p,0,none⟩)] #[],.func (.func 237) #[.pointer (some ⟨p,0,none⟩)] #[]]] w1 fun e w'=>e=.returned (.int .i64 (zagN (rl1 o).1))∧Src w' p (rl1 o).2∧w1.grownBy w' (some p)) at c1
 change Hid (∀ w1,Src w1 p (rl2 o).2→Calls Tryz.prog 237 #[.pointer (some ⟨p,0,none⟩),.int .i64 ((locN ((rl2 o).1:Nat):Nat):Int)] w1 fun e w'=>∃ ao n c,e=.returned (.slice ao n c)∧Rd w' ao n c (rl3 o).1∧(∀ x∈(rl3 o).1,x<256)∧(0<n→∀ b o,ao=some ⟨b,o,none⟩→T5 w' b)∧Src w' p (rl3 o).2∧w1.grownBy w' (some p)∧(0<n→∀ b o,ao=some ⟨b,o,none⟩→w1.heap.size≤b)) at c4
 have hsp:rlS o=decide (((rl3 o).1.length:Int)<((rl2 o).1:Nat)):=rfl
 have h4:rl4 o=if rlS o then numO 4 (rl3 o).2 else (0,(rl3 o).2):=rfl
 unfold rdL
 rw [h4]
 generalize rlS o=SP at *
 generalize rl3 o=R3 at *
 obtain ⟨b3,o3⟩:=R3
 generalize rl2 o=R22 at *
 obtain ⟨l2,o2⟩:=R22
 generalize rl1 o=R1 at *
 obtain ⟨u1,o1⟩:=R1
 simp only at *
 generalize zagN u1=z at *
 generalize locN (l2:Nat)=L2 at *
 have g1:=R2.cells
 have hne:=hid (show W.heap.size≠p by omega)
 have hne2:=hid (show W.heap.size+1≠p by omega)
 have B2':=hid B2;have C2':=hid C2;have R2':=hid R2;have S2':=hid (h.keep B2);have hs2':=hid hs2
 replace hW2:=hid hW2.symm
 replace hpl:=hid hpl
 clear h R2 B2 C2 h4 hs2
 go_enter Tryz.func240,Tryz.ntmps240
 go_upto_region 1 with fail
 go_cut [3] (fun s wE=>∃ t,s=.pointer (some ⟨t,0,none⟩)∧Hid (W.heap.size+1<t∧t≠p∧Src wE p o2∧W.grownBy wE (some p)∧RX wE W.heap.size p∧CB wE (W.heap.size+1) 0 0 0 none 0 0 0∧CB wE t z 0 (l2:Int) none 0 0 0))
 case first=>
  refine wp_region_K (S:=S3 W.heap.size p) (fun i=>i == 8) (by kernel_rfl) (hW2.out▸g1) (fun hHeld=>?_)
  rw [hW2.out]at hHeld ⊢
  have SE:=S2'
  have GE:Hid (W.grownBy W2 (some p)):=hid (grow_below B2'.out)
  have RE:=R2'
  have DE:=C2'
  refine gkt 0 ?_ (h:=by intro W hSw;obtain ⟨y0,y1,y2⟩:=hSw;go_simp;first |done |with_reducible rfl)
  refine gkp 2 ?_
  refine gkt 3 ?_ (h:=by intro W hSw;obtain ⟨y0,y1,y2⟩:=hSw;go_simp;first |done |with_reducible rfl)
  refine wpAnyK_ready (rs:=[1,7]) (by kernel_rfl) (by simp) ?_
  refine AllReadyK.cons (op_at _ 1 _ rfl) (fun K hK=>?_) ?_
  ·as_aux_lemma=>
    go_simp
    go_at_call 297;refine (c1.out _ SE.out).mono ?_;rintro e w1 ⟨rfl,hs,hg⟩;have hR:S3 W.heap.size p w1:=S3.grown hHeld hg hne.out;replace GE:=hid (grow_trans GE.out hg);replace RE:=hid (RE.out.grown hg hne.out);replace DE:=hid (DE.out.grown hg hne2.out);replace SE:=hid hs;clear hs hg
    refine hK.out _ _ hR (fun hHeld=>?_)
    clear hK K
    (try simp only [Act.put,sA,sZ,sS])
    refine wpAnyK_ready (rs:=[4,7]) (by kernel_rfl) (by simp) ?_
    refine AllReadyK.cons (op_at _ 4 _ rfl) (fun K hK=>?_) ?_
    ·as_aux_lemma=>
      go_simp
      go_at_call 236;refine (c2.out _ SE.out).mono ?_;rintro e w2 ⟨rfl,hs,hg⟩;have hR:S3 W.heap.size p w2:=S3.grown hHeld hg hne.out;replace GE:=hid (grow_trans GE.out hg);replace RE:=hid (RE.out.grown hg hne.out);replace DE:=hid (DE.out.grown hg hne2.out);replace SE:=hid hs;clear hs hg
      refine hK.out _ _ hR (fun hHeld=>?_)
      clear hK K
      (try simp only [Act.put,sA,sZ,sS])
      refine gkp 5 ?_ (v:=.int .i64 (l2:Int)) (h:=by intro W hSw;go_simp<;>first |done |(rw [IntKind.wrap_i64];omega))
      refine gkp 6 ?_
      refine gk1 7 (fun K hK=>?_)
      go_simp
      have eb:Below w2.heap.size w2 (w2.alloc (.cells #[.int .i64 0,.int .i64 0,.int .i64 0,.slice none 0 0,.int .i64 0] 144)):=ext1 _;have hR:S3 W.heap.size p (w2.alloc (.cells #[.int .i64 0,.int .i64 0,.int .i64 0,.slice none 0 0,.int .i64 0] 144)):=⟨keep_old eb hHeld.1,keep_old eb hHeld.2.1,keep_old eb hHeld.2.2⟩;clear eb
      refine hK.out _ _ hR (fun hHeld=>?_)
      clear hK K
      (try simp only [Act.put,sA,sZ,sS])
      have TF:=hid (show W.heap.size+1<w2.heap.size from DE.out.lt)
      have TP:=hid (show w2.heap.size≠p from (by have:=TF.out;have:=hpl.out;omega))
      refine gkl 8 (fun K hK=>?_)
      go_simp
      refine hK.out _ _ ?_
      clear hK K
      (try simp only [Act.put,sA,sZ,sS])
      refine wpAnyK_done (by kernel_rfl) ?_ _
      go_wp2
      go_meet
      case rel=>exact ⟨w2.heap.size,rfl,hid ⟨TF.out,TP.out,SE.out.keep (ext1 _),grow_trans GE.out (grow_below (ext1 _)),RE.out.keep (ext1 _),DE.out.keep (ext1 _),CB.new w2 z 0 (l2:Int) none 0 0 0⟩⟩
    refine AllReadyK.cons (op_at _ 7 _ rfl) (fun K hK=>?_) ?_
    ·as_aux_lemma=>
      go_simp
      have eb:Below w1.heap.size w1 (w1.alloc (.cells #[.int .i64 0,.int .i64 0,.int .i64 0,.slice none 0 0,.int .i64 0] 144)):=ext1 _;have hR:S3 W.heap.size p (w1.alloc (.cells #[.int .i64 0,.int .i64 0,.int .i64 0,.slice none 0 0,.int .i64 0] 144)):=⟨keep_old eb hHeld.1,keep_old eb hHeld.2.1,keep_old eb hHeld.2.2⟩;have CE:=hid (CB.new w1 0 0 0 none 0 0 0);have TF:=hid (show W.heap.size+1<w1.heap.size from DE.out.lt);have TE:=hid (show W.heap.size≤w1.heap.size from (by have:=TF.out;omega));have TP:=hid (show w1.heap.size≠p from (by have:=TF.out;have:=hpl.out;omega));replace GE:=hid (grow_trans GE.out (grow_below eb));replace RE:=hid (RE.out.keep eb);replace DE:=hid (DE.out.keep eb);replace SE:=hid (SE.out.keep eb);clear eb
      refine hK.out _ _ hR (fun hHeld=>?_)
      clear hK K
      (try simp only [Act.put,sA,sZ,sS])
      refine gk1 4 (fun K hK=>?_)
      go_simp
      go_at_call 236;refine (c2.out _ SE.out).mono ?_;rintro e w2 ⟨rfl,hs,hg⟩;have hR:S3 W.heap.size p w2:=S3.grown hHeld hg hne.out;replace GE:=hid (grow_trans GE.out hg);replace RE:=hid (RE.out.grown hg hne.out);replace DE:=hid (DE.out.grown hg hne2.out);replace CE:=hid (CE.out.grown hg TP.out);replace SE:=hid hs;clear hs hg
      refine hK.out _ _ hR (fun hHeld=>?_)
      clear hK K
      (try simp only [Act.put,sA,sZ,sS])
      refine gkp 5 ?_ (v:=.int .i64 (l2:Int)) (h:=by intro W hSw;go_simp<;>first |done |(rw [IntKind.wrap_i64];omega))
      refine gkp 6 ?_
      obtain ⟨y0,y1,y2,y3,y4⟩:=CE.out.cells
      have f0:=CE.out.fz 0
      have f1:=CE.out.fz 1
      have f2:=CE.out.fz 2
      have f3:=CE.out.fz 3
      have f4:=CE.out.fz 4
      refine gkl 8 (fun K hK=>?_)
      go_simp
      refine hK.out _ _ ?_
      clear hK K
      (try simp only [Act.put,sA,sZ,sS])
      refine wpAnyK_done (by kernel_rfl) ?_ _
      go_wp2
      go_meet
      case rel=>
       obtain ⟨e1,e2,e3,_⟩:=CE.out.all SE.out GE.out TE.out z 0 (l2:Int) none 0 0 0
       refine ⟨w1.heap.size,rfl,hid ⟨TF.out,TP.out,e2,e3,?_,?_,e1⟩⟩
       ·unfold RX;rw [heap_setCell_other _ _ _ _ (by have:=TF.out;simp;omega),heap_setCell_other _ _ _ _ (by have:=TF.out;simp;omega),heap_setCell_other _ _ _ _ (by have:=TF.out;simp;omega),heap_setCell_other _ _ _ _ (by have:=TF.out;simp;omega),heap_setCell_other _ _ _ _ (by have:=TF.out;simp;omega)];exact RE.out
       ·unfold CB;rw [heap_setCell_other _ _ _ _ (by have:=TF.out;simp;omega),heap_setCell_other _ _ _ _ (by have:=TF.out;simp;omega),heap_setCell_other _ _ _ _ (by have:=TF.out;simp;omega),heap_setCell_other _ _ _ _ (by have:=TF.out;simp;omega),heap_setCell_other _ _ _ _ (by have:=TF.out;simp;omega)];exact DE.out
    exact AllReadyK.nil
  refine AllReadyK.cons (op_at _ 7 _ rfl) (fun K hK=>?_) ?_
  ·as_aux_lemma=>
    go_simp
    have eb:Below W2.heap.size W2 (W2.alloc (.cells #[.int .i64 0,.int .i64 0,.int .i64 0,.slice none 0 0,.int .i64 0] 144)):=ext1 _;have hR:S3 W.heap.size p (W2.alloc (.cells #[.int .i64 0,.int .i64 0,.int .i64 0,.slice none 0 0,.int .i64 0] 144)):=⟨keep_old eb hHeld.1,keep_old eb hHeld.2.1,keep_old eb hHeld.2.2⟩;have CE:=hid (CB.new W2 0 0 0 none 0 0 0);have TF:=hid (show W.heap.size+1<W2.heap.size from DE.out.lt);have TE:=hid (show W.heap.size≤W2.heap.size from (by have:=TF.out;omega));have TP:=hid (show W2.heap.size≠p from (by have:=TF.out;have:=hpl.out;omega));replace GE:=hid (grow_trans GE.out (grow_below eb));replace RE:=hid (RE.out.keep eb);replace DE:=hid (DE.out.keep eb);replace SE:=hid (SE.out.keep eb);clear eb
    refine hK.out _ _ hR (fun hHeld=>?_)
    clear hK K
    (try simp only [Act.put,sA,sZ,sS])
    refine gk1 1 (fun K hK=>?_)
    go_simp
    go_at_call 297;refine (c1.out _ SE.out).mono ?_;rintro e w1 ⟨rfl,hs,hg⟩;have hR:S3 W.heap.size p w1:=S3.grown hHeld hg hne.out;replace GE:=hid (grow_trans GE.out hg);replace RE:=hid (RE.out.grown hg hne.out);replace DE:=hid (DE.out.grown hg hne2.out);replace CE:=hid (CE.out.grown hg TP.out);replace SE:=hid hs;clear hs hg
    refine hK.out _ _ hR (fun hHeld=>?_)
    clear hK K
    (try simp only [Act.put,sA,sZ,sS])
    refine gk1 4 (fun K hK=>?_)
    go_simp
    go_at_call 236;refine (c2.out _ SE.out).mono ?_;rintro e w2 ⟨rfl,hs,hg⟩;have hR:S3 W.heap.size p w2:=S3.grown hHeld hg hne.out;replace GE:=hid (grow_trans GE.out hg);replace RE:=hid (RE.out.grown hg hne.out);replace DE:=hid (DE.out.grown hg hne2.out);replace CE:=hid (CE.out.grown hg TP.out);replace SE:=hid hs;clear hs hg
    refine hK.out _ _ hR (fun hHeld=>?_)
    clear hK K
    (try simp only [Act.put,sA,sZ,sS])
    refine gkp 5 ?_ (v:=.int .i64 (l2:Int)) (h:=by intro W hSw;go_simp<;>first |done |(rw [IntKind.wrap_i64];omega))
    refine gkp 6 ?_
    obtain ⟨y0,y1,y2,y3,y4⟩:=CE.out.cells
    have f0:=CE.out.fz 0
    have f1:=CE.out.fz 1
    have f2:=CE.out.fz 2
    have f3:=CE.out.fz 3
    have f4:=CE.out.fz 4
    refine gkl 8 (fun K hK=>?_)
    go_simp
    refine hK.out _ _ ?_
    clear hK K
    (try simp only [Act.put,sA,sZ,sS])
    refine wpAnyK_done (by kernel_rfl) ?_ _
    go_wp2
    go_meet
    case rel=>
     obtain ⟨e1,e2,e3,_⟩:=CE.out.all SE.out GE.out TE.out z 0 (l2:Int) none 0 0 0
     refine ⟨W2.heap.size,rfl,hid ⟨TF.out,TP.out,e2,e3,?_,?_,e1⟩⟩
     ·unfold RX;rw [heap_setCell_other _ _ _ _ (by have:=TF.out;simp;omega),heap_setCell_other _ _ _ _ (by have:=TF.out;simp;omega),heap_setCell_other _ _ _ _ (by have:=TF.out;simp;omega),heap_setCell_other _ _ _ _ (by have:=TF.out;simp;omega),heap_setCell_other _ _ _ _ (by have:=TF.out;simp;omega)];exact RE.out
     ·unfold CB;rw [heap_setCell_other _ _ _ _ (by have:=TF.out;simp;omega),heap_setCell_other _ _ _ _ (by have:=TF.out;simp;omega),heap_setCell_other _ _ _ _ (by have:=TF.out;simp;omega),heap_setCell_other _ _ _ _ (by have:=TF.out;simp;omega),heap_setCell_other _ _ _ _ (by have:=TF.out;simp;omega)];exact DE.out
  exact AllReadyK.nil
 case rest=>
  obtain ⟨t,rfl,HE⟩:=hcut
  obtain ⟨ht,htp,hS,hG,hR,hC2,hC3⟩:=HE.out
  have g2:SL W.heap.size p t (l2:Int) wc.drew:=⟨hR.cells,hC3.cells.2.2.1⟩
  have dz:Below wc.heap.size wc wc.drew:=(Below.refl _ _).drew
  have SE:=hid (hS.keep dz)
  have GE:=hid (grow_trans hG (grow_below dz))
  have RE:=hid (hR.keep dz)
  have DE:=hid (hC2.keep dz)
  have CE:=hid (hC3.keep dz)
  have TF:=hid ht
  have TP:=hid htp
  clear ht htp hS hG hR hC2 hC3 dz HE
  go_upto_region 2 with fail
  refine wp_region_K (S:=SL W.heap.size p t (l2:Int)) (fun i=>i == 7) (by kernel_rfl) (g2) (fun hHeld=>?_)
  refine gkp 0 ?_
  refine gkt 1 ?_ (h:=by intro W hSw;obtain ⟨⟨y0,y1,y2⟩,y3⟩:=hSw;go_simp;first |done |with_reducible rfl)
  refine gkp 2 ?_
  refine gkt 3 ?_ (h:=by intro W hSw;obtain ⟨⟨y0,y1,y2⟩,y3⟩:=hSw;go_simp;first |done |with_reducible rfl)
  refine gk1 4 (fun K hK=>?_)
  go_simp
  go_at_call 138;refine (c3.out _).mono ?_;rintro e w1 ⟨rfl,hw⟩;obtain rfl:=hw.symm;have hR:=hHeld
  refine hK.out _ _ hR (fun hHeld=>?_)
  clear hK K
  (try simp only [Act.put,sA,sZ,sS])
  refine gk1 5 (fun K hK=>?_)
  go_simp
  go_at_call 237;refine (c4.out _ SE.out).mono ?_;rintro e w5 ⟨ao,nn,mm,rfl,hrd,h8,h5,hs,hg,hnw⟩;have HN:Hid (0<nn→∀ b o,ao=some ⟨b,o,none⟩→W.heap.size≤b):=hid (fun a b o e=>Nat.le_trans GE.out.size (hnw a b o e));clear hnw;have hR:SL W.heap.size p t (l2:Int) w5:=⟨S3.grown hHeld.1 hg hne.out,grow_cell hg hHeld.2 TP.out⟩;replace GE:=hid (grow_trans GE.out hg);replace RE:=hid (RE.out.grown hg hne.out);replace DE:=hid (DE.out.grown hg hne2.out);replace CE:=hid (CE.out.grown hg TP.out);replace SE:=hid hs;have RD:=hid hrd;have H8:=hid h8;have H5:=hid h5;clear hs hg hrd h8 h5
  refine hK.out _ _ hR (fun hHeld=>?_)
  clear hK K
  (try simp only [Act.put,sA,sZ,sS])
  refine gkp 6 ?_
  obtain ⟨y0,y1,y2,y3,y4⟩:=CE.out.cells
  have f0:=CE.out.fz 0
  have f1:=CE.out.fz 1
  have f2:=CE.out.fz 2
  have f3:=CE.out.fz 3
  have f4:=CE.out.fz 4
  refine gkl 7 (fun K hK=>?_)
  go_simp
  refine hK.out _ _ ?_
  clear hK K
  (try simp only [Act.put,sA,sZ,sS])
  refine wpAnyK_done (by kernel_rfl) ?_ _
  obtain ⟨w6,hw6⟩:∃ w6,w6=w5.setCell ⟨t,3,none⟩ (.slice ao nn mm):=⟨_,rfl⟩
  rw [←hw6]
  have F6:Five w5 w6:=by rw [hw6];exact CE.out.five
  have S6:=hid (show Src w6 p o3 by rw [hw6];exact CE.out.src SE.out)
  have G6:=hid (show W.grownBy w6 (some p) by rw [hw6];exact grow1 GE.out (by have:=TF.out;omega))
  have R6:=hid (show RX w6 W.heap.size p by rw [hw6];unfold RX;rw [heap_setCell_other _ _ _ _ (by have:=TF.out;simp;omega)];exact RE.out)
  have D6:=hid (show CB w6 (W.heap.size+1) 0 0 0 none 0 0 0 by rw [hw6];unfold CB;rw [heap_setCell_other _ _ _ _ (by have:=TF.out;simp;omega)];exact DE.out)
  have E6:=hid (show CB w6 t z 0 (l2:Int) ao nn mm 0 by rw [hw6];exact CE.out.set3 ao nn mm)
  have X6:=hid (show Rd w6 ao nn mm b3 from RD.out.five H5.out F6)
  have Y6:=hid (show 0<nn→∀ b o,ao=some ⟨b,o,none⟩→T5 w6 b from fun hn b o e=>(H5.out hn b o e).five F6)
  have csp:=hid (fun w=>spills_any ⟨z,0,(l2:Int),ao,nn,mm,0,b3⟩ w X6.out.1)
  unfold spillB at csp
  simp only at csp
  rw [←hsp]at csp
  clear hw6 F6 SE GE RE DE CE RD H5 y0 y1 y2 y3 y4 f0 f1 f2 f3 f4 hsp
  obtain ⟨y0,y1,y2,y3,y4⟩:=E6.out.cells
  cases SP with
  | false=>
   (try simp only [Bool.false_eq_true,if_false])
   go_wp2_with (first
    | (go_at_call 265;refine (csp.out _).mono ?_;rintro e w7 ⟨rfl,hb⟩;have S7:=hid (S6.out.keep hb);have G7:=hid (grow_trans G6.out (grow_below hb));have D7:=hid (D6.out.keep hb);have X7:=hid (X6.out.keep hb);have Y7:=hid (show 0<nn→∀ b o,ao=some ⟨b,o,none⟩→T5 w7 b from fun hn b o e=>(Y6.out hn b o e).keep hb);clear y0 y1 y2 y3 y4;obtain ⟨y0,y1,y2,y3,y4⟩:=(E6.out.keep hb).cells;obtain ⟨v0,v1,v2,v3,v4⟩:=D7.out.cells;have f0:=D7.out.fz 0;have f1:=D7.out.fz 1;have f2:=D7.out.fz 2;have f3:=D7.out.fz 3;have f4:=D7.out.fz 4;clear hb))
   (try simp only [Exit.inBlock,Exit.then])
   obtain ⟨e1,e2,e3,e4⟩:=D7.out.all S7.out G7.out (by omega) z 0 (l2:Int) ao nn mm 0
   refine bodyPost_ret (ret_cell (a:=2) (by kernel_rfl) rfl e1) rfl ?_
   exact ⟨ao,nn,mm,rfl,X7.out.five Y7.out e4,H8.out,fun hn b o e=>(Y7.out hn b o e).five e4,e2,e3,HN.out⟩
  | true=>
   (try simp only [if_true])
   go_wp2_with (first
    | (go_at_call 265;refine (csp.out _).mono ?_;rintro e w7 ⟨rfl,hb⟩;have S7:=hid (S6.out.keep hb);have G7:=hid (grow_trans G6.out (grow_below hb));have D7:=hid (D6.out.keep hb);have E7:=hid (E6.out.keep hb);have X7:=hid (X6.out.keep hb);have Y7:=hid (show 0<nn→∀ b o,ao=some ⟨b,o,none⟩→T5 w7 b from fun hn b o e=>(Y6.out hn b o e).keep hb);clear y0 y1 y2 y3 y4;obtain ⟨y0,y1,y2⟩:=(R6.out.keep hb).cells;clear hb)
    | (go_at_call 241;refine (c5.out _ S7.out).mono ?_;rintro e w8 ⟨rfl,hs,hg⟩;have F8:=hid (S7.out.grown5 hg);have S8:=hid hs;have G8:=hid (grow_trans G7.out hg);have D8:=hid (D7.out.grown hg hne2.out);have E8:=hid (E7.out.grown hg TP.out);clear y0 y1 y2 hs hg;obtain ⟨y0,y1,y2,y3,y4⟩:=E8.out.cells;have k4:=E8.out.fz 4;obtain ⟨v0,v1,v2,v3,v4⟩:=D8.out.cells;have f0:=D8.out.fz 0;have f1:=D8.out.fz 1;have f2:=D8.out.fz 2;have f3:=D8.out.fz 3;have f4:=D8.out.fz 4;have hnt:¬W.heap.size+1=t:=(by have:=TF.out;omega);have hnt2:¬t=W.heap.size+1:=(by have:=TF.out;omega)))
   (try simp only [Exit.inBlock,Exit.then])
   have hD9:CB (w8.setCell ⟨t,4,none⟩ (.int .i64 ((numO 4 o3).1:Nat))) (W.heap.size+1) 0 0 0 none 0 0 0:=by unfold CB;rw [heap_setCell_other _ _ _ _ (by simp;omega)];exact D8.out
   obtain ⟨e1,e2,e3,e4⟩:=hD9.all (E8.out.src S8.out) (grow1 G8.out (by have:=TF.out;omega)) (by omega) z 0 (l2:Int) ao nn mm ((numO 4 o3).1:Nat)
   have F9:Five w7 _:=(F8.out.trans E8.out.five).trans e4
   refine bodyPost_ret (ret_cell (a:=2) (by kernel_rfl) rfl e1) rfl ?_
   exact ⟨ao,nn,mm,rfl,X7.out.five Y7.out F9,H8.out,fun hn b o e=>(Y7.out hn b o e).five F9,e2,e3,HN.out⟩
end Cel
namespace Cel
open Go.RowKit
end Cel
namespace Cel
open Go.RowKit
def cv:List C→List Value
 | []=>[]
 | a::l=>.int .i64 a.k::.int .i64 a.c::.int .i64 a.l::.slice a.o a.n a.m::.int .i64 a.x::cv l
theorem cv_length(l:List C):(cv l).length=l.length*5:=by
 induction l with
 | nil=>rfl
 | cons r l ih=>simp [cv,ih];omega
theorem cv_append(l m:List C):cv (l++m)=cv l++cv m:=by
 induction l with
 | nil=>rfl
 | cons r l ih=>simp [cv,ih]
theorem cv_get(l:List C):∀ j,j<l.length→(cv l)[j*5]? = some (.int .i64 (l.getD j default).k)∧(cv l)[j*5+1]? = some (.int .i64 (l.getD j default).c)∧(cv l)[j*5+2]? = some (.int .i64 (l.getD j default).l) ∧
  (cv l)[j*5+3]? = some (.slice (l.getD j default).o (l.getD j default).n (l.getD j default).m)∧(cv l)[j*5+4]? = some (.int .i64 (l.getD j default).x):=by
 induction l with
 | nil=>intro j h;simp at h
 | cons a l ih=>
  intro j hj
  cases j with
  | zero=>simp [cv]
  | succ j=>
   have:=ih j (by simpa using hj)
   rw [show (j+1)*5=j*5+1+1+1+1+1 by omega]
   simpa [cv] using this
variable {xs:List Value} {n size base:Nat} {v:Value} {e:TypeId} {w:World}
theorem row_form(h:w.ownsRow base e size v n xs):∃ ao cap,v=.slice ao n cap:=by
 obtain ⟨hl,⟨rfl,rfl⟩ | ⟨g,cap,cur,rfl,_⟩⟩:=h
 ·exact ⟨_,_,rfl⟩
 ·exact ⟨_,_,rfl⟩
variable {B:Nat}
theorem below_own{w':World}(h:w.ownsRow base e size v n xs)(hg:w.grownBy w' v.ownBlock)(hB:B≤base)(hB2:B≤w.heap.size):Below B w w':=
 (Below.refl B w).grown hg hB2 fun k hk=>Nat.le_trans hB (h.lt k hk).1
variable {t:TypeId} {W:World}
theorem cs_own{ao:Option Addr}{cap L:Nat}{l:List C}(hl:l.length=L)(h:W.ownsRow B t 5 (.slice ao L cap) L (cv l))(hd:∀ a∈l,Cok W a):Cs W ao L cap l:=by
 rcases h.2 with ⟨h',h0⟩ | ⟨g,cap',cur,h',hb,hg,hnc,hm,hs,ht⟩
 ·simp only [Value.slice.injEq]at h'
  obtain ⟨rfl,h1,rfl⟩:=h'
  exact ⟨hl,by omega,fun _=>⟨by omega,rfl⟩,fun hp=>by omega,hd⟩
 ·simp only [Value.slice.injEq,true_and]at h'
  obtain ⟨rfl,rfl⟩:=h'
  refine ⟨hl,hnc,fun e=>(by cases e),fun hp=>⟨g,0,rfl,fun i hi=>?_⟩,hd⟩
  obtain ⟨h1,h2,h3,h4,h5⟩:=cv_get l i (by omega)
  refine ⟨?_,?_,?_,?_,?_⟩
  ·rw [Nat.zero_add,h.cellAt (i*5) (by omega),h1]
  ·rw [Nat.zero_add,h.cellAt (i*5+1) (by omega),h2]
  ·rw [Nat.zero_add,h.cellAt (i*5+2) (by omega),h3]
  ·rw [Nat.zero_add,h.cellAt (i*5+3) (by omega),h4]
  ·rw [Nat.zero_add,h.cellAt (i*5+4) (by omega),h5]
theorem five_cells(w:World)(a:C)(t:TypeId):∀ j u,(cv [a])[j]? = some u→(w.alloc (.cells #[.int .i64 a.k,.int .i64 a.c,.int .i64 a.l,.slice a.o a.n a.m,.int .i64 a.x] t)).cell? ((⟨w.heap.size,0,none⟩:Addr).add j)=some u:=by
 intro j u hu
 rw [Addr.add_lit]
 have h:=heap_alloc_new w (.cells #[.int .i64 a.k,.int .i64 a.c,.int .i64 a.l,.slice a.o a.n a.m,.int .i64 a.x] t)
 unfold World.cell?
 rw [h]
 simpa [cv] using hu
theorem cv_one(a:C):∀ u∈cv [a],u.oneCell'=true:=by
 intro u hu
 simp [cv]at hu
 rcases hu with rfl |rfl |rfl |rfl |rfl<;>rfl
variable {cn cc q:Nat} {co:Option Addr} {r:Int} {leaf:Bool}
theorem NB.set(h:NB t W q leaf r co cn cc)(co':Option Addr)(cn' cc':Nat):NB t (W.setCell ⟨q,2,none⟩ (.slice co' cn' cc')) q leaf r co' cn' cc':=by
 have h1:=heap_setCell_same W q 2 _ t (.slice co' cn' cc') h
 unfold NB
 rw [h1];simp
theorem NB.fz(h:NB t W q leaf r co cn cc)(i:Nat):W.frozen? ⟨q,i,none⟩=false:=by
 unfold NB at h
 simp [World.frozen?,h]
theorem five_cells2(w:World)(o:Obj)(a:C)(t:TypeId):∀ j u,(cv [a])[j]? = some u→((w.alloc o).alloc (.cells #[.int .i64 a.k,.int .i64 a.c,.int .i64 a.l,.slice a.o a.n a.m,.int .i64 a.x] t)).cell? ((⟨w.heap.size+1,0,none⟩:Addr).add j)=some u:=by
 have:=five_cells (w.alloc o) a t
 simpa using this
theorem ret_node1{fn:Func}{a:Tmp}(h:fn.results = #[.cell a t])(hu:(match Tryz.prog.underlying t with |some (.struct _)=>true |_=>false)=true)(hi:(Tryz.prog.info? t).map (·.size)=some 3){tmps:Array Value}{W:World}{q:Nat}{leaf:Bool}{r:Int}{co:Option Addr}{cn cc:Nat}
  (hp:tmps.getD a undef=.pointer (some ⟨q,0,none⟩)) (hb:NB t W q leaf r co cn cc):(results fn tmps).run Tryz.prog W=.ok (.agg #[.bool leaf,.int .i64 r,.slice co cn cc]) W:=by
 cases hd:Tryz.prog.underlying t with
 | none=>rw [hd]at hu;cases hu
 | some d=>
  rw [hd]at hu
  refine results_cell_row h tmps W q t _ (0,0) d hp hb hd ?_ (by simpa using hi)
  cases d<;>simp at hu ⊢
theorem NB.set3(h:NB t W q leaf r co cn cc)(leaf':Bool)(r':Int)(co':Option Addr)(cn' cc':Nat) :
  NB t (((W.setCell ⟨q,0,none⟩ (.bool leaf')).setCell ⟨q,1,none⟩ (.int .i64 r')).setCell ⟨q,2,none⟩ (.slice co' cn' cc')) q leaf' r' co' cn' cc':=by
 have h1:=heap_setCell_same W q 0 _ t (.bool leaf') h
 have h2:=heap_setCell_same _ q 1 _ t (.int .i64 r') h1
 have h3:=heap_setCell_same _ q 2 _ t (.slice co' cn' cc') h2
 unfold NB
 rw [h3];simp
theorem below_set(h:Below B w W){a:Addr}(hq:B≤a.block)(v:Value):Below B w (W.setCell a v):=Below.setCell h hq v
end Cel
end Go.Proofs.YtfcikkechphmaaaGreatDoor
