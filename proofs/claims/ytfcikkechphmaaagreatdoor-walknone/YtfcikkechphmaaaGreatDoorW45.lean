/- The way down in a tree that is one leaf; no statement of the seat is proved here. -/
import Derived.Test.YtfcikkechphmaaaGreatDoorW44
set_option maxHeartbeats 16000000
set_option maxRecDepth 20000
namespace Go.Proofs.YtfcikkechphmaaaGreatDoor
namespace Tre
open Go.RowKit Go.Maps
open Dsk (gt hid undrew keep_old keep_cell lt_cell newD)
open Jrn (Row5)
open Cch (Fr wpAnyK wpAnyK_done wp_region_K hd_cell hd_frozen blk_set)
open Cel (C Cs Cok NB At5 ext1 below_set I64 nrm hasN pageN)
open Spl (Same AllB)
section
variable {arm:Prop} {room croom K:Nat} {p q:Nat} {R:Nat→Prop} {t:RS} {w:World} {hb tb root:Nat} {tr:List (Nat×List Nat)} {ws:List Nat}
theorem u122:Tryz.prog.underlying 149=some (.slice 140):=by kernel_rfl
theorem info112:(Tryz.prog.info? 140).map (fun i=>(i.zero,i.size,i.bytes))=some (some (.agg #[.int .i64 0,.int .i64 0,.int .i64 0,.bool false,.int .i64 0,.slice none 0 0,.int .i64 0]),7,72):=by kernel_rfl
def sv(s:St):List Value:=[.int .i64 (s).pg,.int .i64 (s).lo,.int .i64 (s).hi,.bool (s).leaf,.int .i64 (s).r,.slice (s).co (s).cn (s).cc,.int .i64 (s).pl]
structure Way1 (S:Nat→Prop) (W:World) (g cap:Nat) (s:St) (cs:List C):Prop where
 own:W.ownsRow 0 140 7 (.slice (some ⟨g,0,none⟩) 1 cap) 1 (sv s)
 mem:S g
 nod:Pn S W s.co s.cn s.cc cs
variable {cs:List C} {s:St} {g cap:Nat} {W:World} {S:Nat→Prop}
theorem Way1.cells(h:Way1 S W g cap s cs):W.cell? ⟨g,0,none⟩=some (.int .i64 s.pg)∧W.cell? ⟨g,1,none⟩=some (.int .i64 s.lo)∧W.cell? ⟨g,2,none⟩=some (.int .i64 s.hi)∧W.cell? ⟨g,3,none⟩=some (.bool s.leaf)∧W.cell? ⟨g,4,none⟩=some (.int .i64 s.r)∧W.cell? ⟨g,5,none⟩=some (.slice s.co s.cn s.cc)∧W.cell? ⟨g,6,none⟩=some (.int .i64 s.pl):=by
 obtain ⟨cur,hg,h1,h2,h3,h4⟩:=row_parts h.own
 have hx:∀ i,i<7→W.cell? ⟨g,i,none⟩=(sv s)[i]?:=fun i hi=>by
  rw [←h4,List.getElem?_take_of_lt (by omega)]
  simp [World.cell?,hg]
 exact ⟨hx 0 (by omega),hx 1 (by omega),hx 2 (by omega),hx 3 (by omega),hx 4 (by omega),hx 5 (by omega),hx 6 (by omega)⟩
theorem Way1.lt(h:Way1 S W g cap s cs):g<W.heap.size:=by
 obtain ⟨cur,hg,_⟩:=row_parts h.own
 exact (Array.getElem?_eq_some_iff.1 hg).1
variable {W':World}
theorem Way1.same(h:Way1 S W g cap s cs)(hf:∀ k,S k→k<W.heap.size→W'.heap[k]? = W.heap[k]?):Way1 S W' g cap s cs:=by
 refine ⟨⟨h.own.1,?_⟩,h.mem,h.nod.same hf⟩
 rcases h.own.2 with h1 | ⟨g',cap',cur,e,hb,hgg,h2⟩
 ·exact Or.inl h1
 ·simp only [Value.slice.injEq,Option.some.injEq,Addr.mk.injEq,and_true,true_and]at e
  obtain ⟨rfl,rfl⟩:=e
  exact Or.inr ⟨g,cap,cur,rfl,hb,by rw [hf g h.mem (Array.getElem?_eq_some_iff.1 hgg).1];exact hgg,h2⟩
theorem Way1.keep(h:Way1 S W g cap s cs)(hb:Below W.heap.size W W'):Way1 S W' g cap s cs:=h.same (fun k _ hk=>hb.block k hk)
def Gone1(arm:Prop)(room croom K:Nat)(hb p q:Nat)(R:Nat→Prop)(t:RS)(tr:List (Nat×List Nat))(ws:List Nat)(root:Nat)(key:Int)(cs0:List C)(w:World)(e:Ending)(w':World):Prop:=
 ∃ g cap co cn cc cs S,e=.returned (.tuple #[.slice (some ⟨g,0,none⟩) 1 cap,.int .i64 0])∧Way1 S w' g cap ⟨root,-9223372036854775808,9223372036854775807,true,0,co,cn,cc,(Cel.fN key cs0:Nat)⟩ cs∧cs.map nrm=cs0.map nrm∧(∀ b,S b→w.heap.size≤b)∧HeapS arm room croom K w' hb p q (Or2 R S) t tr ws∧Rok R w w'
theorem hold_all(h:∀ a∈cs,I64 a.k):holdB (-9223372036854775808) 9223372036854775807 true cs=true:=by
 unfold holdB
 split
 ·rfl
 ·rename_i hn
  have hm:∀ i,i<cs.length→I64 (cs.getD i default).k:=fun i hi=>h _ (by rw [List.getD,List.getElem?_eq_getElem hi];exact List.getElem_mem _)
  have h1:=hm 0 (by omega)
  have h2:=hm (cs.length - 1) (by omega)
  simp [I64]at h1 h2 ⊢
  omega
theorem fN_nrm(key:Int):∀ {cs cs':List C},cs.map nrm=cs'.map nrm→Cel.fN key cs=Cel.fN key cs'
 | [],[],_=>rfl
 | [],b::l,h=>by simp at h
 | a::l,[],h=>by simp at h
 | a::l,b::m,h=>by
  simp only [List.map_cons,List.cons.injEq]at h
  have hk:a.k=b.k:=by have:=congrArg C.k h.1;simpa [nrm] using this
  have ih:=fN_nrm key h.2
  unfold Cel.fN at ih ⊢
  simp only [Cel.firstN,Cel.notBelow,hk,ih]
  rfl
theorem sv_cells{w:World}{q:Nat}(h:SB w q s):∀ j u,(sv s)[j]? = some u→w.cell? ((⟨q,0,none⟩:Addr).add j)=some u:=by
 intro j u hu
 obtain ⟨h0,h1,h2,h3,h4,h5,h6⟩:=h.cells
 rw [Addr.add_lit]
 match j with
 | 0=>simp [sv]at hu;subst hu;simpa using h0
 | 1=>simp [sv]at hu;subst hu;simpa using h1
 | 2=>simp [sv]at hu;subst hu;simpa using h2
 | 3=>simp [sv]at hu;subst hu;simpa using h3
 | 4=>simp [sv]at hu;subst hu;simpa using h4
 | 5=>simp [sv]at hu;subst hu;simpa using h5
 | 6=>simp [sv]at hu;subst hu;simpa using h6
 | n+7=>simp [sv]at hu
theorem sv_one(s:St):∀ u∈sv s,u.oneCell'=true:=by
 intro u hu
 simp [sv]at hu
 rcases hu with rfl |rfl |rfl |rfl |rfl |rfl |rfl<;>rfl
theorem down_leaf{cs0:List C}(key:Int)(h:HeapS arm room croom K w hb p q R t tr ws)(hA:AllB t.now)(hT:TreeAt w tb hb root)(hm:R tb)(hN:NodeAt t.now root true 0 cs0)(hKb:K≤500000) :
  Calls Tryz.prog 118 #[.pointer (some ⟨tb,0,none⟩),.int .i64 key] w (Gone1 arm room croom (K+1) hb p q R t tr ws root key cs0 w):=by
 have cf:=hid (fault_yes hT)
 have ct:=hid (top_yes hT)
 have HH:=hid h;have HA:=hid hA;have HT:=hid hT;have HM:=hid hm;have HN:=hid hN
 have ce:Hid (∀ W R',HeapS arm room croom K W hb p q R' t tr ws→TreeAt W tb hb root→R' tb→Calls Tryz.prog 154 #[.pointer (some ⟨tb,0,none⟩),.agg #[.int .i64 (root:Int),.int .i64 (-9223372036854775808),.int .i64 9223372036854775807,.bool false,.int .i64 0,.slice none 0 0,.int .i64 0]] W (Entered arm room croom (K+1) hb p q R' t tr ws root (-9223372036854775808) 9223372036854775807 true 0 cs0 W)):=hid (fun W R' h' hT' hm'=>by
  by_cases hz:cs0.length=0
  ·exact enter_root h' hA hT' hm' hN hKb (hold_all hN.key) hz
  ·exact enter_some h' hA hT' hm' hN hKb (hold_all hN.key) (by omega))
 obtain ⟨i57,hi57,hz0,hz1,hz2⟩:=info_parts info112
 have HI:=hid hi57;have HZ0:=hid hz0;have HZ1:=hid hz1;have HZ2:=hid hz2
 clear h hA hT hm hN hi57 hz0 hz1 hz2
 go_enter Tryz.func118,Tryz.ntmps118
 go_wp2_with (first
  | (go_at_call 57;refine cf.out.mono ?_;rintro e w1 ⟨rfl,h1⟩;obtain rfl:=h1.symm;clear h1)
  | (go_at_call 153;refine ct.out.mono ?_;rintro e w1 ⟨rfl,hb1⟩;have B1:=hid hb1;clear hb1))
 obtain ⟨q8,hq8⟩:∃ q8,q8=w1.heap.size:=⟨_,rfl⟩
 obtain ⟨W2,hW2⟩:∃ W2,W2=w1.alloc (.cells #[.int .i64 (root:Int),.int .i64 (-9223372036854775808),.int .i64 9223372036854775807,.bool false,.int .i64 0,.slice none 0 0,.int .i64 0] 140):=⟨_,rfl⟩
 have B2:=hid (show Below w.heap.size w W2 by rw [hW2];exact gt B1.out (ext1 _))
 have S8:=hid (show SB W2 q8 (bare root (-9223372036854775808) 9223372036854775807) by rw [hW2,hq8];exact SB.new w1 (bare root (-9223372036854775808) 9223372036854775807))
 rw [←hW2,←hq8]
 replace hW2:=hid hW2;replace hq8:=hid hq8
 go_loopw [7,18] (fun a c W=>a=.slice none 0 0∧c=.int .i64 0∧Hid (W=W2)) (fun _ _ _=>1)
 case atStart=>exact ⟨rfl,rfl,hid rfl⟩
 case round=>
  obtain ⟨rfl,rfl,HW⟩:=hrel
  have HWo:=HW.out
  obtain rfl:=HWo.symm
  clear HWo HW
  have cE:=hid (ce.out W2 _ (HH.out.news B2.out) (HT.out.keep B2.out) (Or.inl HM.out))
  obtain ⟨x0,x1,x2,x3,x4,x5,x6⟩:=S8.out.cells
  simp only [bare]at x0 x1 x2 x3 x4 x5 x6
  go_upto_region 11 with (go_at_call 154;refine cE.out.mono ?_;rintro e w3 ⟨co,cn,cc,cs,S,rfl,hP,hE,hS,hs,hk⟩;have P3:=hid hP;have E3:=hid hE;have N3:=hid hS;have H3:=hid hs;have K3:=hid hk;clear hP hE hS hs hk x0 x1 x2 x3 x4 x5 x6)
  obtain ⟨q9,hq9⟩:∃ q9,q9=w3.heap.size:=⟨_,rfl⟩
  obtain ⟨W4,hW4⟩:∃ W4,W4=w3.alloc (.cells #[.int .i64 (root:Int),.int .i64 (-9223372036854775808),.int .i64 9223372036854775807,.bool true,.int .i64 0,.slice co cn cc,.int .i64 0] 140):=⟨_,rfl⟩
  have B4:=hid (show Below w3.heap.size w3 W4 by rw [hW4];exact ext1 _)
  have S4:=hid (show SB W4 q9 ⟨root,-9223372036854775808,9223372036854775807,true,0,co,cn,cc,0⟩ by rw [hW4,hq9];exact SB.new w3 ⟨root,-9223372036854775808,9223372036854775807,true,0,co,cn,cc,0⟩)
  rw [←hW4,←hq9]
  replace hW4:=hid hW4;replace hq9:=hid hq9
  have hlen:cs.length=cs0.length:=by simpa using congrArg List.length E3.out
  have cc4:=hid (Cel.child_any true 0 co cn cc cs key W4 (P3.out.cs.keep B4.out) (node_few HN.out.has hlen P3.out.len))
  rw [fN_nrm key E3.out]at cc4
  generalize Cel.chN 0 key cs=CH at cc4
  obtain ⟨x0,x1,x2,x3,x4,x5,x6⟩:=S4.out.cells
  simp only at x0 x1 x2 x3 x4 x5 x6
  go_upto_region 12 with (go_at_call 177;refine cc4.out.mono ?_;rintro e w5 ⟨rfl,hb5⟩;have B5:=hid hb5;have S5:=hid (S4.out.keep hb5);clear hb5 x0 x1 x2 x3 x4 x5 x6;obtain ⟨x0,x1,x2,x3,x4,x5,x6⟩:=S5.out.cells;simp only at x0 x1 x2 x3 x4 x5 x6;have fx:=S5.out.fz 6)
  obtain ⟨F,hF⟩:∃ F,F=Cel.fN key cs0:=⟨_,rfl⟩
  rw [←hF]
  have HF:=hid hF
  clear hF
  obtain ⟨W6,hW6⟩:∃ W6,W6=w5.setCell ⟨q9,6,none⟩ (.int .i64 (F:Int)):=⟨_,rfl⟩
  have F6:=hid (show Fr (fun k=>k=q9) w5 W6 by rw [hW6];exact (Fr.of_below (S:=fun k=>k=q9) (Below.refl _ _)).set (Or.inl rfl) _)
  have S6:=hid (show SB W6 q9 ⟨root,-9223372036854775808,9223372036854775807,true,0,co,cn,cc,(F:Int)⟩ by
   have h0:=heap_setCell_same _ q9 6 _ 140 (.int .i64 (F:Int)) S5.out
   rw [hW6];unfold SB;rw [h0];simp)
  rw [←hW6]
  replace hW6:=hid hW6
  clear x0 x1 x2 x3 x4 x5 x6 fx
  obtain ⟨x0,x1,x2,x3,x4,x5,x6⟩:=S6.out.cells
  simp only at x0 x1 x2 x3 x4 x5 x6
  have S7n:=hid (SB.new W6 ⟨root,-9223372036854775808,9223372036854775807,true,0,co,cn,cc,(F:Int)⟩)
  go_upto_region 13 with ((with_reducible refine Cel.here_op 40 ?_);refine wpList_append_own _ rfl (.tmp 37) (.tmp 39) 149 rfl W6.heap.size 140 i57 (.agg #[.int .i64 0,.int .i64 0,.int .i64 0,.bool false,.int .i64 0,.slice none 0 0,.int .i64 0]) 7 72 u122 HI.out HZ0.out HZ1.out HZ2.out rfl (by decide) (.slice none 0 0) 0 [] rfl (World.ownsRow_nil _ _ _ _) ⟨W6.heap.size,0,none⟩ 1 1 (sv ⟨root,-9223372036854775808,9223372036854775807,true,0,co,cn,cc,(F:Int)⟩) rfl rfl (sv_cells S7n.out) (sv_one _) (by unfold maxLen;omega) (by omega) (by simp) ?_;intro v8 w8 ho8 hg8 hnil8;obtain ⟨ao8,cap8,rfl⟩:=Cel.row_form ho8;have O8:=hid ho8;have G8:=hid hg8;clear ho8 hg8 hnil8)
  have B8:=hid (show Below W6.heap.size W6 w8 from gt (ext1 _) ((Below.refl _ _).grown G8.out (Nat.le_refl _) (fun k e=>by cases e)))
  have S8':=hid (S6.out.keep B8.out)
  clear x0 x1 x2 x3 x4 x5 x6
  obtain ⟨x0,x1,x2,x3,x4,x5,x6⟩:=S8'.out.cells
  simp only at x0 x1 x2 x3 x4 x5 x6
  have hg:∃ g,ao8=some ⟨g,0,none⟩∧W6.heap.size≤g∧g<w8.heap.size:=by
   rcases O8.out.2 with ⟨h1,h2⟩ | ⟨g,cap,cur,e,hb,hgg,h2⟩
   ·simp at h2
   ·simp only [Value.slice.injEq]at e
    exact ⟨g,e.1,hb,(Array.getElem?_eq_some_iff.1 hgg).1⟩
  obtain ⟨g8,rfl,hg1,hg2⟩:=hg
  replace hg1:=hid hg1;replace hg2:=hid hg2
  go_wp2
  go_ret2
  have h9:=hq9.out
  have B36:Below w3.heap.size w3 W6:=by rw [hW6.out];exact below_set (gt B4.out B5.out) (by simp;omega) _
  have B38:=gt B36 B8.out
  have H8:=H3.out.news B38
  have s1:=B2.out.size;have s2:=K3.out.size;have s3:=B36.size;have s4:=hg1.out
  rw [HF.out]at O8
  refine ⟨g8,cap8,co,cn,cc,cs,fun b=>S b∨b=g8,rfl,⟨Cel.own_low O8.out (Nat.zero_le _),Or.inr rfl,(P3.out.keep B38).more (fun b h=>Or.inl h)⟩,E3.out,fun b hb=>?_,H8.less (fun b hb=>?_) (Or.inl HH.out.mem),(Rok.after B2.out K3.out (fun b h=>Or.inl h)).below B38⟩
  ·rcases hb with hb |rfl
   ·have:=N3.out b hb;omega
   ·omega
  ·rcases hb with hb |hb |rfl
   ·exact Or.inl (Or.inl (Or.inl hb))
   ·exact Or.inl (Or.inr hb)
   ·exact Or.inr ⟨by omega,hg2.out⟩
end
end Tre
namespace Tre
open Go.RowKit Go.Maps
open Dsk (gt hid undrew keep_old keep_cell lt_cell newD)
open Jrn (Row5)
open Cch (Fr wpAnyK wpAnyK_done wp_region_K hd_cell hd_frozen blk_set)
open Cel (C Cs Cok NB At5 ext1 below_set I64 nrm hasN pageN)
open Spl (Same AllB)
section
variable {arm:Prop} {room croom K:Nat} {p q:Nat} {R:Nat→Prop} {t:RS} {w:World} {hb tb root:Nat} {tr:List (Nat×List Nat)} {ws:List Nat}
theorem wayleaf_one(g cap:Nat)(w:World):Calls Tryz.prog 75 #[.slice (some ⟨g,0,none⟩) 1 cap] w fun e w'=>e=.returned (.pointer (some ⟨g,0,none⟩))∧w'=w:=by
 have t:True:=trivial
 go_enter Tryz.func75,Tryz.ntmps75
 go_wp2
 go_ret
 exact ⟨rfl,rfl⟩
variable {v0 v1 v2 v3 v4:Value} {q:Nat} {W:World}
theorem box5{t:TypeId}{a0 a1 a2 a3 a4:Value}(h:W.heap[q]? = some (.cells #[a0,a1,a2,a3,a4] t (0,0))):(((((W.setCell ⟨q,0,none⟩ v0).setCell ⟨q,1,none⟩ v1).setCell ⟨q,2,none⟩ v2).setCell ⟨q,3,none⟩ v3).setCell ⟨q,4,none⟩ v4).heap[q]? = some (.cells #[v0,v1,v2,v3,v4] t (0,0)):=by
 have h0:=heap_setCell_same _ q 0 _ t v0 h
 have h1:=heap_setCell_same _ q 1 _ t v1 h0
 have h2:=heap_setCell_same _ q 2 _ t v2 h1
 have h3:=heap_setCell_same _ q 3 _ t v3 h2
 have h4:=heap_setCell_same _ q 4 _ t v4 h3
 rw [h4];simp
theorem below5{B:Nat}{w:World}(h:Below B w W)(hq:B≤q):Below B w (((((W.setCell ⟨q,0,none⟩ v0).setCell ⟨q,1,none⟩ v1).setCell ⟨q,2,none⟩ v2).setCell ⟨q,3,none⟩ v3).setCell ⟨q,4,none⟩ v4):=below_set (below_set (below_set (below_set (below_set h hq _) hq _) hq _) hq _) hq _
def noC(key:Int)(F:Nat)(cs:List C):Prop:=F=cs.length∨(F<cs.length∧(cs.getD F default).k≠key)
theorem cell_no(s:St)(cs:List C)(F:Nat)(key:Int)(w:World)(h:Cs w s.co s.cn s.cc cs)(hF:s.pl=(F:Int))(hno:noC key F cs) :
  Calls Tryz.prog 72 #[.agg #[.int .i64 (s).pg,.int .i64 (s).lo,.int .i64 (s).hi,.bool (s).leaf,.int .i64 (s).r,.slice (s).co (s).cn (s).cc,.int .i64 (s).pl],.int .i64 key] w fun e w'=>e=.returned (.tuple #[.agg #[.int .i64 0,.int .i64 0,.int .i64 0,.slice none 0 0,.int .i64 0],.bool false])∧Below w.heap.size w w':=by
 obtain ⟨pg,lo,hi,leaf,r,co,cn,cc,pl⟩:=s
 simp only at *
 subst hF
 have hl:=h.len
 obtain ⟨W1,hW1⟩:∃ W1,W1=(w.alloc (.cells #[.int .i64 pg,.int .i64 lo,.int .i64 hi,.bool leaf,.int .i64 r,.slice co cn cc,.int .i64 (F:Int)] 140)).alloc (.cells #[.int .i64 0,.int .i64 0,.int .i64 0,.slice none 0 0,.int .i64 0] 144):=⟨_,rfl⟩
 have B1:Below w.heap.size w W1:=by rw [hW1];exact gt (ext1 _) (ext1 _)
 have s1:SB W1 w.heap.size ⟨pg,lo,hi,leaf,r,co,cn,cc,F⟩:=by rw [hW1];exact (SB.new w ⟨pg,lo,hi,leaf,r,co,cn,cc,F⟩).keep (ext1 _)
 have b1:W1.heap[w.heap.size+1]? = some (.cells #[.int .i64 0,.int .i64 0,.int .i64 0,.slice none 0 0,.int .i64 0] 144 (0,0)):=by
  have:=heap_alloc_new (w.alloc (.cells #[.int .i64 pg,.int .i64 lo,.int .i64 hi,.bool leaf,.int .i64 r,.slice co cn cc,.int .i64 (F:Int)] 140)) (.cells #[.int .i64 0,.int .i64 0,.int .i64 0,.slice none 0 0,.int .i64 0] 144)
  simp only [World.size_alloc]at this
  rw [hW1];exact this
 obtain ⟨q4,hq4⟩:∃ q4,q4=w.heap.size+1:=⟨_,rfl⟩
 rw [←hq4]at b1
 have HB:=hid b1;have BB:=hid B1
 obtain ⟨x0,x1,x2,x3,x4,x5,x6⟩:=s1.cells
 simp only at x0 x1 x2 x3 x4 x5 x6
 obtain ⟨z0,z1,z2,z3,z4⟩:W1.cell? ⟨q4,0,none⟩=some (.int .i64 0)∧W1.cell? ⟨q4,1,none⟩=some (.int .i64 0)∧W1.cell? ⟨q4,2,none⟩=some (.int .i64 0)∧W1.cell? ⟨q4,3,none⟩=some (.slice none 0 0)∧W1.cell? ⟨q4,4,none⟩=some (.int .i64 0):=by simp [World.cell?,b1]
 have fz:∀ i,W1.frozen? ⟨q4,i,none⟩=false:=fun i=>by simp [World.frozen?,b1]
 have f0:=fz 0;have f1:=fz 1;have f2:=fz 2;have f3:=fz 3;have f4:=fz 4
 have hb5:=hid (box5 (v0:=.int .i64 0) (v1:=.int .i64 0) (v2:=.int .i64 0) (v3:=.slice none 0 0) (v4:=.int .i64 0) b1)
 rcases hno with hFc | ⟨hlt,hne⟩
 ·have e1:((F:Int) == (cn:Int))=true:=by simp;omega
  clear fz s1 b1 h B1 hl hFc
  go_enter Tryz.func72,Tryz.ntmps72
  go_upto_region 1 with fail
  rw [←hW1,←hq4]
  replace hW1:=hid hW1;replace hq4:=hid hq4
  go_wp2
  refine bodyPost_ret (ret_b2 (a:=4) (u:=5) (by kernel_rfl) (by kernel_rfl) (by kernel_rfl) rfl hb5.out) rfl ?_
  have:=hq4.out
  exact ⟨rfl,below5 BB.out (by omega)⟩
 ·have hFn:F<cn:=by omega
  have e1:((F:Int) == (cn:Int))=false:=by simp;omega
  obtain ⟨b,off,rfl,hc⟩:=h.at_ (by omega)
  have k1:=keep_old B1 (hc F hFn).1
  generalize (cs.getD F default).k=kk at *
  have e2:(kk != key)=true:=by simpa using hne
  have n1:(0:Int)≤(F:Int):=by omega
  have n2:(F:Int)<(cn:Int):=by omega
  clear fz s1 b1 h B1 hc hne hl hlt
  go_enter Tryz.func72,Tryz.ntmps72
  go_upto_region 1 with fail
  rw [←hW1,←hq4]
  replace hW1:=hid hW1;replace hq4:=hid hq4
  go_wp2
  refine bodyPost_ret (ret_b2 (a:=4) (u:=5) (by kernel_rfl) (by kernel_rfl) (by kernel_rfl) rfl hb5.out) rfl ?_
  have:=hq4.out
  exact ⟨rfl,below5 BB.out (by omega)⟩
theorem spilt_any(a:C)(w:World)(h1:I64 (a.l - a.n)):Calls Tryz.prog 133 #[.agg #[.int .i64 (a).k,.int .i64 (a).c,.int .i64 (a).l,.slice (a).o (a).n (a).m,.int .i64 (a).x]] w fun e w'=>e=.returned (.int .i64 (a.l - a.n))∧Below w.heap.size w w':=by
 have hw:IntKind.i64.wrap (a.l - (a.n:Int))=a.l - (a.n:Int):=by rw [IntKind.wrap_i64];obtain ⟨x,y⟩:=h1;omega
 clear h1
 go_enter Tryz.func133,Tryz.ntmps133
 go_wp2
 go_ret
 exact ⟨rfl,ext1 _⟩
theorem refusal_yes(h:HeapS arm room croom K w hb p q R t tr ws)(hT:TreeAt w tb hb root) :
  Calls Tryz.prog 69 #[.pointer (some ⟨tb,0,none⟩)] w fun e w'=>e=.returned (.int .i64 0)∧HeapS arm room croom (K+1) w' hb p q R t tr ws∧Rok R w w':=by
 have cf:=hid (fault_yes hT)
 have cp:=hid (Spl.Pager_yes h.heap)
 have cu:=hid (prg_put_range 0 (.slice none 0 0) h.prg h.busy (by simp))
 have HH:=hid h
 obtain ⟨c0,c1⟩:=hT.cells
 clear h hT
 go_enter Tryz.func69,Tryz.ntmps69
 go_wp2_with (first
  | (go_at_call 57;refine cf.out.mono ?_;rintro e w1 ⟨rfl,h1⟩;obtain rfl:=h1.symm;clear h1)
  | (go_at_call 19;refine cp.out.mono ?_;rintro e w1 ⟨rfl,h1⟩;obtain rfl:=h1.symm;clear h1)
  | (go_at_call 113;refine cu.out.mono ?_;rintro e w2 ⟨rfl,hP,hk⟩;have P2:=hid hP;have K2:=hid hk;clear hP hk))
 go_ret
 exact ⟨rfl,HH.out.mv P2.out (HH.out.heap.rok K2.out HH.out.mem) HH.out.mem,K2.out⟩
theorem changing_leaf{cs0:List C}(key:Int)(h:HeapS arm room croom K w hb p q R t tr ws)(hA:AllB t.now)(hT:TreeAt w tb hb root)(hm:R tb)(hN:NodeAt t.now root true 0 cs0)(hKb:K+1≤500000) :
  Calls Tryz.prog 74 #[.pointer (some ⟨tb,0,none⟩),.int .i64 key] w (Gone1 arm room croom (K+1+1) hb p q R t tr ws root key cs0 w):=by
 have cr:=hid (refusal_yes h hT)
 have HM:=hid hm;have HT:=hid hT
 have cd:Hid (∀ W,HeapS arm room croom (K+1) W hb p q R t tr ws→TreeAt W tb hb root→Calls Tryz.prog 118 #[.pointer (some ⟨tb,0,none⟩),.int .i64 key] W (Gone1 arm room croom (K+1+1) hb p q R t tr ws root key cs0 W)):=hid (fun W h' hT'=>down_leaf key h' hA hT' hm hN hKb)
 clear h hA hT hm hN
 go_enter Tryz.func74,Tryz.ntmps74
 go_wp2_with (first
  | (go_at_call 69;refine cr.out.mono ?_;rintro e w1 ⟨rfl,hs,hk⟩;have H1:=hid hs;have K1:=hid hk;clear hs hk)
  | (go_at_call 118;refine (cd.out w1 H1.out (HT.out.rok K1.out HM.out)).mono ?_;rintro e w2 ⟨g,cap,co,cn,cc,cs,S,rfl,hW,hE,hS,hs,hk⟩;have Y:=hid (And.intro hW (And.intro hE (And.intro hS (And.intro hs hk))));clear hW hE hS hs hk))
 go_ret2
 obtain ⟨hW,hE,hS,hs,hk⟩:=Y.out
 exact ⟨g,cap,co,cn,cc,cs,S,rfl,hW,hE,fun b hb=>Nat.le_trans K1.out.size (hS b hb),hs,K1.out.then hk (fun _ h=>h)⟩
end
end Tre
namespace Tre
open Go.RowKit Go.Maps
open Dsk (gt hid undrew keep_old keep_cell lt_cell newD)
open Jrn (Row5)
open Cch (Fr wpAnyK wpAnyK_done wp_region_K hd_cell hd_frozen blk_set)
open Cel (C Cs Cok NB At5 ext1 below_set I64 nrm hasN pageN)
open Spl (Same AllB)
section
variable {arm:Prop} {room croom K:Nat} {p q:Nat} {R:Nat→Prop} {t:RS} {w:World} {hb tb root:Nat} {tr:List (Nat×List Nat)} {ws:List Nat}
theorem al5(w:World)(o:Obj)(W1:World)(v0 v1 v2 v3 v4:Value)(t:TypeId)(h:W1=(w.alloc o).alloc (.cells #[v0,v1,v2,v3,v4] t)):W1.heap[w.heap.size+1]? = some (.cells #[v0,v1,v2,v3,v4] t (0,0)):=by
 have:=heap_alloc_new (w.alloc o) (.cells #[v0,v1,v2,v3,v4] t)
 simp only [World.size_alloc]at this
 rw [h];exact this
variable {t:TypeId} {q:Nat} {W:World}
theorem cells5{v0 v1 v2 v3 v4:Value}(h:W.heap[q]? = some (.cells #[v0,v1,v2,v3,v4] t (0,0))):W.cell? ⟨q,0,none⟩=some v0∧W.cell? ⟨q,1,none⟩=some v1∧W.cell? ⟨q,2,none⟩=some v2∧W.cell? ⟨q,3,none⟩=some v3∧W.cell? ⟨q,4,none⟩=some v4:=by simp [World.cell?,h]
theorem fz5{A:Array Value}(h:W.heap[q]? = some (.cells A t (0,0)))(i:Nat):W.frozen? ⟨q,i,none⟩=false:=by simp [World.frozen?,h]
theorem keep_nil(tb:Nat)(key:Int)(w:World) :
  Calls Tryz.prog 77 #[.pointer (some ⟨tb,0,none⟩),.int .i64 key,.slice none 0 0] w fun e w'=>e=.returned (.tuple #[.agg #[.int .i64 key,.int .i64 0,.int .i64 0,.slice none 0 0,.int .i64 0],.int .i64 0])∧Below w.heap.size w w':=by
 have cl:=hid (Cel.local_any 0)
 have hloc:Cel.locN (0:Int)=0:=by rfl
 rw [hloc]at cl
 have cs':=hid (fun W=>spilt_any ⟨key,0,0,none,0,0,0,[]⟩ W (by simp [I64]))
 simp only at cs'
 obtain ⟨W1,hW1⟩:∃ W1,W1=(w.alloc (.cells #[.int .i64 0,.int .i64 0,.int .i64 0,.slice none 0 0,.int .i64 0] 144)).alloc (.cells #[.int .i64 key,.int .i64 0,.int .i64 0,.slice none 0 0,.int .i64 0] 144):=⟨_,rfl⟩
 have b9:=al5 w _ W1 _ _ _ _ _ 144 hW1
 have b6:W1.heap[w.heap.size]? = some (.cells #[.int .i64 0,.int .i64 0,.int .i64 0,.slice none 0 0,.int .i64 0] 144 (0,0)):=by rw [hW1];exact ((ext1 _).block _ (by simp)).trans (heap_alloc_new w _)
 have B1:Below w.heap.size w W1:=by rw [hW1];exact gt (ext1 _) (ext1 _)
 obtain ⟨q9,hq9⟩:∃ q9,q9=w.heap.size+1:=⟨_,rfl⟩
 obtain ⟨q6,hq6⟩:∃ q6,q6=w.heap.size:=⟨_,rfl⟩
 rw [←hq9]at b9;rw [←hq6]at b6
 have H9:=hid b9;have H6:=hid b6;have BB:=hid B1
 clear hloc B1 b6
 obtain ⟨x0,x1,x2,x3,x4⟩:=cells5 b9
 clear b9
 go_enter Tryz.func77,Tryz.ntmps77
 go_upto_region 3 with (go_at_call 138;refine (cl.out _).mono ?_;rintro e w1 ⟨rfl,h1⟩;obtain rfl:=h1.symm;clear h1)
 rw [←hW1,←hq9,←hq6]
 replace hW1:=hid hW1;replace hq9:=hid hq9;replace hq6:=hid hq6
 go_upto_region 4 with (go_at_call 133;refine (cs'.out _).mono ?_;rintro e w2 ⟨rfl,hb2⟩;have B2:=hid hb2;have K9:=hid ((hb2.block q9 (Array.getElem?_eq_some_iff.1 H9.out).1).trans H9.out);have K6:=hid ((hb2.block q6 (Array.getElem?_eq_some_iff.1 H6.out).1).trans H6.out);clear hb2 x0 x1 x2 x3 x4)
 obtain ⟨x0,x1,x2,x3,x4⟩:=cells5 K9.out
 obtain ⟨z0,z1,z2,z3,z4⟩:=cells5 K6.out
 have f0:=fz5 K6.out 0;have f1:=fz5 K6.out 1;have f2:=fz5 K6.out 2;have f3:=fz5 K6.out 3;have f4:=fz5 K6.out 4
 go_wp2
 refine bodyPost_ret (ret_b2 (a:=6) (u:=7) (by kernel_rfl) (by kernel_rfl) (by kernel_rfl) rfl (box5 K6.out)) rfl ?_
 exact ⟨rfl,below5 (gt BB.out B2.out) (Nat.le_of_eq hq6.out.symm)⟩
theorem remove_no{S:Nat→Prop}(g cap F:Nat)(s:St)(cs:List C)(key:Int)(h:Way1 S w g cap s cs)(hF:s.pl=(F:Int))(hno:noC key F cs) :
  Calls Tryz.prog 76 #[.pointer (some ⟨tb,0,none⟩),.pointer (some ⟨g,0,none⟩),.int .i64 key] w fun e w'=>e=.returned (.tuple #[.bool false,.int .i64 0])∧Below w.heap.size w w':=by
 have cc:=hid (cell_no s cs F key w h.nod.cs hF hno)
 obtain ⟨x0,x1,x2,x3,x4,x5,x6⟩:=h.cells
 obtain ⟨pg,lo,hi,leaf,r,co,cn,cca,pl⟩:=s
 simp only at *
 clear h hno hF
 go_enter Tryz.func76,Tryz.ntmps76
 go_wp2_with (go_at_call 72;refine cc.out.mono ?_;rintro e w1 ⟨rfl,hb1⟩;have B1:=hid hb1;clear hb1)
 go_ret2
 exact ⟨rfl,gt B1.out (ext1 _)⟩
abbrev SRm(g:Nat)(gc m cc F:Nat)(W:World):Prop:=W.cell? ⟨g,5,none⟩=some (.slice (some ⟨gc,0,none⟩) (m+1) cc)∧W.cell? ⟨g,6,none⟩=some (.int .i64 (F:Int))
variable {g cap:Nat}
theorem sv_set{s:St}(h:W.ownsRow 0 140 7 (.slice (some ⟨g,0,none⟩) 1 cap) 1 (sv s))(co:Option Addr)(cn cc:Nat):(W.setCell ⟨g,5,none⟩ (.slice co cn cc)).ownsRow 0 140 7 (.slice (some ⟨g,0,none⟩) 1 cap) 1 (sv { s with co:=co,cn:=cn,cc:=cc }):=by
 obtain ⟨cur,hg,h1,h2,h3,h4⟩:=row_parts h
 have h0:=heap_setCell_same _ g 5 _ 140 (.slice co cn cc) hg
 refine ⟨rfl,.inr ⟨g,cap,_,rfl,Nat.zero_le _,h0,h1,h2,by simpa using h3,?_⟩⟩
 have e:(cur.setIfInBounds 5 (.slice co cn cc)).toList.take 7=(cur.toList.take 7).set 5 (.slice co cn cc):=by
  rw [Array.toList_setIfInBounds,List.take_set]
 simp only [Nat.one_mul]at h4 ⊢
 rw [e,h4];rfl
variable {xs:List Value} {n k:Nat}
theorem row_same{W':World}(h:W.ownsRow 0 t k (.slice (some ⟨g,0,none⟩) n cap) n xs)(hf:W'.heap[g]? = W.heap[g]?):W'.ownsRow 0 t k (.slice (some ⟨g,0,none⟩) n cap) n xs:=by
 obtain ⟨cur,hg,h1,h2,h3,h4⟩:=row_parts h
 exact ⟨h.1,.inr ⟨g,cap,cur,rfl,Nat.zero_le _,hf.trans hg,h1,h2,h3,h4⟩⟩
theorem t5_row{b:Nat}(h5:Cel.T5 W b)(h:W.ownsRow 0 t k (.slice (some ⟨g,0,none⟩) n cap) n xs)(ht:t≠5):b≠g:=by
 rintro rfl
 obtain ⟨cur,hg,_⟩:=row_parts h
 obtain ⟨D,m,hx⟩:=h5
 rw [hx]at hg
 simp only [Option.some.injEq,Obj.cells.injEq]at hg
 exact ht hg.2.1.symm
end
end Tre
namespace Tre
open Go.RowKit Go.Maps
open Dsk (gt hid undrew keep_old keep_cell lt_cell newD)
open Jrn (Row5)
open Cch (Fr wpAnyK wpAnyK_done wp_region_K hd_cell hd_frozen blk_set)
open Cel (C Cs Cok NB At5 ext1 below_set I64 nrm hasN pageN)
open Spl (Same AllB)
section
variable {arm:Prop} {room croom K:Nat} {p q:Nat} {R:Nat→Prop} {t:RS} {w:World} {hb tb root:Nat} {tr:List (Nat×List Nat)} {ws:List Nat}
abbrev SRt(tb root q:Nat)(co:Option Addr)(cn cc:Nat)(W:World):Prop:=W.cell? ⟨tb,1,none⟩=some (.int .i64 (root:Int))∧W.cell? ⟨q,0,none⟩=some (.bool true)∧W.cell? ⟨q,1,none⟩=some (.int .i64 0)∧W.cell? ⟨q,2,none⟩=some (.slice co cn cc)
variable {cs:List C} {cn cc:Nat} {co:Option Addr}
theorem root_leaf(h:HeapS arm room croom K w hb p q R t tr ws)(hT:TreeAt w tb hb root)(hm:R tb)(hC:Cs w co cn cc cs)(hf:Cel.Few cs)(hy:hasN true 0 cs=true)(h1:2≤root)(h2:root≤t.now.length)(hnf:root∉flat tr)(hKb:K≤500000) :
  Calls Tryz.prog 146 #[.pointer (some ⟨tb,0,none⟩),.agg #[.bool true,.int .i64 0,.slice co cn cc]] w fun e w'=>e=.returned (.int .i64 0)∧HeapS arm room croom (K+1) w' hb p q R (t.put (root - 1) (pageN true 0 cs)) tr ws∧Same [root] t.now (t.put (root - 1) (pageN true 0 cs)).now∧(AllB t.now→AllB (t.put (root - 1) (pageN true 0 cs)).now)∧(t.put (root - 1) (pageN true 0 cs)).now.getD (root - 1) []=pageN true 0 cs∧Rok R w w':=by
 obtain ⟨W0,hW0⟩:∃ W0,W0=w.alloc (.cells #[.bool true,.int .i64 0,.slice co cn cc] 111):=⟨_,rfl⟩
 have B0:Below w.heap.size w W0:=by rw [hW0];exact ext1 _
 obtain ⟨q0,hq0⟩:∃ q0,q0=w.heap.size:=⟨_,rfl⟩
 have N0:NB 111 W0 q0 true 0 co cn cc:=by rw [hW0,hq0];exact NB.new 111 w true 0 co cn cc
 have H0:=hid (h.news B0)
 have T0:=hid (hT.keep B0)
 have C0:=hid (hC.keep B0)
 have mq:Hid (NewR R w W0 q0):=hid (Or.inr ⟨by omega,N0.lt⟩)
 have hsz:Cel.sizeN true cs≤512:=by unfold hasN at hy;simp at hy;exact hy.2
 have cf:=hid (Cel.fits_any true 0 co cn cc cs W0 C0.out hf)
 rw [decide_eq_true hsz]at cf
 have cw:Hid (∀ W R',HeapS arm room croom K W hb p q R' t tr ws→TreeAt W tb hb root→R' tb→Cs W co cn cc cs→Calls Tryz.prog 56 #[.pointer (some ⟨tb,0,none⟩),.int .i64 (root:Int),.agg #[.bool true,.int .i64 0,.slice co cn cc]] W fun e w'=>e=.returned (.int .i64 0)∧HeapS arm room croom (K+1) w' hb p q R' (t.put (root - 1) (pageN true 0 cs)) tr ws∧Same [root] t.now (t.put (root - 1) (pageN true 0 cs)).now∧(AllB t.now→AllB (t.put (root - 1) (pageN true 0 cs)).now)∧(t.put (root - 1) (pageN true 0 cs)).now.getD (root - 1) []=pageN true 0 cs∧Rok R' W w'):=hid (fun W R' h' hT' hm' hC'=>write_yes h' hT' hm' hC' hf hy h1 h2 hnf hKb)
 have HH:=hid h;have HM:Hid (NewR R w W0 tb):=hid (Or.inl hm)
 have BB:=hid B0;have NN:=hid N0
 obtain ⟨u0,u1,u2⟩:=N0.cells
 clear h hT hm hC B0 N0 hf hy h1 h2 hnf hsz
 generalize pageN true 0 cs=X at *
 go_enter Tryz.func146,Tryz.ntmps146
 go_upto_region 1 with fail
 rw [←hW0,←hq0]
 replace hW0:=hid hW0;replace hq0:=hid hq0
 go_upto_region 8 with (go_at_call 143;refine cf.out.mono ?_;rintro e w1 ⟨rfl,hb1⟩;have B1:=hid hb1;clear u0 u1 u2;have N1:=hid (NN.out.keep hb1);obtain ⟨u0,u1,u2⟩:=N1.out.cells;clear hb1)
 have B1d:=hid (show Below W0.heap.size W0 w1.drew from B1.out.drew)
 have g1:SRt tb root q0 co cn cc w1.drew:=⟨(T0.out.keep B1d.out).cells.2,(NN.out.keep B1d.out).cells⟩
 refine wp_region_K (S:=SRt tb root q0 co cn cc) (fun _=>false) (by kernel_rfl) (g1) (fun hHeld=>?_)
 refine gkp 0 ?_
 refine gkp 1 ?_
 refine gkp 2 ?_
 refine gkp 3 ?_
 refine gkt 4 ?_ (h:=by intro W hSw;obtain ⟨y0,y1,y2,y3⟩:=hSw;go_simp;first |done |with_reducible rfl)
 refine gkt 5 ?_ (h:=by intro W hSw;obtain ⟨y0,y1,y2,y3⟩:=hSw;go_simp;first |done |with_reducible rfl)
 refine gk1 6 (fun K hK=>?_)
 go_simp
 go_at_call 56;refine (cw.out _ _ (H0.out.keep B1d.out) (T0.out.keep B1d.out) HM.out (C0.out.keep B1d.out)).mono ?_;rintro e w3 ⟨rfl,hs3,hsm,hal,hgd,hk3⟩;have HS3:=hid hs3;have E3:=hid (And.intro hsm (And.intro hal hgd));have K3:=hid hk3;have hR:SRt tb root q0 co cn cc w3:=(⟨((T0.out.keep B1d.out).rok hk3 HM.out).cells.2,(show NB 111 w3 q0 true 0 co cn cc from (hk3.at_ mq.out (NN.out.keep B1d.out).lt).trans (NN.out.keep B1d.out)).cells⟩);clear hs3 hsm hal hgd hk3
 refine hK.out _ _ hR (fun hHeld=>?_)
 clear hK K
 (try simp only [Act.put,sA,sZ,sS])
 refine gkp 7 ?_
 refine wpAnyK_done (by kernel_rfl) ?_ _
 go_wp2
 go_ret
 exact ⟨rfl,HS3.out.less (fun b h=>Or.inl h) HH.out.mem,E3.out.1,E3.out.2.1,E3.out.2.2,Rok.after (gt BB.out B1d.out) K3.out (fun b h=>Or.inl h)⟩
theorem settle_one{S:Nat→Prop}{g cap:Nat}{pg lo hi pl:Int}(h:HeapS arm room croom K w hb p q R t tr ws)(hT:TreeAt w tb hb root)(hm:R tb)(hW:Way1 S w g cap ⟨pg,lo,hi,true,0,co,cn,cc,pl⟩ cs)(hf:Cel.Few cs)(hy:hasN true 0 cs=true)(h1:2≤root)(h2:root≤t.now.length)(hnf:root∉flat tr)(hKb:K≤500000) :
  Calls Tryz.prog 79 #[.pointer (some ⟨tb,0,none⟩),.slice (some ⟨g,0,none⟩) 1 cap] w fun e w'=>e=.returned (.int .i64 0)∧HeapS arm room croom (K+1) w' hb p q R (t.put (root - 1) (pageN true 0 cs)) tr ws∧Same [root] t.now (t.put (root - 1) (pageN true 0 cs)).now∧(AllB t.now→AllB (t.put (root - 1) (pageN true 0 cs)).now)∧(t.put (root - 1) (pageN true 0 cs)).now.getD (root - 1) []=pageN true 0 cs∧Rok R w w':=by
 have cr:=hid (root_leaf h hT hm hW.nod.cs hf hy h1 h2 hnf hKb)
 obtain ⟨x0,x1,x2,x3,x4,x5,x6⟩:=hW.cells
 simp only at x0 x1 x2 x3 x4 x5 x6
 clear h hT hm hW hf hy h1 h2 hnf
 generalize pageN true 0 cs=X at *
 go_enter Tryz.func79,Tryz.ntmps79
 go_wp2
 go_loopw [5] (fun c W=>c=.int .i64 0∧Hid (W=w)) (fun _ _=>1)
 case atStart=>exact ⟨rfl,hid rfl⟩
 case round=>
  obtain ⟨rfl,HW⟩:=hrel
  have HWo:=HW.out
  obtain rfl:=HWo.symm
  clear HWo HW
  go_wp2_with (go_at_call 146;refine cr.out.mono ?_;rintro e w1 ⟨rfl,hy⟩;have Y:=hid hy;clear hy)
  (try simp only [Exit.inBlock,Exit.then])
  go_ret
  exact ⟨rfl,Y.out⟩
end
end Tre
namespace Tre
open Go.RowKit Go.Maps
open Dsk (gt hid undrew keep_old keep_cell lt_cell newD)
open Jrn (Row5)
open Cch (Fr wpAnyK wpAnyK_done wp_region_K hd_cell hd_frozen blk_set)
open Cel (C Cs Cok NB At5 ext1 below_set I64 nrm hasN pageN)
open Spl (Same AllB)
section
variable {arm:Prop} {room croom K:Nat} {p q:Nat} {R:Nat→Prop} {t:RS} {w:World} {hb tb root:Nat} {tr:List (Nat×List Nat)} {ws:List Nat}
variable {W W':World}
theorem fr_grown{v:Value}(h:W.grownBy W' v.ownBlock):Fr (fun b=>v.ownBlock=some b) W W':=⟨h.os,h.tape,h.output,h.size,fun k hk hne=>h.block k hk (fun e=>hne e.symm)⟩
def eC(key:Int)(xs:List Nat):C:=⟨key,0,xs.length,none,0,0,0,xs⟩
variable {cn cc:Nat} {co:Option Addr}
theorem own_blk{n k:Nat}{t:TypeId}{xs:List Value}(h:W.ownsRow 0 t k (.slice co cn cc) n xs){b:Nat}(hb:(Value.slice co cn cc).ownBlock=some b):co=some ⟨b,0,none⟩∧∃ cur,W.heap[b]? = some (.cells cur t (0,0)):=by
 rcases h.2 with ⟨h1,_⟩ | ⟨g,cap,cur,e,_,hgg,_⟩
 ·rw [h1]at hb;simp [Value.ownBlock]at hb
 ·rw [e]at hb
  simp [Value.ownBlock]at hb
  subst hb
  simp only [Value.slice.injEq]at e
  exact ⟨e.1,cur,hgg⟩
variable {a:C} {cs:List C} {pl r pg lo hi:Int} {leaf:Bool} {g cap:Nat} {w6:World} {S:Nat→Prop}
theorem way_put{co':Option Addr}{cc':Nat}(h:Way1 S W g cap ⟨pg,lo,hi,leaf,r,co,cn,cc,pl⟩ cs)(ho:w6.ownsRow 0 144 5 (.slice co' (cn+1) cc') (cn+1) (Cel.cv (cs++[a])))(hg:W.grownBy w6 (Value.slice co cn cc).ownBlock)(hnew:∀ b o,co'=some ⟨b,o,none⟩→S b∨(W.heap.size≤b∧b<w6.heap.size))(ha:Cok W a)(ha5:0<a.n→∀ b o,a.o=some ⟨b,o,none⟩→Cel.T5 W b) :
  Way1 (fun b=>(S b∨(W.heap.size≤b∧b<w6.heap.size))∨∃ o,a.o=some ⟨b,o,none⟩) (w6.setCell ⟨g,5,none⟩ (.slice co' (cn+1) cc')) g cap ⟨pg,lo,hi,leaf,r,co',cn+1,cc',pl⟩ (cs++[a])∧Fr S W (w6.setCell ⟨g,5,none⟩ (.slice co' (cn+1) cc')):=by
 have F6:=fr_grown hg
 have hng:¬(Value.slice co cn cc).ownBlock=some g:=fun e=>by
  obtain ⟨_,cur,hx⟩:=own_blk h.nod.own e
  obtain ⟨cur',hy,_⟩:=row_parts h.own
  rw [hx]at hy
  simp only [Option.some.injEq,Obj.cells.injEq]at hy
  exact absurd hy.2.1 (by decide)
 have hg6:w6.heap[g]? = W.heap[g]?:=F6.blk g h.lt hng
 have h5x:∀ b,Cel.T5 W b→b<W.heap.size∧(w6.setCell ⟨g,5,none⟩ (.slice co' (cn+1) cc')).heap[b]? = W.heap[b]?:=fun b h5=>by
  obtain ⟨D,m,hx⟩:=h5
  have hb:=(Array.getElem?_eq_some_iff.1 hx).1
  refine ⟨hb,?_⟩
  rw [heap_setCell_other _ _ b _ (fun e=>t5_row ⟨D,m,hx⟩ h.own (by decide) (by simpa using e))]
  exact F6.blk b hb (fun e=>by
   obtain ⟨_,cur,hx'⟩:=own_blk h.nod.own e
   rw [hx]at hx'
   simp only [Option.some.injEq,Obj.cells.injEq]at hx'
   exact absurd hx'.2.1 (by decide))
 have hck:∀ c,Cok W c→(0<c.n→∀ b o,c.o=some ⟨b,o,none⟩→Cel.T5 W b)→Cok (w6.setCell ⟨g,5,none⟩ (.slice co' (cn+1) cc')) c:=fun c k h5=>{ k with rd:=k.rd.same (fun hp b o e _=>(h5x b (h5 hp b o e)).2) }
 have h55:∀ b,Cel.T5 W b→Cel.T5 (w6.setCell ⟨g,5,none⟩ (.slice co' (cn+1) cc')) b:=fun b h5=>by
  obtain ⟨D,m,hx⟩:=h5
  exact ⟨D,m,(h5x b ⟨D,m,hx⟩).2.trans hx⟩
 refine ⟨⟨sv_set (s:=⟨pg,lo,hi,leaf,r,co,cn,cc,pl⟩) (row_same h.own hg6) _ _ _,Or.inl (Or.inl h.mem),⟨⟨ho.1,?_⟩,fun c hc=>?_,by simp [h.nod.len],fun b o e=>Or.inl (hnew b o e),fun c hc hn b o e=>?_,fun c hc hn b o e=>?_⟩⟩,?_⟩
 ·rcases ho.2 with h1 | ⟨gc,cap',cur,e,hb,hgg,h2⟩
  ·exact Or.inl h1
  ·refine Or.inr ⟨gc,cap',cur,e,hb,?_,h2⟩
   rw [heap_setCell_other _ _ gc _ (fun e'=>?_)]
   ·exact hgg
   ·simp only at e'
    obtain ⟨cur',hy,_⟩:=row_parts h.own
    rw [e',hg6,hy]at hgg
    simp only [Option.some.injEq,Obj.cells.injEq]at hgg
    exact absurd hgg.2.1 (by decide)
 ·rcases List.mem_append.1 hc with hc |hc
  ·exact hck c (h.nod.ck c hc) (h.nod.t5 c hc)
  ·simp at hc;subst hc;exact hck c ha ha5
 ·rcases List.mem_append.1 hc with hc |hc
  ·exact Or.inl (Or.inl (h.nod.kb c hc hn b o e))
  ·simp at hc;subst hc;exact Or.inr ⟨o,e⟩
 ·rcases List.mem_append.1 hc with hc |hc
  ·exact h55 b (h.nod.t5 c hc hn b o e)
  ·simp at hc;subst hc;exact h55 b (ha5 hn b o e)
 ·exact (fr_imp F6 (fun b e=>h.nod.cb b 0 (own_blk h.nod.own e).1)).set (Or.inl h.mem) _
abbrev SIn(g q12:Nat)(co:Option Addr)(cn cc F:Nat)(a:C)(W:World):Prop:=W.cell? ⟨g,5,none⟩=some (.slice co cn cc)∧W.cell? ⟨g,6,none⟩=some (.int .i64 (F:Int))∧W.cell? ⟨q12,0,none⟩=some (.int .i64 a.k)∧W.cell? ⟨q12,1,none⟩=some (.int .i64 a.c)∧W.cell? ⟨q12,2,none⟩=some (.int .i64 a.l)∧W.cell? ⟨q12,3,none⟩=some (.slice a.o a.n a.m)∧W.cell? ⟨q12,4,none⟩=some (.int .i64 a.x)
variable {F q12:Nat}
theorem SIn.keep(h:SIn g q12 co cn cc F a W)(b:Below W.heap.size W W'):SIn g q12 co cn cc F a W':=⟨keep_old b h.1,keep_old b h.2.1,keep_old b h.2.2.1,keep_old b h.2.2.2.1,keep_old b h.2.2.2.2.1,keep_old b h.2.2.2.2.2.1,keep_old b h.2.2.2.2.2.2⟩
theorem put_held(h:Way1 S W g cap ⟨pg,lo,hi,leaf,r,co,cn,cc,pl⟩ cs)(hg:W.grownBy w6 (Value.slice co cn cc).ownBlock)(hq:q12<W.heap.size∧¬S q12)(hs:SIn g q12 co cn cc F a W):SIn g q12 co cn cc F a w6:=by
 have F6:=fr_grown hg
 have hng:¬(Value.slice co cn cc).ownBlock=some g:=fun e=>by
  obtain ⟨_,cur,hx⟩:=own_blk h.nod.own e
  obtain ⟨cur',hy,_⟩:=row_parts h.own
  rw [hx]at hy
  simp only [Option.some.injEq,Obj.cells.injEq]at hy
  exact absurd hy.2.1 (by decide)
 have e1:=F6.blk g h.lt hng
 have e2:=F6.blk q12 hq.1 (fun e=>hq.2 (h.nod.cb q12 0 (own_blk h.nod.own e).1))
 exact ⟨(World.cell?_of_block e1).trans hs.1,(World.cell?_of_block e1).trans hs.2.1,(World.cell?_of_block e2).trans hs.2.2.1,(World.cell?_of_block e2).trans hs.2.2.2.1,(World.cell?_of_block e2).trans hs.2.2.2.2.1,(World.cell?_of_block e2).trans hs.2.2.2.2.2.1,(World.cell?_of_block e2).trans hs.2.2.2.2.2.2⟩
theorem put_fz(h:Way1 S W g cap ⟨pg,lo,hi,leaf,r,co,cn,cc,pl⟩ cs)(hg:W.grownBy w6 (Value.slice co cn cc).ownBlock):w6.frozen? ⟨g,5,none⟩=false:=by
 obtain ⟨cur',hy,_⟩:=row_parts h.own
 have e1:=(fr_grown hg).blk g h.lt (fun e=>by
  obtain ⟨_,cur,hx⟩:=own_blk h.nod.own e
  rw [hx]at hy
  simp only [Option.some.injEq,Obj.cells.injEq]at hy
  exact absurd hy.2.1 (by decide))
 exact fz5 (e1.trans hy) 5
theorem few_has{l:List C}(h:hasN leaf r l=true)(hc:Cs W co cn cc l):Cel.Few l:=by
 have h1:=Cel.len_le leaf l
 have h2:Cel.sizeN leaf l≤512:=by unfold hasN at h;simp at h;exact h.2
 unfold Cel.sizeN at h2
 refine ⟨by omega,fun a ha=>?_⟩
 have h3:=(hc.ok a ha).rd.1
 have h4:a.b.length≤96:=by
  unfold hasN Cel.goodN at h
  simp only [Bool.and_eq_true]at h
  have h5:=h.1.2
  cases leaf with
  | true=>
   simp only [if_true,Bool.and_eq_true,List.all_eq_true]at h5
   have h6:=h5.2 a ha
   unfold Cel.leafB at h6
   simp at h6
   have:=Cel.locN_le a.l
   omega
  | false=>
   simp only [Bool.false_eq_true,if_false,Bool.and_eq_true,List.all_eq_true]at h5
   have h6:=h5.2 a ha
   unfold Cel.aboveB at h6
   simp at h6
   rw [h6.2.2.1];simp
 omega
variable {cs0:List C}
theorem nrm_app{e:C}(h:cs.map nrm=cs0.map nrm)(ha:nrm a=nrm e):(cs++[a]).map nrm=(cs0++[e]).map nrm:=by simp [h,ha]
theorem page_of{cs':List C}(h:cs.map nrm=cs'.map nrm):pageN leaf r cs=pageN leaf r cs'∧hasN leaf r cs=hasN leaf r cs':=by
 rw [←Cel.page_nrm leaf r cs,←Cel.has_nrm leaf r cs,h,Cel.page_nrm,Cel.has_nrm];exact ⟨rfl,rfl⟩
def Chg1(arm:Prop)(room croom K:Nat)(hb p q:Nat)(R:Nat→Prop)(t:RS)(tr:List (Nat×List Nat))(ws:List Nat)(root:Nat)(cs0:List C)(w w':World):Prop:=
 ∃ t',HeapS arm room croom K w' hb p q R t' tr ws∧NodeAt t'.now root true 0 cs0∧AllB t'.now∧t'.now.length=t.now.length∧Rok R w w'
theorem Put_leaf(key:Int)(ao:Option Addr)(m bc:Nat)(xs:List Nat)(h:HeapS arm room croom K w hb p q R t tr ws)(hA:AllB t.now)(hT:TreeAt w tb hb root)(hm:R tb)(hN:NodeAt t.now root true 0 cs0)(hnf:root∉flat tr)(hr:Cel.Rd w ao m bc xs)(hx:∀ x∈xs,x<256)(h5:∀ bb bo,ao=some ⟨bb,bo,none⟩→Cel.T5 w bb∧R bb)(hck:∀ W,Calls Tryz.prog 77 #[.pointer (some ⟨tb,0,none⟩),.int .i64 key,.slice ao m bc] W fun e w'=>e=.returned (.tuple #[.agg #[.int .i64 key,.int .i64 0,.int .i64 (m:Int),.slice ao m bc,.int .i64 0],.int .i64 0])∧Below W.heap.size W w')(hm96:m≤96)(hF:Cel.fN key cs0=cs0.length)(hk:I64 key)(hy:hasN true 0 (cs0++[eC key xs])=true)(hKb:K+2≤500000) :
  Calls Tryz.prog 25 #[.pointer (some ⟨tb,0,none⟩),.int .i64 key,.slice ao m bc] w fun e w'=>e=.returned (.int .i64 0)∧Chg1 arm room croom (K+2+1) hb p q R t tr ws root (cs0++[eC key xs]) w w':=by
 obtain ⟨a,hadef⟩:∃ a:C,a=⟨key,0,m,ao,m,bc,0,xs⟩:=⟨_,rfl⟩
 have hxl:xs.length=m:=hr.1
 have hna:nrm a=nrm (eC key xs):=by rw [hadef];simp [nrm,eC,hxl]
 have hCok:∀ W,Cel.Rd W ao m bc xs→Cok W a:=fun W hr'=>by
  rw [hadef];exact ⟨hr',hx,hk,by simp [I64],by simp [I64];omega,by simp [I64],by simp [Cel.big];omega⟩
 have cg:=hid (changing_leaf key h hA hT hm hN (by omega))
 have HH:=hid h;have HA:=hid hA;have HT:=hid hT;have HM:=hid hm;have HN:=hid hN;have HNF:=hid hnf;have HR:=hid hr;have H5:=hid h5;have HF:=hid hF;have HY:=hid hy;have HK:=hid hk;have HNA:=hid hna;have HCO:=hid hCok
 have ck:=hid hck
 have hm2:¬(20000:Int)<(m:Int):=by omega
 have hkk:=hid (show a.k=key∧a.c=0∧a.l=(m:Int)∧a.o=ao∧a.n=m∧a.m=bc∧a.x=0 by rw [hadef];exact ⟨rfl,rfl,rfl,rfl,rfl,rfl,rfl⟩)
 clear h hA hT hm hN hnf hr h5 hck hF hy hk hx hna hCok hadef
 go_enter Tryz.func25,Tryz.ntmps25
 go_upto_region 7 with (first
  | (go_at_call 74;refine cg.out.mono ?_;rintro e w1 ⟨g,wcap,co,cn,cc,cs,S,rfl,hW,hE,hS,hs,hk⟩;have W1:=hid hW;have E1:=hid hE;have N1:=hid hS;have H1:=hid hs;have K1:=hid hk;clear hW hE hS hs hk)
  | (go_at_call 75;refine (wayleaf_one g wcap _).mono ?_;rintro e w2 ⟨rfl,h2⟩;obtain rfl:=h2.symm;clear h2))
 have hlen:cs.length=cs0.length:=by simpa using congrArg List.length E1.out
 have hcn:cn=cs0.length:=by rw [←hlen];exact W1.out.nod.len.symm
 have HLEN:=hid hlen;have HCN:=hid hcn
 have cr:=hid (remove_no (tb:=tb) g wcap (Cel.fN key cs0) _ cs key W1.out rfl (Or.inl (by rw [HF.out,hlen])))
 rw [HF.out,←hcn]at W1
 clear hlen hcn
 go_upto_region 13 with (first
  | (go_at_call 76;refine cr.out.mono ?_;rintro e w2 ⟨rfl,hb2⟩;have B2:=hid hb2;clear hb2)
  | (go_at_call 77;refine (ck.out _).mono ?_;rintro e w3 ⟨rfl,hb3⟩;have B3:=hid (gt B2.out hb3);clear hb3))
 obtain ⟨q12,hq12⟩:∃ q12,q12=w3.heap.size:=⟨_,rfl⟩
 obtain ⟨W4,hW4⟩:∃ W4,W4=w3.alloc (.cells #[.int .i64 key,.int .i64 0,.int .i64 (m:Int),.slice ao m bc,.int .i64 0] 144):=⟨_,rfl⟩
 have B4:=hid (show Below w1.heap.size w1 W4 by rw [hW4];exact gt B3.out (ext1 _))
 have b12:W4.heap[q12]? = some (.cells #[.int .i64 key,.int .i64 0,.int .i64 (m:Int),.slice ao m bc,.int .i64 0] 144 (0,0)):=by rw [hW4,hq12];exact heap_alloc_new w3 _
 rw [←hW4,←hq12]
 replace hW4:=hid hW4;replace hq12:=hid hq12
 have W4':=hid (W1.out.keep B4.out.drew)
 have g1:SIn g q12 co cn cc cn a W4.drew:=by
  obtain ⟨e0,e1,e2,e3,e4,e5,e6⟩:=hkk.out
  refine ⟨W4'.out.cells.2.2.2.2.2.1,W4'.out.cells.2.2.2.2.2.2,?_⟩
  rw [e0,e1,e2,e3,e4,e5,e6]
  exact cells5 (W:=W4.drew) b12
 have HQ4:=hid (Array.getElem?_eq_some_iff.1 b12).1
 clear b12
 obtain ⟨gv,hgv⟩:∃ gv,gv=W4.heap.size:=⟨_,rfl⟩
 obtain ⟨W5,hW5⟩:∃ W5,W5=(W4.alloc (.cells #[.int .i64 a.k,.int .i64 a.c,.int .i64 a.l,.slice a.o a.n a.m,.int .i64 a.x] 144)).drew:=⟨_,rfl⟩
 have B5:=hid (show Below w1.heap.size w1 W5 by rw [hW5];exact (gt B4.out (ext1 _)).drew)
 have B45:=hid (show Below W4.heap.size W4 W5 by rw [hW5];exact (ext1 _).drew)
 have W5':=hid (W1.out.keep B5.out)
 have A5:=hid (show At5 W5 gv 0 a by
  have h0:=heap_alloc_new W4 (.cells #[.int .i64 a.k,.int .i64 a.c,.int .i64 a.l,.slice a.o a.n a.m,.int .i64 a.x] 144)
  rw [←hgv]at h0
  rw [hW5]
  exact cells5 (W:=(W4.alloc (.cells #[.int .i64 a.k,.int .i64 a.c,.int .i64 a.l,.slice a.o a.n a.m,.int .i64 a.x] 144)).drew) h0)
 have hcl:=node_few HN.out.has HLEN.out W1.out.nod.len
 have hQ:=hid (show q12<W5.heap.size∧¬S q12 from ⟨Nat.lt_of_lt_of_le HQ4.out B45.out.size,fun e=>by have h1:=H1.out.prg.lt (b:=q12) (Or.inr e);have h2:=hq12.out;have h3:=B3.out.size;omega⟩)
 have ci:=hid (insert_end co cn cc gv cs a W5 W5'.out.nod.own hcl W5'.out.nod.len A5.out)
 replace hgv:=hid hgv;replace hW5:=hid hW5
 refine wp_region_K (S:=SIn g q12 co cn cc cn a) (fun i=>i == 16) (by kernel_rfl) (g1) (fun hHeld=>?_)
 refine gkp 0 ?_
 refine gkp 1 ?_
 refine gkp 2 ?_
 refine gkp 3 ?_
 refine gkp 4 ?_
 refine gkt 5 ?_ (h:=by intro W hSw;obtain ⟨y0,y1,y2,y3,y4,y5,y6⟩:=hSw;go_simp;first |done |with_reducible rfl)
 refine gkp 6 ?_
 refine gkp 7 ?_
 refine gkp 8 ?_
 refine gkt 9 ?_ (h:=by intro W hSw;obtain ⟨y0,y1,y2,y3,y4,y5,y6⟩:=hSw;go_simp;first |done |with_reducible rfl)
 refine gkt 10 ?_ (h:=by intro W hSw;obtain ⟨y0,y1,y2,y3,y4,y5,y6⟩:=hSw;go_simp;first |done |with_reducible rfl)
 refine gk1 11 (fun K hK=>?_)
 go_simp
 rw [show W4.heap.size=gv from hgv.out.symm];rw [←hW5.out];have hR:SIn g q12 co cn cc cn a W5:=SIn.keep (show SIn g q12 co cn cc cn a W4 from hHeld) B45.out
 refine hK.out _ _ hR (fun hHeld=>?_)
 clear hK K
 (try simp only [Act.put,sA,sZ,sS])
 refine gk1 12 (fun K hK=>?_)
 go_simp
 go_at_call 78;refine ci.out.mono ?_;rintro e w6 ⟨g6,cc6,rfl,ho6,hg6,ha6,hl6⟩;have O6:=hid ho6;have G6:=hid hg6;have L6:=hid (And.intro ha6 hl6);have hR:SIn g q12 co cn cc cn a w6:=put_held W5'.out hg6 hQ.out hHeld;have z5:=hR.1;have fz:w6.frozen? ⟨g,5,none⟩=false:=put_fz W5'.out hg6;clear ho6 hg6 ha6 hl6
 refine hK.out _ _ hR (fun hHeld=>?_)
 clear hK K
 (try simp only [Act.put,sA,sZ,sS])
 refine gkp 13 ?_
 refine gkp 14 ?_
 refine gkp 15 ?_
 refine gkl 16 (fun K hK=>?_)
 go_simp
 refine hK.out _ _ ?_
 clear hK K
 (try simp only [Act.put,sA,sZ,sS])
 refine wpAnyK_done (by kernel_rfl) ?_ _
 obtain ⟨W7,hW7⟩:∃ W7,W7=w6.setCell ⟨g,5,none⟩ (.slice (some ⟨g6,0,none⟩) (cn+1) cc6):=⟨_,rfl⟩
 have hr5:Cel.Rd W5 ao m bc xs:=HR.out.same (fun hp b o e hl=>(B5.out.block b (Nat.lt_of_lt_of_le hl K1.out.size)).trans (K1.out.at_ (H5.out b o e).2 hl))
 have h55:∀ b o,ao=some ⟨b,o,none⟩→Cel.T5 W5 b:=fun b o e=>by
  obtain ⟨D,mm,hx⟩:=(H5.out b o e).1
  have hl:=(Array.getElem?_eq_some_iff.1 hx).1
  exact ⟨D,mm,((B5.out.block b (Nat.lt_of_lt_of_le hl K1.out.size)).trans (K1.out.at_ (H5.out b o e).2 hl)).trans hx⟩
 obtain ⟨WP,FP⟩:=way_put W5'.out O6.out G6.out (fun b o e=>by
  cases e
  rcases L6.out.1 with e1 |e1
  ·exact Or.inl (W5'.out.nod.cb _ 0 (own_blk W5'.out.nod.own e1).1)
  ·exact Or.inr ⟨by omega,L6.out.2⟩) (HCO.out W5 hr5) (fun _ b o e=>by
  rw [hkk.out.2.2.2.1]at e;exact h55 b o e)
 rw [←hW7]at WP FP ⊢
 have W7':=hid WP;have F7:=hid FP
 have s1:=K1.out.size
 have hbl:=HH.out.heap.lt
 have nS:∀ b,S b→w.heap.size≤b:=N1.out
 have H5':=(H1.out.news B5.out)
 have FR:Fr (NewR (Or2 R S) w1 W5) W5 W7:=fr_imp F7.out (fun b e=>Or.inl (Or.inr e))
 have H7:=hid (H5'.mv (H5'.prg.work FR) (H5'.heap.fr F7.out (fun e=>by have:=nS hb e;omega)) (Or.inl H5'.mem))
 have T7:TreeAt W7 tb hb root:=by
  have t1:=(HT.out.rok K1.out HM.out).keep B5.out
  exact (F7.out.blk tb t1.lt (fun e=>by have:=nS tb e;have:=HT.out.lt;omega)).trans t1
 have T7':=hid T7
 have M7:Hid (NewR (NewR (Or2 R S) w1 W5) W5 W7 tb):=hid (Or.inl (Or.inl (Or.inl HM.out)))
 have hpg:=page_of (leaf:=true) (r:=0) (nrm_app E1.out HNA.out)
 have hyy:hasN true 0 (cs++[a])=true:=hpg.2.trans HY.out
 have hfew:Cel.Few (cs++[a]):=few_has hyy WP.nod.cs
 have cst:=hid (settle_one H7.out T7 M7.out W7'.out hfew hyy HN.out.lo HN.out.hi HNF.out (by omega))
 rw [hpg.1]at cst
 replace hW7:=hid hW7
 clear hpg hyy hfew T7 WP FP hr5 h55 FR H5'
 go_wp2_with (go_at_call 79;refine cst.out.mono ?_;rintro e w8 ⟨rfl,hy⟩;have Y:=hid hy;clear hy)
 go_ret
 obtain ⟨y1,y2,y3,y4,y5⟩:=Y.out
 refine ⟨rfl,_,y1.less (fun b h=>Or.inl (Or.inl (Or.inl h))) HH.out.mem,⟨HN.out.lo,?_,y4,HY.out,?_⟩,y3 HA.out,?_,?_⟩
 ·show _≤(t.now.set _ _).length
  rw [List.length_set];exact HN.out.hi
 ·intro c hc
  rcases List.mem_append.1 hc with hc |hc
  ·exact HN.out.key c hc
  ·simp at hc;subst hc;exact HK.out
 ·show (t.now.set _ _).length=_
  rw [List.length_set]
 ·exact ((K1.out.below B5.out).mine F7.out nS).then y5 (fun b h=>Or.inl (Or.inl (Or.inl h)))
end
end Tre
namespace Tre
open Go.RowKit Go.Maps
open Dsk (gt hid undrew keep_old keep_cell lt_cell newD)
open Jrn (Row5)
open Cch (Fr wpAnyK wpAnyK_done wp_region_K hd_cell hd_frozen blk_set)
open Cel (C Cs Cok NB At5 ext1 below_set I64 nrm hasN pageN)
open Spl (Same AllB)
section
variable {arm:Prop} {room croom K:Nat} {p q:Nat} {R:Nat→Prop} {t:RS} {w:World} {hb tb root:Nat} {tr:List (Nat×List Nat)} {ws:List Nat}
theorem nrm_get{cs cs':List C}(h:cs.map nrm=cs'.map nrm)(i:Nat):nrm (cs.getD i default)=nrm (cs'.getD i default):=by
 have h1:=congrArg (fun l=>l[i]?) h
 simp only [List.getElem?_map]at h1
 rw [List.getD,List.getD]
 cases ha:cs[i]?<;>cases hb:cs'[i]?<;>simp_all
theorem fB_nrm(key:Int){cs cs':List C}(h:cs.map nrm=cs'.map nrm):Cel.fB key cs=Cel.fB key cs':=by
 have hl:cs.length=cs'.length:=by simpa using congrArg List.length h
 unfold Cel.fB
 rw [fN_nrm key h,hl]
 have:=congrArg C.k (nrm_get h (Cel.fN key cs'))
 simp only [nrm]at this
 rw [this]
def abN(key:Int)(cs:List C):Nat:=Cel.fN key cs+(if Cel.fB key cs then 1 else 0)
theorem above_found(key:Int)(leaf:Bool)(r:Int)(b off cn cc:Nat)(cs:List C)(i:Nat)(k:Int)(w:World)(h:Cs w (some ⟨b,off,none⟩) cn cc cs)(hcn:cn≤100000)(hi:abN key cs=i)(hlt:i<cn)(hk:(cs.getD i default).k=k) :
  Calls Tryz.prog 82 #[.int .i64 key,.agg #[.bool leaf,.int .i64 r,.slice (some ⟨b,off,none⟩) cn cc]] w fun e w'=>e=.returned (.tuple #[.int .i64 k,.bool true])∧Below w.heap.size w w':=by
 obtain ⟨W0,hW0⟩:∃ W0,W0=w.alloc (.cells #[.bool leaf,.int .i64 r,.slice (some ⟨b,off,none⟩) cn cc] 111):=⟨_,rfl⟩
 have B0:Below w.heap.size w W0:=by rw [hW0];exact ext1 _
 obtain ⟨q3,hq3⟩:∃ q3,q3=w.heap.size:=⟨_,rfl⟩
 have N0:NB 111 W0 q3 leaf r (some ⟨b,off,none⟩) cn cc:=by rw [hW0,hq3];exact NB.new 111 w leaf r (some ⟨b,off,none⟩) cn cc
 have cf:=hid (Cel.find_any leaf r (some ⟨b,off,none⟩) cn cc cs key W0 (h.keep B0) hcn)
 have BB:=hid B0;have NN:=hid N0
 obtain ⟨b',off',e',hc⟩:=h.at_ (by omega)
 simp only [Option.some.injEq,Addr.mk.injEq,and_true]at e'
 obtain ⟨rfl,rfl⟩:=e'
 have c0:=(hc i hlt).1
 rw [hk]at c0
 have C0:=hid (fun W (hb:Below w.heap.size w W)=>keep_old hb c0)
 obtain ⟨u0,u1,u2⟩:=N0.cells
 have n1:(0:Int)≤(i:Int):=by omega
 have n2:(i:Int)<(cn:Int):=by omega
 have n3:((i:Int) == (cn:Int))=false:=by simp;omega
 unfold abN at hi
 clear h B0 N0 hc c0 hk
 cases hfb:Cel.fB key cs with
 | false=>
  rw [hfb]at hi cf
  simp only [Bool.false_eq_true,if_false,Nat.add_zero]at hi
  rw [hi]at cf
  clear hi hfb
  go_enter Tryz.func82,Tryz.ntmps82
  go_upto_region 1 with fail
  rw [←hW0,←hq3]
  replace hW0:=hid hW0;replace hq3:=hid hq3
  go_wp2_with (go_at_call 147;refine cf.out.mono ?_;rintro e w1 ⟨rfl,hb1⟩;have B1:=hid (gt BB.out hb1);have N1:=hid (NN.out.keep hb1);have c1:=C0.out w1 B1.out;clear u0 u1 u2;obtain ⟨u0,u1,u2⟩:=N1.out.cells;clear hb1)
  go_ret2
  exact ⟨rfl,B1.out⟩
 | true=>
  rw [hfb]at hi cf
  simp only [if_true]at hi
  obtain ⟨f,hf⟩:∃ f,f=Cel.fN key cs:=⟨_,rfl⟩
  rw [←hf]at hi cf
  have hw1:IntKind.i64.wrap ((f:Int)+1)=(i:Int):=by rw [IntKind.wrap_i64];omega
  clear hi hfb hf
  go_enter Tryz.func82,Tryz.ntmps82
  go_upto_region 1 with fail
  rw [←hW0,←hq3]
  replace hW0:=hid hW0;replace hq3:=hid hq3
  go_upto_region 4 with (go_at_call 147;refine cf.out.mono ?_;rintro e w1 ⟨rfl,hb1⟩;have B1:=hid (gt BB.out hb1);have N1:=hid (NN.out.keep hb1);have c1:=C0.out w1 B1.out;clear u0 u1 u2;obtain ⟨u0,u1,u2⟩:=N1.out.cells;clear hb1)
  go_wp2
  go_ret2
  exact ⟨rfl,B1.out⟩
end
end Tre
namespace Tre
open Go.RowKit Go.Maps
open Dsk (gt hid undrew keep_old keep_cell lt_cell newD)
open Jrn (Row5)
open Cch (Fr wpAnyK wpAnyK_done wp_region_K hd_cell hd_frozen blk_set)
open Cel (C Cs Cok NB At5 ext1 below_set I64 nrm hasN pageN)
open Spl (Same AllB)
section
variable {arm:Prop} {room croom K:Nat} {p q:Nat} {R:Nat→Prop} {t:RS} {w:World} {hb tb root:Nat} {tr:List (Nat×List Nat)} {ws:List Nat}
end
def Bd(f:Nat)(args:Array Value)(v:Value)(w:World):Prop:=Calls Tryz.prog f args w fun e w'=>e=.returned v∧Below w.heap.size w w'
theorem down_bad(v:Value)(key:Int)(w:World)(h:TZ w v):Bd 118 #[v,.int .i64 key] (.tuple #[.slice none 0 0,.int .i64 1]) w:=by
 unfold Bd
 have c:=hid (fault_no h)
 clear h
 go_enter Tryz.func118,Tryz.ntmps118
 go_wp2_with (first |(go_at_call 57;refine (c.out).mono ?_;rintro e w1 ⟨rfl,hb1⟩;have B1:=hid (show Below w.heap.size w w1 by rw [hb1];exact Below.refl _ _);clear hb1))
 go_ret2
 exact ⟨rfl,B1.out⟩
theorem leaf_bad(v:Value)(key:Int)(w:World)(h:TZ w v):Bd 71 #[v,.int .i64 key] (.tuple #[.agg #[.int .i64 0,.int .i64 0,.int .i64 0,.bool false,.int .i64 0,.slice none 0 0,.int .i64 0],.int .i64 1]) w:=by
 unfold Bd
 obtain ⟨W0,hW0⟩:∃ W0,W0=w.alloc (.cells #[.int .i64 0,.int .i64 0,.int .i64 0,.bool false,.int .i64 0,.slice none 0 0,.int .i64 0] 140):=⟨_,rfl⟩
 have B0:Below w.heap.size w W0:=by rw [hW0];exact ext1 _
 obtain ⟨q4,hq4⟩:∃ q4,q4=w.heap.size:=⟨_,rfl⟩
 have s4:SB W0 q4 (bare 0 0 0):=by rw [hW0,hq4];exact SB.new w (bare 0 0 0)
 have c:=hid (down_bad v key W0 (h.keep B0))
 have BB:=hid B0;have S4:=hid s4
 clear h B0 s4
 go_enter Tryz.func71,Tryz.ntmps71
 go_upto_region 1 with fail
 rw [←hW0,←hq4]
 replace hW0:=hid hW0;replace hq4:=hid hq4
 go_upto_region 3 with (go_at_call 118;refine c.out.mono ?_;rintro e w1 ⟨rfl,hb1⟩;have B1:=hid (gt BB.out hb1);have S1:=hid (S4.out.keep hb1);clear hb1)
 obtain ⟨z0,z1,z2,z3,z4,z5,z6⟩:=S1.out.cells
 have f0:=S1.out.fz 0;have f1:=S1.out.fz 1;have f2:=S1.out.fz 2;have f3:=S1.out.fz 3;have f4:=S1.out.fz 4;have f5:=S1.out.fz 5;have f6:=S1.out.fz 6
 go_wp2
 refine bodyPost_ret (ret_b2 (a:=4) (u:=5) (by kernel_rfl) (by kernel_rfl) (by kernel_rfl) rfl (box7 S1.out)) rfl ?_
 exact ⟨rfl,below7 B1.out (Nat.le_of_eq hq4.out.symm)⟩
theorem beside_bad(v:Value)(key:Int)(f1 f2:Value)(w:World)(h:TZ w v):Bd 81 #[v,.int .i64 key,f1,f2] (.tuple #[.int .i64 0,.bool false,.int .i64 1]) w:=by
 unfold Bd
 have c:=hid (leaf_bad v key w h)
 clear h
 go_enter Tryz.func81,Tryz.ntmps81
 go_wp2
 go_loopw [1,11] (fun a c W=>a=.int .i64 key∧c=.bool true∧Hid (W=w)) (fun _ _ _=>1)
 case atStart=>exact ⟨rfl,rfl,hid rfl⟩
 case round=>
  obtain ⟨rfl,rfl,HW⟩:=hrel
  have HWo:=HW.out
  obtain rfl:=HWo.symm
  clear HWo HW
  go_wp2_with (go_at_call 71;refine c.out.mono ?_;rintro e w1 ⟨rfl,hb1⟩;have B1:=hid (gt hb1 (ext1 (.cells #[.int .i64 0,.int .i64 0,.int .i64 0,.bool false,.int .i64 0,.slice none 0 0,.int .i64 0] 140)));clear hb1)
  (try simp only [Exit.inBlock,Exit.then])
  go_ret3
  exact ⟨rfl,B1.out⟩
theorem Next_bad(v:Value)(key:Int)(w:World)(h:TZ w v):Bd 28 #[v,.int .i64 key] (.tuple #[.int .i64 0,.bool false,.int .i64 1]) w:=by
 unfold Bd
 have c:=hid (fun f1 f2=>beside_bad v key f1 f2 w h)
 clear h
 go_enter Tryz.func28,Tryz.ntmps28
 go_wp2_with (go_at_call 81;refine (c.out _ _).mono ?_;rintro e w1 ⟨rfl,hb1⟩;have B1:=hid hb1;clear hb1)
 go_ret3
 exact ⟨rfl,B1.out⟩
theorem Prev_bad(v:Value)(key:Int)(w:World)(h:TZ w v):Bd 29 #[v,.int .i64 key] (.tuple #[.int .i64 0,.bool false,.int .i64 1]) w:=by
 unfold Bd
 have c:=hid (fun f1 f2=>beside_bad v key f1 f2 w h)
 clear h
 go_enter Tryz.func29,Tryz.ntmps29
 go_wp2_with (go_at_call 81;refine (c.out _ _).mono ?_;rintro e w1 ⟨rfl,hb1⟩;have B1:=hid hb1;clear hb1)
 go_ret3
 exact ⟨rfl,B1.out⟩
section
variable {arm:Prop} {room croom K:Nat} {p q:Nat} {R:Nat→Prop} {t:RS} {w:World} {hb tb root:Nat} {tr:List (Nat×List Nat)} {ws:List Nat}
theorem Make_new(h:HeapS arm room croom K w hb p q R t [] ws)(hA:AllB t.now)(hn4:t.now.length<4000)(h1:1≤t.now.length)(hKb:K+5000≤500000) :
  Calls Tryz.prog 14 #[.pointer (some ⟨hb,0,none⟩)] w fun e w'=>∃ tb t',e=.returned (.tuple #[.pointer (some ⟨tb,0,none⟩),.int .i64 0])∧w.heap.size≤tb∧TreeAt w' tb hb (t.now.length+1)∧HeapS arm room croom (K+2+1) w' hb p q (Plus R tb) t' [] ws∧NodeAt t'.now (t.now.length+1) true 0 []∧AllB t'.now∧t'.now.length=t.now.length+1∧Rok R w w':=by
 have ct:=hid (Spl.kp_none h hn4 hKb)
 have HH:=hid h;have HA:=hid hA
 clear h hA
 obtain ⟨N,hN⟩:∃ N,N=t.now.length+1:=⟨_,rfl⟩
 rw [←hN]at ct ⊢
 replace hN:=hid hN
 go_enter Tryz.func14,Tryz.ntmps14
 go_upto_region 5 with (go_at_call 55;refine ct.out.mono ?_;rintro e w1 ⟨rfl,t1,hs,hl,hal,hsm,hk⟩;have H1:=hid hs;have A1:=hid (hal HA.out);have K1:=hid hk;have L1:=hid hl;clear hs hl hal hsm hk)
 obtain ⟨tb,htb⟩:∃ tb,tb=w1.heap.size:=⟨_,rfl⟩
 obtain ⟨W2,hW2⟩:∃ W2,W2=w1.alloc (.cells #[.pointer (some ⟨hb,0,none⟩),.int .i64 (N:Int)] 94):=⟨_,rfl⟩
 have B2:=hid (show Below w1.heap.size w1 W2 by rw [hW2];exact ext1 _)
 have T2:=hid (show TreeAt W2 tb hb N by rw [hW2,htb];exact TreeAt.new w1 hb N)
 have H2:=hid (H1.out.mv (H1.out.prg.new B2.out (Nat.le_of_eq htb.symm) T2.out.lt) (H1.out.heap.keep B2.out) (Or.inl H1.out.mem))
 rw [←hW2,←htb]
 replace hW2:=hid hW2;replace htb:=hid htb
 have hl1:=L1.out
 have hN':=hN.out
 have cw:=hid (write_yes (leaf:=true) (r:=0) (cs:=[]) (n:=N) H2.out T2.out (Or.inr rfl) (Cs.nil W2) ⟨by simp,by simp⟩ rfl (by omega) (by omega) (by simp [flat]) (by omega))
 clear hl1 hN'
 go_wp2_with (go_at_call 56;refine cw.out.mono ?_;rintro e w3 ⟨rfl,hs3,hsm,hal,hgd,hk3⟩;have H3:=hid hs3;have Y3:=hid (And.intro (hal A1.out) hgd);have K3:=hid hk3;clear hs3 hsm hal hgd hk3)
 go_ret2
 have hlt:w.heap.size≤tb:=by rw [htb.out];exact K1.out.size
 refine ⟨tb,_,rfl,hlt,(T2.out.rok K3.out (Or.inr rfl)),H3.out,⟨by have:=hN.out;omega,?_,Y3.out.2,rfl,by simp⟩,Y3.out.1,?_,K1.out.then (Rok.after B2.out K3.out (fun b h=>Or.inl h)) (fun _ h=>h)⟩
 ·show _≤(t1.now.set _ _).length
  rw [List.length_set,L1.out];exact Nat.le_refl _
 ·show (t1.now.set _ _).length=_
  rw [List.length_set,L1.out]
end
end Tre
end Go.Proofs.YtfcikkechphmaaaGreatDoor
