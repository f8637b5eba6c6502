/- Next and Prev in any tree; no statement of the seat is proved here. -/
import Derived.Test.YtfcikkechphmaaaGreatDoorW47
import Derived.Test.YtfcikkechphmaaaGreatDoorW46
set_option maxHeartbeats 16000000
set_option maxRecDepth 20000
namespace Go.Proofs.YtfcikkechphmaaaGreatDoor
namespace Tre
open Go.RowKit Go.Maps
open Dsk (gt hid undrew keep_old keep_cell lt_cell newD)
open Jrn (Row5)
open Cch (Fr wpAnyK wpAnyK_done wp_region_K hd_cell hd_frozen blk_set)
open Cel (C Cs Cok NB At5 ext1 below_set I64 nrm hasN pageN)
open Spl (Same AllB)
section
variable {arm:Prop} {room croom K:Nat} {p q:Nat} {R:Nat→Prop} {t:RS} {w:World} {hb tb root:Nat} {tr:List (Nat×List Nat)} {ws:List Nat}
def bhO(_lo hi:Int):Option Int:=if hi=9223372036854775807 then none else some (hi+1)
def ahO(lo _hi:Int):Option Int:=if lo = -9223372036854775808 then none else some (lo - 1)
theorem behind_all(lo hi:Int)(w:World)(hI:I64 hi):Calls Tryz.prog 83 #[.agg #[.int .i64 lo,.int .i64 hi]] w fun e w'=>e=.returned (.tuple #[.int .i64 ((bhO lo hi).getD 0),.bool (bhO lo hi).isSome])∧Below w.heap.size w w':=by
 unfold bhO
 by_cases h:hi=9223372036854775807
 ·rw [if_pos h];exact behind_no lo hi w h
 ·rw [if_neg h];exact behind_yes lo hi w h hI
theorem ahead_all(lo hi:Int)(w:World)(hI:I64 lo):Calls Tryz.prog 85 #[.agg #[.int .i64 lo,.int .i64 hi]] w fun e w'=>e=.returned (.tuple #[.int .i64 ((ahO lo hi).getD 0),.bool (ahO lo hi).isSome])∧Below w.heap.size w w':=by
 unfold ahO
 by_cases h:lo = -9223372036854775808
 ·rw [if_pos h];exact ahead_no lo hi w h
 ·rw [if_neg h];exact ahead_yes lo hi w h hI
def Run(P:List Pg)(root:Nat)(f:List C→Option Int)(g:Int→Int→Option Int):Int→List (List Sp×Sp)→Option Int→Prop
 | _,[],_=>False
 | key,y::rest,v=>(Path P root key root (-9223372036854775808) 9223372036854775807 (y.1++[y.2])∧y.1.length≤12∧I64 y.2.lo∧I64 y.2.hi∧y.2.cs.length≤100000) ∧
   ((∃ a,f y.2.cs=some a∧v=some a)∨(f y.2.cs=none∧g y.2.lo y.2.hi=none∧v=none)∨(f y.2.cs=none∧∃ k',g y.2.lo y.2.hi=some k'∧Run P root f g k' rest v))
def RunS(P:List Pg)(root:Nat)(f:List C→Option Int)(g:Int→Int→Option Int)(n:Nat)(more:Bool)(key:Int)(v:Option Int):Prop:=
 ∃ l',l'.length=n∧((more=false∧v=none)∨(more=true∧Run P root f g key l' v))
theorem beside_up(key:Int)(l:List (List Sp×Sp))(v:Option Int)(h:HeapS arm room croom K w hb p q R t tr ws)(hA:AllB t.now)(hT:TreeAt w tb hb root)(hm:R tb)(hR:Run t.now root (abO key) bhO key l v)(hKb:K+13*l.length≤500000) :
  Calls Tryz.prog 81 #[.pointer (some ⟨tb,0,none⟩),.int .i64 key,.func (.func 82) #[.int .i64 key] #[],.func (.func 83) #[] #[]] w fun e w'=>e=.returned (.tuple #[.int .i64 (v.getD 0),.bool v.isSome,.int .i64 0])∧HeapS arm room croom (K+13*l.length) w' hb p q R t tr ws∧Rok R w w':=by
 obtain ⟨n,hn⟩:∃ n,n=l.length:=⟨_,rfl⟩
 rw [←hn]at hKb ⊢
 have st:Hid (RunS t.now root (abO key) bhO n true key v):=hid ⟨l,hn.symm,Or.inr ⟨rfl,hR⟩⟩
 have sh:Hid (HeapS arm room croom (K+13*(n - n)) w hb p q R t tr ws):=hid (h.up (by omega))
 have sk:Hid (Rok R w w):=hid (Rok.of_below (Below.refl _ _))
 have HH:=hid h;have HA:=hid hA;have HT:=hid hT;have HM:=hid hm
 clear h hA hT hm hR hn
 go_enter Tryz.func81,Tryz.ntmps81
 go_wp2
 go_loopg [1,11] n (fun k a c W=>∃ (key':Int) (more:Bool),k≤n∧a=.int .i64 key'∧c=.bool more∧Hid (RunS t.now root (abO key) bhO k more key' v)∧Hid (HeapS arm room croom (K+13*(n - k)) W hb p q R t tr ws)∧Hid (Rok R w W))
 case atStart=>exact ⟨key,true,Nat.le_refl _,rfl,rfl,st,sh,sk⟩
 case round=>
  clear st sh sk
  obtain ⟨key',more,hk,rfl,rfl,ST,SH,SK⟩:=hrel
  obtain ⟨l',hl',hst⟩:=ST.out
  clear ST
  rcases hst with ⟨rfl,rfl⟩ | ⟨rfl,hrun⟩
  ·clear hl'
   go_wp2
   (try simp only [Exit.inBlock,Exit.then])
   go_ret3
   exact ⟨rfl,SH.out.up (by omega),SK.out⟩
  ·cases l' with
   | nil=>exact hrun.elim
   | cons y rest=>
    obtain ⟨ss,x⟩:=y
    obtain ⟨⟨hP,h12,hlo,hhi,hfew⟩,hcase⟩:=hrun
    simp only at hP h12 hlo hhi hfew hcase
    obtain ⟨k,rfl⟩:∃ k,gk=k+1:=⟨rest.length,by simpa using hl'.symm⟩
    have hl2:rest.length=k:=by simpa using hl'
    clear hl'
    have T1:TreeAt wr tb hb root:=HT.out.rok SK.out HM.out
    have cl:=hid (leaf_any ss x key' SH.out HA.out T1 HM.out hP h12 (by omega))
    have kk:Hid (K+13*(n - (k+1))+(ss.length+1)≤K+13*(n - k)):=hid (by omega)
    have LO:=hid hlo;have HI:=hid hhi;have FW:=hid hfew;have HS:=hid hcase;have L2:=hid hl2
    clear hP h12 hlo hhi hfew hcase hl2 T1
    go_upto_region 6 with (go_at_call 71;refine cl.out.mono ?_;rintro e w1 ⟨co,cn,cc,cs,S,rfl,hP,hE,hS,hs,hk⟩;have P1:=hid hP;have E1:=hid hE;have H1:=hid hs;have K1:=hid hk;clear hP hE hS hs hk)
    have hlen:cs.length=x.cs.length:=by simpa using congrArg List.length E1.out
    have hcn:cs.length=cn:=P1.out.len
    have hab:abO key cs=abO key x.cs:=abO_nrm key E1.out
    have hc5:cn≤100000:=by have:=FW.out;omega
    have ca:=hid (fun (o:Option Int) (ho:abO key x.cs=o) W (hb:Below w1.heap.size w1 W)=>above_all key x.leaf x.r co cn cc cs o W (P1.out.cs.keep hb) hc5 (hab.trans ho))
    clear hlen hcn hab hc5
    rcases HS.out with ⟨a,hf,rfl⟩ | ⟨hf,hg,rfl⟩ | ⟨hf,k',hg,hrun⟩
    ·have ca':Hid (∀ W,Below w1.heap.size w1 W→Calls Tryz.prog 82 #[.int .i64 key,.agg #[.bool x.leaf,.int .i64 x.r,.slice co cn cc]] W fun e w'=>e=.returned (.tuple #[.int .i64 a,.bool true])∧Below W.heap.size W w'):=hid (fun W hb=>ca.out (some a) hf W hb)
     clear ca HS hf
     go_wp2_with (go_at_call 82;refine (ca'.out _ (ext1 _)).mono ?_;rintro e w2 ⟨rfl,hb2⟩;have B2:=hid (gt (ext1 _) hb2);clear hb2)
     (try simp only [Exit.inBlock,Exit.then])
     go_ret3
     exact ⟨rfl,((H1.out.keep B2.out).less (fun b h=>Or.inl h) HH.out.mem).up (by have:=kk.out;omega),SK.out.then (K1.out.below B2.out) (fun b h=>h)⟩
    ·have ca':Hid (∀ W,Below w1.heap.size w1 W→Calls Tryz.prog 82 #[.int .i64 key,.agg #[.bool x.leaf,.int .i64 x.r,.slice co cn cc]] W fun e w'=>e=.returned (.tuple #[.int .i64 0,.bool false])∧Below W.heap.size W w'):=hid (fun W hb=>ca.out none hf W hb)
     have ct:Hid (∀ W,Calls Tryz.prog 83 #[.agg #[.int .i64 x.lo,.int .i64 x.hi]] W fun e w'=>e=.returned (.tuple #[.int .i64 0,.bool false])∧Below W.heap.size W w'):=hid (fun W=>by have:=behind_all x.lo x.hi W HI.out;rw [hg]at this;exact this)
     clear ca HS hf hg
     go_wp2_with (first |(go_at_call 82;refine (ca'.out _ (ext1 _)).mono ?_;rintro e w2 ⟨rfl,hb2⟩;have B2:=hid (gt (ext1 _) hb2);have Y2:=hid ((SB.new w1 ⟨(x.pg:Int),x.lo,x.hi,x.leaf,x.r,co,cn,cc,(x.pl:Int)⟩).keep hb2);obtain ⟨_,y1,y2,_⟩:=Y2.out.cells;clear hb2) |(go_at_call 83;refine (ct.out _).mono ?_;rintro e w3 ⟨rfl,hb3⟩;have B3:=hid (gt B2.out hb3);clear hb3))
     go_roundg k
     case measure=>omega
     refine ⟨0,false,by omega,rfl,rfl,hid ⟨rest,L2.out,Or.inl ⟨rfl,rfl⟩⟩,hid (((H1.out.keep B3.out).less (fun b h=>Or.inl h) HH.out.mem).up (by have:=kk.out;omega)),hid (SK.out.then (K1.out.below B3.out) (fun b h=>h))⟩
    ·have ca':Hid (∀ W,Below w1.heap.size w1 W→Calls Tryz.prog 82 #[.int .i64 key,.agg #[.bool x.leaf,.int .i64 x.r,.slice co cn cc]] W fun e w'=>e=.returned (.tuple #[.int .i64 0,.bool false])∧Below W.heap.size W w'):=hid (fun W hb=>ca.out none hf W hb)
     have ct:Hid (∀ W,Calls Tryz.prog 83 #[.agg #[.int .i64 x.lo,.int .i64 x.hi]] W fun e w'=>e=.returned (.tuple #[.int .i64 k',.bool true])∧Below W.heap.size W w'):=hid (fun W=>by have:=behind_all x.lo x.hi W HI.out;rw [hg]at this;exact this)
     have HR:=hid hrun
     clear ca HS hf hg hrun
     go_wp2_with (first |(go_at_call 82;refine (ca'.out _ (ext1 _)).mono ?_;rintro e w2 ⟨rfl,hb2⟩;have B2:=hid (gt (ext1 _) hb2);have Y2:=hid ((SB.new w1 ⟨(x.pg:Int),x.lo,x.hi,x.leaf,x.r,co,cn,cc,(x.pl:Int)⟩).keep hb2);obtain ⟨_,y1,y2,_⟩:=Y2.out.cells;clear hb2) |(go_at_call 83;refine (ct.out _).mono ?_;rintro e w3 ⟨rfl,hb3⟩;have B3:=hid (gt B2.out hb3);clear hb3))
     go_roundg k
     case measure=>omega
     refine ⟨k',true,by omega,rfl,rfl,hid ⟨rest,L2.out,Or.inr ⟨rfl,HR.out⟩⟩,hid (((H1.out.keep B3.out).less (fun b h=>Or.inl h) HH.out.mem).up (by have:=kk.out;omega)),hid (SK.out.then (K1.out.below B3.out) (fun b h=>h))⟩
theorem Next_any(key:Int)(l:List (List Sp×Sp))(v:Option Int)(h:HeapS arm room croom K w hb p q R t tr ws)(hA:AllB t.now)(hT:TreeAt w tb hb root)(hm:R tb)(hR:Run t.now root (abO key) bhO key l v)(hKb:K+13*l.length≤500000) :
  Calls Tryz.prog 28 #[.pointer (some ⟨tb,0,none⟩),.int .i64 key] w fun e w'=>e=.returned (.tuple #[.int .i64 (v.getD 0),.bool v.isSome,.int .i64 0])∧HeapS arm room croom (K+13*l.length) w' hb p q R t tr ws∧Rok R w w':=by
 have cb:=hid (beside_up key l v h hA hT hm hR hKb)
 clear h hA hT hm hR hKb
 obtain ⟨a,ha⟩:∃ a,a=v.getD 0:=⟨_,rfl⟩
 obtain ⟨b,hb'⟩:∃ b,b=v.isSome:=⟨_,rfl⟩
 rw [←ha,←hb']at cb ⊢
 clear ha hb'
 go_enter Tryz.func28,Tryz.ntmps28
 go_wp2_with (go_at_call 81;refine cb.out.mono ?_;rintro e w1 ⟨rfl,hs,hk⟩;have H1:=hid hs;have K1:=hid hk;clear hs hk)
 go_ret3
 exact ⟨rfl,H1.out,K1.out⟩
theorem beside_down(key:Int)(l:List (List Sp×Sp))(v:Option Int)(h:HeapS arm room croom K w hb p q R t tr ws)(hA:AllB t.now)(hT:TreeAt w tb hb root)(hm:R tb)(hR:Run t.now root (beO key) ahO key l v)(hKb:K+13*l.length≤500000) :
  Calls Tryz.prog 81 #[.pointer (some ⟨tb,0,none⟩),.int .i64 key,.func (.func 84) #[.int .i64 key] #[],.func (.func 85) #[] #[]] w fun e w'=>e=.returned (.tuple #[.int .i64 (v.getD 0),.bool v.isSome,.int .i64 0])∧HeapS arm room croom (K+13*l.length) w' hb p q R t tr ws∧Rok R w w':=by
 obtain ⟨n,hn⟩:∃ n,n=l.length:=⟨_,rfl⟩
 rw [←hn]at hKb ⊢
 have st:Hid (RunS t.now root (beO key) ahO n true key v):=hid ⟨l,hn.symm,Or.inr ⟨rfl,hR⟩⟩
 have sh:Hid (HeapS arm room croom (K+13*(n - n)) w hb p q R t tr ws):=hid (h.up (by omega))
 have sk:Hid (Rok R w w):=hid (Rok.of_below (Below.refl _ _))
 have HH:=hid h;have HA:=hid hA;have HT:=hid hT;have HM:=hid hm
 clear h hA hT hm hR hn
 go_enter Tryz.func81,Tryz.ntmps81
 go_wp2
 go_loopg [1,11] n (fun k a c W=>∃ (key':Int) (more:Bool),k≤n∧a=.int .i64 key'∧c=.bool more∧Hid (RunS t.now root (beO key) ahO k more key' v)∧Hid (HeapS arm room croom (K+13*(n - k)) W hb p q R t tr ws)∧Hid (Rok R w W))
 case atStart=>exact ⟨key,true,Nat.le_refl _,rfl,rfl,st,sh,sk⟩
 case round=>
  clear st sh sk
  obtain ⟨key',more,hk,rfl,rfl,ST,SH,SK⟩:=hrel
  obtain ⟨l',hl',hst⟩:=ST.out
  clear ST
  rcases hst with ⟨rfl,rfl⟩ | ⟨rfl,hrun⟩
  ·clear hl'
   go_wp2
   (try simp only [Exit.inBlock,Exit.then])
   go_ret3
   exact ⟨rfl,SH.out.up (by omega),SK.out⟩
  ·cases l' with
   | nil=>exact hrun.elim
   | cons y rest=>
    obtain ⟨ss,x⟩:=y
    obtain ⟨⟨hP,h12,hlo,hhi,hfew⟩,hcase⟩:=hrun
    simp only at hP h12 hlo hhi hfew hcase
    obtain ⟨k,rfl⟩:∃ k,gk=k+1:=⟨rest.length,by simpa using hl'.symm⟩
    have hl2:rest.length=k:=by simpa using hl'
    clear hl'
    have T1:TreeAt wr tb hb root:=HT.out.rok SK.out HM.out
    have cl:=hid (leaf_any ss x key' SH.out HA.out T1 HM.out hP h12 (by omega))
    have kk:Hid (K+13*(n - (k+1))+(ss.length+1)≤K+13*(n - k)):=hid (by omega)
    have LO:=hid hlo;have HI:=hid hhi;have FW:=hid hfew;have HS:=hid hcase;have L2:=hid hl2
    clear hP h12 hlo hhi hfew hcase hl2 T1
    go_upto_region 6 with (go_at_call 71;refine cl.out.mono ?_;rintro e w1 ⟨co,cn,cc,cs,S,rfl,hP,hE,hS,hs,hk⟩;have P1:=hid hP;have E1:=hid hE;have H1:=hid hs;have K1:=hid hk;clear hP hE hS hs hk)
    have hlen:cs.length=x.cs.length:=by simpa using congrArg List.length E1.out
    have hcn:cs.length=cn:=P1.out.len
    have hab:beO key cs=beO key x.cs:=beO_nrm key E1.out
    have hc5:cn≤100000:=by have:=FW.out;omega
    have ca:=hid (fun (o:Option Int) (ho:beO key x.cs=o) W (hb:Below w1.heap.size w1 W)=>below_all key x.leaf x.r co cn cc cs o W (P1.out.cs.keep hb) hc5 (hab.trans ho))
    clear hlen hcn hab hc5
    rcases HS.out with ⟨a,hf,rfl⟩ | ⟨hf,hg,rfl⟩ | ⟨hf,k',hg,hrun⟩
    ·have ca':Hid (∀ W,Below w1.heap.size w1 W→Calls Tryz.prog 84 #[.int .i64 key,.agg #[.bool x.leaf,.int .i64 x.r,.slice co cn cc]] W fun e w'=>e=.returned (.tuple #[.int .i64 a,.bool true])∧Below W.heap.size W w'):=hid (fun W hb=>ca.out (some a) hf W hb)
     clear ca HS hf
     go_wp2_with (go_at_call 84;refine (ca'.out _ (ext1 _)).mono ?_;rintro e w2 ⟨rfl,hb2⟩;have B2:=hid (gt (ext1 _) hb2);clear hb2)
     (try simp only [Exit.inBlock,Exit.then])
     go_ret3
     exact ⟨rfl,((H1.out.keep B2.out).less (fun b h=>Or.inl h) HH.out.mem).up (by have:=kk.out;omega),SK.out.then (K1.out.below B2.out) (fun b h=>h)⟩
    ·have ca':Hid (∀ W,Below w1.heap.size w1 W→Calls Tryz.prog 84 #[.int .i64 key,.agg #[.bool x.leaf,.int .i64 x.r,.slice co cn cc]] W fun e w'=>e=.returned (.tuple #[.int .i64 0,.bool false])∧Below W.heap.size W w'):=hid (fun W hb=>ca.out none hf W hb)
     have ct:Hid (∀ W,Calls Tryz.prog 85 #[.agg #[.int .i64 x.lo,.int .i64 x.hi]] W fun e w'=>e=.returned (.tuple #[.int .i64 0,.bool false])∧Below W.heap.size W w'):=hid (fun W=>by have:=ahead_all x.lo x.hi W LO.out;rw [hg]at this;exact this)
     clear ca HS hf hg
     go_wp2_with (first |(go_at_call 84;refine (ca'.out _ (ext1 _)).mono ?_;rintro e w2 ⟨rfl,hb2⟩;have B2:=hid (gt (ext1 _) hb2);have Y2:=hid ((SB.new w1 ⟨(x.pg:Int),x.lo,x.hi,x.leaf,x.r,co,cn,cc,(x.pl:Int)⟩).keep hb2);obtain ⟨_,y1,y2,_⟩:=Y2.out.cells;clear hb2) |(go_at_call 85;refine (ct.out _).mono ?_;rintro e w3 ⟨rfl,hb3⟩;have B3:=hid (gt B2.out hb3);clear hb3))
     go_roundg k
     case measure=>omega
     refine ⟨0,false,by omega,rfl,rfl,hid ⟨rest,L2.out,Or.inl ⟨rfl,rfl⟩⟩,hid (((H1.out.keep B3.out).less (fun b h=>Or.inl h) HH.out.mem).up (by have:=kk.out;omega)),hid (SK.out.then (K1.out.below B3.out) (fun b h=>h))⟩
    ·have ca':Hid (∀ W,Below w1.heap.size w1 W→Calls Tryz.prog 84 #[.int .i64 key,.agg #[.bool x.leaf,.int .i64 x.r,.slice co cn cc]] W fun e w'=>e=.returned (.tuple #[.int .i64 0,.bool false])∧Below W.heap.size W w'):=hid (fun W hb=>ca.out none hf W hb)
     have ct:Hid (∀ W,Calls Tryz.prog 85 #[.agg #[.int .i64 x.lo,.int .i64 x.hi]] W fun e w'=>e=.returned (.tuple #[.int .i64 k',.bool true])∧Below W.heap.size W w'):=hid (fun W=>by have:=ahead_all x.lo x.hi W LO.out;rw [hg]at this;exact this)
     have HR:=hid hrun
     clear ca HS hf hg hrun
     go_wp2_with (first |(go_at_call 84;refine (ca'.out _ (ext1 _)).mono ?_;rintro e w2 ⟨rfl,hb2⟩;have B2:=hid (gt (ext1 _) hb2);have Y2:=hid ((SB.new w1 ⟨(x.pg:Int),x.lo,x.hi,x.leaf,x.r,co,cn,cc,(x.pl:Int)⟩).keep hb2);obtain ⟨_,y1,y2,_⟩:=Y2.out.cells;clear hb2) |(go_at_call 85;refine (ct.out _).mono ?_;rintro e w3 ⟨rfl,hb3⟩;have B3:=hid (gt B2.out hb3);clear hb3))
     go_roundg k
     case measure=>omega
     refine ⟨k',true,by omega,rfl,rfl,hid ⟨rest,L2.out,Or.inr ⟨rfl,HR.out⟩⟩,hid (((H1.out.keep B3.out).less (fun b h=>Or.inl h) HH.out.mem).up (by have:=kk.out;omega)),hid (SK.out.then (K1.out.below B3.out) (fun b h=>h))⟩
theorem Prev_any(key:Int)(l:List (List Sp×Sp))(v:Option Int)(h:HeapS arm room croom K w hb p q R t tr ws)(hA:AllB t.now)(hT:TreeAt w tb hb root)(hm:R tb)(hR:Run t.now root (beO key) ahO key l v)(hKb:K+13*l.length≤500000) :
  Calls Tryz.prog 29 #[.pointer (some ⟨tb,0,none⟩),.int .i64 key] w fun e w'=>e=.returned (.tuple #[.int .i64 (v.getD 0),.bool v.isSome,.int .i64 0])∧HeapS arm room croom (K+13*l.length) w' hb p q R t tr ws∧Rok R w w':=by
 have cb:=hid (beside_down key l v h hA hT hm hR hKb)
 clear h hA hT hm hR hKb
 obtain ⟨a,ha⟩:∃ a,a=v.getD 0:=⟨_,rfl⟩
 obtain ⟨b,hb'⟩:∃ b,b=v.isSome:=⟨_,rfl⟩
 rw [←ha,←hb']at cb ⊢
 clear ha hb'
 go_enter Tryz.func29,Tryz.ntmps29
 go_wp2_with (go_at_call 81;refine cb.out.mono ?_;rintro e w1 ⟨rfl,hs,hk⟩;have H1:=hid hs;have K1:=hid hk;clear hs hk)
 go_ret3
 exact ⟨rfl,H1.out,K1.out⟩
end
end Tre
namespace Wlk
open Go.RowKit Go.Maps
open Dsk (gt hid undrew keep_old keep_cell lt_cell newD)
open Cch (Fr)
open Cel (C Cs Cok ext1 I64 nrm hasN pageN)
open Spl (Same AllB)
open Tre
section
variable {arm:Prop} {room croom K:Nat} {p q:Nat} {R:Nat→Prop} {t:RS} {w:World} {hb tb root:Nat} {tr:List (Nat×List Nat)} {ws:List Nat}
theorem run_leaf{P:List Pg}{root:Nat}{cs:List C}(f:List C→Option Int)(g:Int→Int→Option Int)(key:Int)(hN:NodeAt P root true 0 cs)(hg:g (-9223372036854775808) 9223372036854775807=none)(hl:cs.length≤100000) :
  Run P root f g key [([],⟨root,-9223372036854775808,9223372036854775807,true,0,cs,Cel.fN key cs⟩)] (f cs):=by
 unfold Run
 refine ⟨⟨?_,by simp,by simp [I64],by simp [I64],hl⟩,?_⟩
 ·exact ⟨⟨rfl,rfl,rfl,rfl⟩,hN,hold_all hN.key,Or.inr ⟨rfl,rfl⟩,Or.inl ⟨rfl,rfl⟩⟩
 ·cases f cs with
  | none=>exact Or.inr (Or.inl ⟨rfl,hg,rfl⟩)
  | some a=>exact Or.inl ⟨a,rfl,rfl⟩
variable {c:Nat}
theorem heap_moved(k:Int)(b:Bool)(h:HeapS arm room croom K w hb p q R t tr ws)(hc:R c)(hne:c≠hb):HeapS arm room croom K (moved w c k b) hb p q R t tr ws:=
 (h.mv (h.prg.work (fr_imp (moved_fr w c k b) (fun i e=>by subst e;exact hc))) (h.heap.fr (moved_fr w c k b) (fun e=>hne e.symm)) (Or.inl h.mem)).less (fun b h=>Or.inl h) h.mem
theorem mv_held{k0:Int}{b0:Bool}{k:Int}{b:Bool}{W:World}{K':Nat}(hT:TreeAt w tb hb root)(hm:R tb)(hC:CurAt w c (.pointer (some ⟨tb,0,none⟩)) k0 b0)(hc:R c)(hne:c≠hb)(hnt:c≠tb)
  (hM:Mv (fun W=>HeapS arm room croom K' W hb p q R t tr ws∧Rok R w W) c k b W) :
  HeapS arm room croom K' W hb p q R t tr ws∧TreeAt W tb hb root∧CurAt W c (.pointer (some ⟨tb,0,none⟩)) k b∧∀ (R0:Nat→Prop) (w0:World),Rok R0 w0 w→(∀ b,R0 b→R b)→w0.heap.size≤c→Rok R0 w0 W:=by
 obtain ⟨w1,⟨h1,h2⟩,rfl⟩:=hM
 have hT1:=hT.rok h2 hm
 have hC1:CurAt w1 c (.pointer (some ⟨tb,0,none⟩)) k0 b0:=(h2.at_ hc hC.lt).trans hC
 refine ⟨heap_moved k b h1 hc hne,((moved_fr w1 c k b).blk tb hT1.lt (fun e=>hnt e.symm)).trans hT1,hC1.moved k b,fun R0 w0 h3 h4 h5=>?_⟩
 exact (h3.then h2 h4).mine (moved_fr w1 c k b) (fun i e=>by subst e;exact h5)
theorem New_yes(h:TreeAt w tb hb root)(hr:root≠0):Calls Tryz.prog 33 #[.pointer (some ⟨tb,0,none⟩)] w fun x w'=>x=.returned (.pointer (some ⟨w.heap.size,0,none⟩))∧w'=w.alloc (.cells #[.pointer (some ⟨tb,0,none⟩),.int .i64 0,.bool false] 92):=by
 have cf:=hid (fault_at (root:Int) (w.alloc (.cells #[.pointer (some ⟨tb,0,none⟩),.int .i64 0,.bool false] 92)) (CurAt.new w (.pointer (some ⟨tb,0,none⟩)) 0 false) (Tre.Root_yes (h.keep (ext1 _))))
 rw [if_neg (by omega)]at cf
 clear h hr
 go_enter Tryz.func33,Tryz.ntmps33
 go_wp2_with (go_at_call 90;refine cf.out.mono ?_;rintro x w1 ⟨rfl,h1⟩;have B1:=hid h1;clear h1)
 go_ret
 exact ⟨rfl,B1.out⟩
theorem put_nil{cs0:List C}(key:Int)(h:HeapS arm room croom K w hb p q R t tr ws)(hA:AllB t.now)(hT:TreeAt w tb hb root)(hm:R tb)(hN:NodeAt t.now root true 0 cs0)(hnf:root∉flat tr)(hF:Cel.fN key cs0=cs0.length)(hk:I64 key)(hy:hasN true 0 (cs0++[eC key []])=true)(hKb:K+2≤500000) :
  Calls Tryz.prog 25 #[.pointer (some ⟨tb,0,none⟩),.int .i64 key,.slice none 0 0] w fun e w'=>e=.returned (.int .i64 0)∧Chg1 arm room croom (K+2+1) hb p q R t tr ws root (cs0++[eC key []]) w w':=
 Put_leaf key none 0 0 [] h hA hT hm hN hnf ⟨rfl,Nat.le_refl _,fun _=>⟨rfl,rfl⟩,fun h=>absurd h (by omega)⟩ (by simp) (fun b o e=>by cases e) (fun W=>keep_nil tb key W) (by omega) hF hk hy hKb
end
theorem fresh12(w:World)(hT:Jrn.Tab w)(h0:0<w.heap.size) :
  Calls Tryz.prog 32 #[] w fun e w'=>∃ p hb tb t',e=.returned (.pointer (some ⟨tb,0,none⟩))∧w.heap.size≤hb∧w.heap.size≤tb∧TreeAt w' tb hb 2∧HeapS False 32768 16 6 w' hb p w.heap.size (Plus (Plus (Old w) hb) tb) t' [] z60∧NodeAt t'.now 2 true 0 []∧AllB t'.now∧Rok (Old w) w w':=by
 have c17:=hid (Dsk.new_yes 32768 w (by omega) (by omega))
 have HT:=hid hT;have H0:=hid h0
 have t1:=hid T1_len;have t2:=hid T1_all
 clear hT h0
 go_enter Tryz.func32,Tryz.ntmps32
 go_wp2_with (first
  | (go_at_call 50;refine c17.out.mono ?_;rintro e w1 ⟨rfl,⟨P1,hd1,ha1⟩,hb1⟩;have D1:=hid hd1;have K1:=hid ha1;have B1:=hid hb1;clear hd1 ha1 hb1)
  | (go_at_call 49;refine (open_clean w.heap.size 16 P1 (newD 32768) [] w1 D1.out (clean_new 32768) whole_nil (by simp) (by omega) (by omega) (HT.out.keep B1.out) ⟨by have:=H0.out;have:=B1.out.size;omega,fun hd=>by rcases hd with h1 | h1;(have:=H0.out;omega);(have:=K1.out 0 h1;omega)⟩ (by show 0≤_;omega)).mono ?_;rintro e w2 ⟨p,x,rfl,ho⟩;have N2:=hid (prg_new B1.out K1.out ho);clear ho)
  | (go_at_call 51;refine (prg_begin N2.out.1).mono ?_;rintro e w3 ⟨rfl,hP3,hok3⟩;have P3:=hid (show PrgAt False 32768 16 1 w3 p w.heap.size (Old w) rt0.begin from hP3);have K3:=hid (N2.out.2.then hok3 (fun _ h=>h));clear hP3 hok3)
  | (go_at_call 52;refine (Make_yes P3.out rfl rfl (by omega)).mono ?_;rintro e w4 ⟨hb,rfl,hH4,hhb,hP4,hok4⟩;have H4:=hid (show HeapS False 32768 16 3 w4 hb p w.heap.size (Plus (Old w) hb) T1 [] z60 from ⟨hP4,hH4,Or.inr rfl,⟨rfl,rfl,by simp [flat],rfl,by decide⟩,rfl,rfl,rfl⟩);have K4:=hid (K3.out.then hok4 (fun _ h=>h));have HB4:=hid (Nat.le_trans K3.out.size hhb);clear hH4 hP4 hok4 hhb)
  | (go_at_call 14;refine (Make_new H4.out t2.out (by rw [t1.out];omega) (by rw [t1.out];omega) (by omega)).mono ?_;rintro e w5 ⟨tb,t',rfl,htb,hT2,hs2,hN2,hA2,hl2,hk2⟩;rw [t1.out]at hT2 hN2;have H5:=hid hs2;have T5:=hid hT2;have N5:=hid hN2;have A5:=hid hA2;have TB:=hid (Nat.le_trans K4.out.size htb);have K5:=hid (K4.out.then hk2 (fun b h=>Or.inl h));clear htb hT2 hs2 hN2 hA2 hl2 hk2))
 go_ret
 exact ⟨p,hb,tb,rfl,HB4.out,TB.out,T5.out,t',H5.out,N5.out,A5.out,K5.out⟩
theorem lives_any(w:World)(hT:Jrn.Tab w)(h0:0<w.heap.size):Calls Tryz.prog 34 #[] w fun e w'=>e=.returned (.bool true)∧Below w.heap.size w w':=by
 have cf:=hid (fresh12 w hT h0)
 have E1:=hid (show hasN true 0 ([]++[eC 1 []])=true by decide +kernel)
 have E2:=hid (show hasN true 0 (([]++[eC 1 []])++[eC 5 []])=true by decide +kernel)
 have k1:Hid True:=hid trivial
 clear hT h0
 go_enter Tryz.func34,Tryz.ntmps34
 go_upto_region 2 with (go_at_call 32;refine cf.out.mono ?_;rintro e w1 ⟨p,hb,tb,t1,rfl,hhb,htb,hT,hs,hN,hA,hk⟩;have HB:=hid hhb;have TB:=hid htb;have T1:=hid hT;have H1:=hid hs;have N1:=hid hN;have A1:=hid hA;have K1:=hid hk;clear hhb htb hT hs hN hA hk)
 obtain ⟨R2,hR2⟩:∃ R2,R2=Plus (Plus (Old w) hb) tb:=⟨_,rfl⟩
 have O2:Hid (∀ b,Old w b→R2 b):=hid (fun b h=>by rw [hR2];exact Or.inl (Or.inl h))
 have M2:Hid (R2 tb):=hid (by rw [hR2];exact Or.inr rfl)
 rw [←hR2]at H1
 clear hR2 cf
 have cp1:=hid (put_nil 1 H1.out A1.out T1.out M2.out N1.out (by simp [flat]) rfl (by simp [I64]) E1.out (by omega))
 have cp2:Hid (∀ (W:World) (t4:RS),HeapS False 32768 16 (6+2+1) W hb p w.heap.size R2 t4 [] z60→AllB t4.now→TreeAt W tb hb 2→NodeAt t4.now 2 true 0 ([]++[eC 1 []])→Calls Tryz.prog 25 #[.pointer (some ⟨tb,0,none⟩),.int .i64 5,.slice none 0 0] W fun e w'=>e=.returned (.int .i64 0)∧Chg1 False 32768 16 (6+2+1+2+1) hb p w.heap.size R2 t4 [] z60 2 (([]++[eC 1 []])++[eC 5 []]) W w'):=hid (fun W t4 a b c d=>put_nil 5 a b c M2.out d (by simp [flat]) rfl (by simp [I64]) E2.out (by omega))
 go_upto_region 4 with (first
  | (go_at_call 25;clear k1;refine cp1.out.mono ?_;rintro e w4 ⟨rfl,t4,hs4,hN4,hA4,hl4,hk4⟩;have H4:=hid hs4;have N4:=hid hN4;have A4:=hid hA4;have T4:=hid (T1.out.rok hk4 M2.out);have K4:=hid (K1.out.then hk4 O2.out);clear hs4 hN4 hA4 hl4 hk4)
  | (go_at_call 25;refine (cp2.out w4 t4 H4.out A4.out T4.out N4.out).mono ?_;rintro e w5 ⟨rfl,t5,hs5,hN5,hA5,hl5,hk5⟩;have H5:=hid hs5;have N5:=hid hN5;have A5:=hid hA5;have T5:=hid (T4.out.rok hk5 M2.out);have K5:=hid (K4.out.then hk5 O2.out);clear hs5 hN5 hA5 hl5 hk5))
 have cn:=hid (New_yes T5.out (by omega))
 go_upto_region 5 with (go_at_call 33;refine cn.out.mono ?_;rintro e w6 ⟨rfl,h6⟩;have B6:=hid (show Below w5.heap.size w5 w6 by rw [h6];exact ext1 _);have C6:=hid (show CurAt w6 w5.heap.size (.pointer (some ⟨tb,0,none⟩)) 0 false by rw [h6];exact CurAt.new w5 _ 0 false);clear h6)
 obtain ⟨c,hc⟩:∃ c,c=w5.heap.size:=⟨_,rfl⟩
 rw [←hc]at C6 ⊢
 have hlt:=C6.out.lt
 have s5:=K5.out.size
 have hbl:=H5.out.heap.lt
 have tbl:=T5.out.lt
 have CW:=hid (show w.heap.size≤c by omega)
 have NE:=hid (show c≠hb∧c≠tb by omega)
 obtain ⟨R6,hR6⟩:∃ R6,R6=NewR R2 w5 w6:=⟨_,rfl⟩
 have H6:=hid (H5.out.news B6.out)
 rw [←hR6]at H6
 have O6:Hid (∀ b,Old w b→R6 b):=hid (fun b h=>by rw [hR6];exact Or.inl (O2.out b h))
 have M6:Hid (R6 tb):=hid (by rw [hR6];exact Or.inl M2.out)
 have MC:Hid (R6 c):=hid (by rw [hR6];exact Or.inr ⟨by omega,hlt⟩)
 have T6:=hid (T5.out.keep B6.out)
 have K6:=hid (K5.out.below B6.out)
 clear hlt s5 hbl tbl hR6 hc cp1 cp2 H1 H4 H5 N1 N4 A1 A4 T1 T4 T5 K1 K4 K5 B6 cn
 have cs1:=hid (Seek_at 2 (by omega) (by simp [I64]) w6 C6.out (fun W h=>(h.2.at_ MC.out C6.out.lt).trans C6.out) (Next_any (2 - 1) _ (some 5) H6.out A5.out T6.out M6.out (run_leaf (abO (2 - 1)) bhO (2 - 1) N5.out rfl (by decide)) (by simp)))
 go_upto_region 6 with (go_at_call 47;refine cs1.out.mono ?_;rintro e w7 ⟨rfl,hq⟩;obtain ⟨hs7,hT7,hC7,hk7⟩:=mv_held T6.out M6.out C6.out MC.out NE.out.1 NE.out.2 hq;have H7:=hid hs7;have T7:=hid hT7;have C7:=hid hC7;have K7:=hid (hk7 _ w K6.out O6.out CW.out);clear hq hs7 hT7 hC7 hk7)
 clear H6 T6 C6 K6 cs1
 have cs2:=hid (Prev_at w7 C7.out (fun W h=>(h.2.at_ MC.out C7.out.lt).trans C7.out) (Prev_any 5 _ (some 1) H7.out A5.out T7.out M6.out (run_leaf (beO 5) ahO 5 N5.out rfl (by decide)) (by simp)))
 go_upto_region 8 with (first
  | (go_at_call 43;refine (Key_at w7 C7.out).mono ?_;rintro e w8 ⟨rfl,h8⟩;obtain rfl:=h8.symm;clear h8)
  | (go_at_call 46;refine cs2.out.mono ?_;rintro e w9 ⟨rfl,hq⟩;obtain ⟨hs7,hT7,hC7,hk7⟩:=mv_held T7.out M6.out C7.out MC.out NE.out.1 NE.out.2 hq;have H9:=hid hs7;have T9:=hid hT7;have C9:=hid hC7;have K9:=hid (hk7 _ w K7.out O6.out CW.out);clear hq hs7 hT7 hC7 hk7))
 clear H7 T7 C7 K7 cs2
 have cs3:=hid (Prev_at w9 C9.out (fun W h=>(h.2.at_ MC.out C9.out.lt).trans C9.out) (Prev_any 1 _ none H9.out A5.out T9.out M6.out (run_leaf (beO 1) ahO 1 N5.out rfl (by decide)) (by simp)))
 go_wp2_with (first
  | (go_at_call 43;refine (Key_at w9 C9.out).mono ?_;rintro e w8 ⟨rfl,h8⟩;obtain rfl:=h8.symm;clear h8)
  | (go_at_call 46;refine cs3.out.mono ?_;rintro e w10 ⟨rfl,hq⟩;obtain ⟨hs7,hT7,hC7,hk7⟩:=mv_held T9.out M6.out C9.out MC.out NE.out.1 NE.out.2 hq;have K10:=hid (hk7 _ w K9.out O6.out CW.out);clear hq hs7 hT7 hC7 hk7))
 go_ret
 exact ⟨rfl,old_below K10.out⟩
end Wlk
namespace Wlk
open Go.RowKit Go.Maps
open Dsk (gt hid undrew keep_old keep_cell lt_cell newD)
open Cch (Fr TwoKept RPost Rec put_other)
open Cel (ext1)
open Tre (TZ Bd)
attribute [local go_sem] Oper.semAt_some
theorem seven(i:Nat)(hi:i<7)(W:World):(Instr.index 99 (.agg #[.int .i64 1,.int .i64 1,.int .i64 1,.int .i64 1,.int .i64 1,.int .i64 1,.int .i64 1]) (.int .i64 (i:Int))).run Tryz.prog W=.ok (.int .i64 1) W:=by
 rcases i with _ |_ |_ |_ |_ |_ |_ |i
 all_goals first |omega |kernel_rfl
theorem ret_cell1{P:Program}{fn:Func}{a:Tmp}{s:TypeId}(h:fn.results = #[.cell a s])(hs:∀ W,(isAgg s).run P W=.ok false W){tmps:Array Value}{W:World}{q:Nat}{x:Value}
  (ha:tmps.getD a undef=.pointer (some ⟨q,0,none⟩)) (hx:W.cell? ⟨q,0,none⟩=some x):(results fn tmps).run P W=.ok x W:=by
 rw [Jrn.results_cell1 h,ha]
 simp [asAddr,loadVar,hs,hx]
theorem agg4(W:World):(isAgg 4).run Tryz.prog W=.ok false W:=by kernel_rfl
theorem eq_nil(a b c:Value)(W:World):(binOp .eql 79 (.func (.func 92) #[] #[a,b,c]) .nilFunc).run Tryz.prog W=.ok (.bool false) W:=by kernel_rfl
theorem Range_any(k up:Int)(w:World):Calls Tryz.prog 37 #[.pointer none,.int .i64 k,.int .i64 up] w fun e w'=>e=.returned (.func (.func 92) #[] #[.pointer (some ⟨w.heap.size,0,none⟩),.pointer (some ⟨w.heap.size+1,0,none⟩),.pointer (some ⟨w.heap.size+1+1,0,none⟩)])∧w'=((w.alloc (.cells #[.pointer none] 28)).alloc (.cells #[.int .i64 k] 3)).alloc (.cells #[.int .i64 up] 3):=by
 go_enter Tryz.func37,Tryz.ntmps37
 go_wp2
 go_ret
 exact ⟨rfl,rfl⟩
structure NS (w:World) (i:Int) (c D:Nat) (W:World):Prop where
 a:W.cell? ⟨w.heap.size,1,none⟩=some (.int .i64 i)
 r:Boxed W (w.heap.size+1) 4 (.bool false)
 b:Below w.heap.size w W
 d:Cch.Mark D W
 z:CurAt W c (.pointer none) 0 false
theorem NS.fr{w:World}{i:Int}{c D:Nat}{v:Value}{W W':World}(h:NS w i c D W)(hc:w.heap.size+2≤c)(hD:D≠c)(hz:CZ c W' v)(hf:Fr (fun k=>k=c) W W'):NS w i c D W':=by
 have hl:=(Array.getElem?_eq_some_iff.1 h.d).1
 refine ⟨fr_cell hf h.a (by omega),(hf.blk _ h.r.lt (by omega)).trans h.r,?_,(hf.blk _ hl hD).trans h.d,hz.2⟩
 exact ⟨hf.os.trans h.b.os,hf.tape.trans h.b.tape,hf.output.trans h.b.output,Nat.le_trans h.b.size hf.size,fun k hk=>(hf.blk k (Nat.lt_of_lt_of_le hk h.b.size) (by omega)).trans (h.b.block k hk)⟩
theorem none_any(k i:Int)(hi:Cel.I64 i)(w:World)(hT:Jrn.Tab w)(h0:0<w.heap.size) :
  Calls Tryz.prog 10 #[.agg #[.int .i64 k,.int .i64 i]] w fun e w'=>e=.returned (.bool true)∧Below w.heap.size w w':=by
 obtain ⟨W3,hW3⟩:∃ W3,W3=(((w.alloc (.cells #[.int .i64 k,.int .i64 i] 73)).alloc (.cells #[.bool false] 4)).alloc (.cells #[.pointer none,.int .i64 0,.bool false] 92)).alloc (.cells #[.pointer none,.int .i64 0] 94):=⟨_,rfl⟩
 have s3:W3.heap.size=w.heap.size+4:=by rw [hW3];simp
 have n3:W3.cell? ⟨w.heap.size,1,none⟩=some (.int .i64 i)∧Boxed W3 (w.heap.size+1) 4 (.bool false)∧Below w.heap.size w W3:=by
  have a0:(w.alloc (.cells #[.int .i64 k,.int .i64 i] 73)).cell? ⟨w.heap.size,1,none⟩=some (.int .i64 i):=by rw [World.cell?_alloc_new];rfl
  have a1:=Boxed.new (w.alloc (.cells #[.int .i64 k,.int .i64 i] 73)) 4 (.bool false)
  simp only [World.size_alloc]at a1
  refine ⟨?_,?_,?_⟩
  ·rw [hW3];exact keep_old (gt (gt (ext1 _) (ext1 _)) (ext1 _)) a0
  ·rw [hW3];exact (a1.alloc _).alloc _
  ·rw [hW3];exact gt (gt (gt (ext1 _) (ext1 _)) (ext1 _)) (ext1 _)
 have z3:CurAt W3 (w.heap.size+1+1) (.pointer none) 0 false:=by
  have:=CurAt.new ((w.alloc (.cells #[.int .i64 k,.int .i64 i] 73)).alloc (.cells #[.bool false] 4)) (.pointer none) 0 false
  simp only [World.size_alloc]at this
  rw [hW3];exact this.keep (ext1 _)
 have y3:W3.cell? ⟨w.heap.size+1+1+1,0,none⟩=some (.pointer none):=by
  have h:=heap_alloc_new (((w.alloc (.cells #[.int .i64 k,.int .i64 i] 73)).alloc (.cells #[.bool false] 4)).alloc (.cells #[.pointer none,.int .i64 0,.bool false] 92)) (.cells #[.pointer none,.int .i64 0] 94)
  simp only [World.size_alloc]at h
  rw [hW3];unfold World.cell?;rw [h];rfl
 have HT:=hid hT;have H0:=hid h0;have HI:=hid hi;have N3:=hid n3;have Z3:=hid z3;have Y3:=hid y3;have HW:=hid hW3;have S3:=hid s3
 have t1:Hid True:=hid trivial
 clear hT h0 hi n3 z3 y3 hW3 s3
 refine (callsIn_wide (n:=5)).1 ?_
 refine callsIn_of_wp_marks Tryz.func10 rfl trivial ?_ rfl
 simp only [Tryz.ntmps10,List.size_toArray,List.length_cons,List.length_nil,Nat.reduceAdd,Nat.reduceSub,Array.replicate_succ,Array.replicate_zero,List.push_toArray,List.append_toArray,List.nil_append,List.cons_append]
 gi_wp2_with (first
  | (refine ⟨trivial,?_⟩;gi_at_call 33;clear t1;rw [←HW.out];refine (callsIn_wide.2 (New_bad (.pointer none) W3 (Or.inl rfl))).mono ?_;rintro e w4 ⟨rfl,hb⟩;have B4:=hid hb;clear hb)
  | (refine ⟨trivial,?_⟩;gi_at_call 33;refine (callsIn_wide.2 (New_bad _ w4 (Or.inr ⟨_,rfl,keep_old B4.out Y3.out⟩))).mono ?_;rintro e w5 ⟨rfl,hb⟩;have B5:=hid (gt B4.out hb);clear hb)
  | (refine ⟨trivial,?_⟩;gi_at_call 36;refine (callsIn_wide.2 (Fill_bad _ w5 (Or.inr ⟨_,rfl,keep_old B5.out Y3.out⟩))).mono ?_;rintro e w6 ⟨rfl,hb⟩;have B6:=hid (gt B5.out hb);clear hb)
  | (refine ⟨trivial,?_⟩;gi_at_call 38;refine (callsIn_wide.2 (Pairs_nil w6)).mono ?_;rintro e w7 ⟨rfl,hb⟩;have B7:=hid (gt B6.out hb);have a7:=keep_old B7.out N3.out.1;clear hb)
  | (refine ⟨trivial,?_⟩;gi_at_call 37;refine (callsIn_wide.2 (Range_any _ _ w7)).mono ?_;rintro e w8 ⟨rfl,h8⟩;have H8:=hid h8;have en:=eq_nil (.pointer (some ⟨w7.heap.size,0,none⟩)) (.pointer (some ⟨w7.heap.size+1,0,none⟩)) (.pointer (some ⟨w7.heap.size+1+1,0,none⟩));clear h8 a7))
 clear en
 have B8:=hid (show Below W3.heap.size W3 w8 by rw [H8.out];exact gt (gt (gt B7.out (ext1 _)) (ext1 _)) (ext1 _))
 have d1:Hid (w8.cell? ⟨w7.heap.size,0,none⟩=some (.pointer none)∧w8.cell? ⟨w7.heap.size+1,0,none⟩=some (.int .i64 i)):=hid (by
  have e1:=((Boxed.new w7 28 (.pointer none)).alloc (.cells #[.int .i64 i] 3)).alloc (.cells #[.int .i64 4611686018427387904] 3)
  have e2:=(Boxed.new (w7.alloc (.cells #[.pointer none] 28)) 3 (.int .i64 i)).alloc (.cells #[.int .i64 4611686018427387904] 3)
  simp only [World.size_alloc]at e1 e2
  rw [H8.out];exact ⟨e1.cell,e2.cell⟩)
 obtain ⟨D,hD⟩:∃ D,D=w8.heap.size:=⟨_,rfl⟩
 have SD:=hid (show w.heap.size+4≤D by have h1:=B8.out.size;have h2:=S3.out;omega)
 clear H8
 refine range_pair (fun _:Unit=>#[.int .i64 0,.int .i64 0]) (fun _=>rfl) (gf:=92) (lb:=#[.pointer (some ⟨w7.heap.size,0,none⟩),.pointer (some ⟨w7.heap.size+1,0,none⟩),.pointer (some ⟨w7.heap.size+1+1,0,none⟩)]) rfl (enters_of Tryz.func92 (by kernel_rfl) rfl) rfl
  (fun _ W=>GI w8 W) (fun _ _ _=>False) (fun _=>True) (fun _ _=>False) ?hI ?hM ?hX ?h0 ?hseq ?a1 ?assign ?body ?done ?stop
 case assign=>
  intro l v W K hK
  gi_wp2
  exact hK
 case hI=>intro _ W l o o' h1 _ _ _ h;exact h.put o' h1
 case hM=>intro _ _ W l o o' h1 _ _ _ h;exact h.elim
 case hX=>intro c W l o o' h1 _ _ _ h;exact h.elim
 case h0=>intro W h1 h2;exact ⟨h1,h2⟩
 case hseq=>
  intro l J L Jx W hl hJI hJs hJL hY hJ0
  have hi:=hJI 0 W hJ0
  refine (callsIn_wide.2 (range_nil l _ _ _ i W (keep_old hi.1 d1.out.1) (keep_old hi.1 d1.out.2))).mono ?_
  rintro e W' ⟨hv,hb⟩
  exact ⟨hv,Or.inl ⟨0,trivial,hJs 0 W W' hJ0 ⟨gt hi.1 hb,Nat.le_trans hi.2 hb.size⟩ (two_below hb hi.2)⟩⟩
 case body=>intro l k v W h;exact h.elim
 case stop=>intro c W h;exact h.elim
 case done=>
  rintro _ W _ hg hM
  have BW:=hid (gt B8.out hg.1)
  have NW:Hid (NS w i (w.heap.size+1+1) D W):=hid ⟨keep_old BW.out N3.out.1,(BW.out.block _ N3.out.2.1.lt).trans N3.out.2.1,gt N3.out.2.2 BW.out,by rw [hD];exact hM,Z3.out.keep BW.out⟩
  clear hg hM d1 B8 BW
  have H7:=hid (fun (j:Nat) (hj:j<7) (W:World)=>seven j hj W)
  have ix:∀ j:Nat,j<2→∃ v,(∀ W,(Instr.index 95 (.agg #[.pointer none,.pointer (some ⟨w.heap.size+1+1,0,none⟩)]) (.int .i64 (j:Int))).run Tryz.prog W=.ok v W)∧(v=.pointer none∨v=.pointer (some ⟨w.heap.size+1+1,0,none⟩)):=by
   intro j hj
   rcases j with _ |_ |j
   ·exact ⟨_,fun W=>by kernel_rfl,Or.inl rfl⟩
   ·exact ⟨_,fun W=>by kernel_rfl,Or.inr rfl⟩
   ·omega
  have IX:=hid ix
  clear ix
  replace hD:=hid hD
  gi_wp2
  gi_loopw [53] (fun c W=>∃ j:Nat,j≤2∧c=.int .i64 (j:Int)∧Hid (NS w i (w.heap.size+1+1) D W)) (fun c _=>2 - (Lib.intOf c).toNat)
  case atStart=>exact ⟨0,by omega,rfl,NW⟩
  case round=>
   obtain ⟨j,hj,rfl,N0⟩:=hrel
   by_cases hj2:j<2
   ·obtain ⟨v,ixv,hv⟩:=IX.out j hj2
    have hj2':(j:Int)<2:=by omega
    have HV:=hid hv
    have a0:=N0.out.a
    clear hv
    gi_wp2_with (first
     | (refine ⟨trivial,?_⟩;gi_at_call 41;refine (callsIn_wide.2 (First_bad (w.heap.size+1+1) v _ ⟨HV.out,N0.out.z⟩)).mono ?_;rintro e w1x ⟨rfl,hz,hf⟩;have N1:=hid (N0.out.fr (by omega) (by have:=SD.out;omega) hz hf);clear hz hf N0 a0;have a0:=N1.out.a)
     | (refine ⟨trivial,?_⟩;gi_at_call 45;refine (callsIn_wide.2 (Last_bad (w.heap.size+1+1) v _ ⟨HV.out,N1.out.z⟩)).mono ?_;rintro e w2x ⟨rfl,hz,hf⟩;have N2:=hid (N1.out.fr (by omega) (by have:=SD.out;omega) hz hf);clear hz hf N1 a0;have a0:=N2.out.a)
     | (refine ⟨trivial,?_⟩;gi_at_call 47;refine (callsIn_wide.2 (Seek_bad (w.heap.size+1+1) v i HI.out _ ⟨HV.out,N2.out.z⟩)).mono ?_;rintro e w3x ⟨rfl,hz,hf⟩;have N3:=hid (N2.out.fr (by omega) (by have:=SD.out;omega) hz hf);clear hz hf N2 a0;have a0:=N3.out.a)
     | (refine ⟨trivial,?_⟩;gi_at_call 42;refine (callsIn_wide.2 (Next_none (w.heap.size+1+1) v _ ⟨HV.out,N3.out.z⟩)).mono ?_;rintro e w4x ⟨rfl,hz,hf⟩;have N4:=hid (N3.out.fr (by omega) (by have:=SD.out;omega) hz hf);clear hz hf N3 a0;have a0:=N4.out.a)
     | (refine ⟨trivial,?_⟩;gi_at_call 46;refine (callsIn_wide.2 (Prev_none (w.heap.size+1+1) v _ ⟨HV.out,N4.out.z⟩)).mono ?_;rintro e w5x ⟨rfl,hz,hf⟩;have N5:=hid (N4.out.fr (by omega) (by have:=SD.out;omega) hz hf);clear hz hf N4 a0;have a0:=N5.out.a)
     | (refine ⟨trivial,?_⟩;gi_at_call 48;refine (callsIn_wide.2 (Value_none (w.heap.size+1+1) v _ ⟨HV.out,N5.out.z⟩)).mono ?_;rintro e w6x ⟨rfl,hz,hf⟩;have N6:=hid (N5.out.fr (by omega) (by have:=SD.out;omega) hz hf);clear hz hf N5 a0;have a0:=N6.out.a)
     | (refine ⟨trivial,?_⟩;gi_at_call 43;refine (callsIn_wide.2 (Key_none (w.heap.size+1+1) v _ ⟨HV.out,N6.out.z⟩)).mono ?_;rintro e w7x ⟨rfl,hz,hf⟩;have N7:=hid (N6.out.fr (by omega) (by have:=SD.out;omega) hz hf);clear hz hf N6 a0;have a0:=N7.out.a)
     | (refine ⟨trivial,?_⟩;gi_at_call 44;refine (callsIn_wide.2 (Delete_none (w.heap.size+1+1) v _ ⟨HV.out,N7.out.z⟩)).mono ?_;rintro e w8x ⟨rfl,hz,hf⟩;have N8:=hid (N7.out.fr (by omega) (by have:=SD.out;omega) hz hf);clear hz hf N7 a0;have a0:=N8.out.a))
    gi_loopw [102] (fun c W=>∃ m:Nat,m≤7∧c=.int .i64 (m:Int)∧Hid (NS w i (w.heap.size+1+1) D W)) (fun c _=>7 - (Lib.intOf c).toNat)
    case atStart=>exact ⟨0,by omega,rfl,N8⟩
    case round=>
     obtain ⟨m,hm,rfl,N9⟩:=hrel
     by_cases hm7:m<7
     ·have hm':(m:Int)<7:=by omega
      have s7:=H7.out m hm7
      gi_wp2
      go_roundw
      case measure=>simp [Lib.intOf];omega
      case rel=>exact ⟨m+1,by omega,by go_num,N9⟩
     ·have hm':¬(m:Int)<7:=by omega
      gi_wp2
      go_roundw
      case measure=>simp [Lib.intOf];omega
      case rel=>exact ⟨j+1,by omega,by go_num,N9⟩
   ·have hj2':¬(j:Int)<2:=by omega
    have CL:=hid (lives_any wr (HT.out.keep N0.out.b) (by have h1:=N0.out.b.size;have h2:=H0.out;omega))
    have r0:=N0.out.r.cell;have r1:=N0.out.r.frozen
    gi_wp2_with (refine ⟨trivial,?_⟩;gi_at_call 34;refine (callsIn_wide.2 CL.out).mono ?_;rintro e w9 ⟨rfl,hb9⟩;have B9:=hid hb9;have r2:=keep_old hb9 r0;have r3:=((hb9.block _ N0.out.r.lt).trans N0.out.r);clear r0 r1;have r0:=Boxed.cell r3;have r1:=Boxed.frozen r3;clear hb9)
    have hDo:=hD.out
    have hl:=(Array.getElem?_eq_some_iff.1 N0.out.d).1
    have sd:=SD.out
    have m9:Cch.Mark D (w9.setCell ⟨w.heap.size+1,0,none⟩ (.bool true)):=(heap_setCell_other _ _ _ _ (show D≠w.heap.size+1 by omega)).trans ((B9.out.block D hl).trans N0.out.d)
    rw [←hDo]
    refine ⟨by simp,.inl ⟨_,_,rfl,run_takeDeferred m9,?_⟩⟩
    have f:Boxed ((w9.setCell ⟨w.heap.size+1,0,none⟩ (.bool true)).putObj D (.deferred none)) (w.heap.size+1) 4 (.bool true):=(put_other (show w.heap.size+1≠D by omega)).trans (Boxed.set (.bool true) r3)
    exact ⟨_,ret_cell1 rfl agg4 rfl f.cell,rfl,below_put _ (Cel.below_set (gt N0.out.b B9.out) (show w.heap.size≤w.heap.size+1 by omega) _) (Nat.le_refl _) (by omega)⟩
end Wlk
end Go.Proofs.YtfcikkechphmaaaGreatDoor
