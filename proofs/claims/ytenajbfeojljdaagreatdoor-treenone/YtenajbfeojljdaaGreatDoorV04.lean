/- What Zig, Zag, Local, payable and paged return, and what a cell is; no statement of the seat is proved here. -/
import Derived.Test.YtenajbfeojljdaaGreatDoorV03
import Derived.Deep.RegionHeld3
import Derived.Test.YtenajbfeojljdaaGreatDoorProg
import Derived.WalkKit
import Derived.WalkSpells
import Derived.BigRegion
import Derived.Deep.RegionWith
set_option maxHeartbeats 16000000
set_option maxRecDepth 20000
namespace Go.Proofs.YtenajbfeojljdaaGreatDoor
namespace Cel
open Go.RowKit
def uN(z:Int):Nat:=(z % 18446744073709551616).toNat
def zigN(k:Int):Nat:=if k<0 then (-(2*k) - 1).toNat else (2*k).toNat
def zagN(n:Nat):Int:=if n % 2=1 then -((n/2:Nat):Int) - 1 else ((n/2:Nat):Int)
def locN(l:Int):Nat:=if l<0∨20000<l then 0 else if 96<l then 32 else l.toNat
def I64(z:Int):Prop:=-9223372036854775808≤z∧z≤9223372036854775807
theorem uN_lt(z:Int):uN z<18446744073709551616:=by unfold uN;omega
theorem uN_wrap(z:Int):IntKind.u64.wrap z=(uN z:Int):=by rw [IntKind.wrap_u64];unfold uN;omega
theorem uN_pos(z:Int)(h:0≤z)(h2:z≤9223372036854775807):uN z=z.toNat:=by unfold uN;omega
theorem zigN_lt(k:Int)(h:I64 k):zigN k<18446744073709551616:=by unfold zigN;obtain ⟨h1,h2⟩:=h;split<;>omega
theorem zag_zig(k:Int)(h:I64 k):zagN (zigN k)=k:=by unfold zagN zigN;obtain ⟨h1,h2⟩:=h;split<;>split<;>omega
theorem zag_in(n:Nat)(h:n<18446744073709551616):I64 (zagN n):=by unfold zagN I64;split<;>omega
theorem not_any(k:Int)(h:I64 k):bits .xor .i64 (-1) k = -k - 1:=by
 obtain ⟨h1,h2⟩:=h
 show IntKind.i64.wrap ((BitVec.ofInt 64 (-1) ^^^ BitVec.ofInt 64 k).toNat:Int)=_
 have e1:BitVec.ofInt 64 (-1)=BitVec.allOnes 64:=by decide
 rw [e1,BitVec.allOnes_xor,BitVec.toNat_not,BitVec.toNat_ofInt,IntKind.wrap_i64]
 simp only [Nat.reducePow]
 omega
theorem zig_any(k:Int)(h:I64 k)(w:World):Calls Tryz.prog 235 #[.int .i64 k] w fun e w'=>e=.returned (.int .u64 (zigN k:Nat))∧w'=w:=by
 obtain ⟨h1,h2⟩:=h
 by_cases hk:k<0
 ·have e1:((zigN k:Nat):Int)=2*(-k - 1)+1:=by unfold zigN;rw [if_pos hk];omega
  rw [e1]
  have hn:=not_any k ⟨h1,h2⟩
  go_enter Tryz.func235,Tryz.ntmps235
  go_wp2
  go_ret
  refine ⟨?_,rfl⟩
  simp
  simp only [IntKind.wrap_u64]
  omega
 ·have e1:((zigN k:Nat):Int)=2*k:=by unfold zigN;rw [if_neg hk];omega
  rw [e1]
  go_enter Tryz.func235,Tryz.ntmps235
  go_wp2
  go_ret
  exact ⟨rfl,rfl⟩
theorem zag_any(n:Nat)(h:n<18446744073709551616)(w:World):Calls Tryz.prog 297 #[.int .u64 (n:Int)] w fun e w'=>e=.returned (.int .i64 (zagN n))∧w'=w:=by
 by_cases hk:n % 2=1
 ·have e1:zagN n = -((n:Int)/2) - 1:=by unfold zagN;rw [if_pos hk];omega
  rw [e1]
  have h2:((n:Int) % 2 == 1)=true:=by simp;omega
  have hn:=not_any ((n:Int)/2) ⟨by omega,by omega⟩
  go_enter Tryz.func297,Tryz.ntmps297
  go_wp2
  go_ret
  refine ⟨?_,rfl⟩
  simp
 ·have e1:zagN n=(n:Int)/2:=by unfold zagN;rw [if_neg hk];omega
  rw [e1]
  have h2:((n:Int) % 2 == 1)=false:=by simp;omega
  go_enter Tryz.func297,Tryz.ntmps297
  go_wp2
  go_ret
  exact ⟨rfl,rfl⟩
theorem payable_any(s:Int)(w:World):Calls Tryz.prog 168 #[.int .i64 s] w fun e w'=>e=.returned (.bool (decide (0≤s)&&decide (s≤20000)))∧w'=w:=by
 by_cases h:0≤s<;>by_cases h':s≤20000
 all_goals
  go_enter Tryz.func168,Tryz.ntmps168
  go_wp2
  go_ret
  simp [h,h']
theorem paged_any(s:Int)(w:World):Calls Tryz.prog 253 #[.int .i64 s] w fun e w'=>e=.returned (.bool (decide (1≤s)&&decide (s≤4000)))∧w'=w:=by
 by_cases h:1≤s<;>by_cases h':s≤4000
 all_goals
  go_enter Tryz.func253,Tryz.ntmps253
  go_wp2
  go_ret
  simp [h,h']
theorem local_any(s:Int)(w:World):Calls Tryz.prog 110 #[.int .i64 s] w fun e w'=>e=.returned (.int .i64 (locN s:Nat))∧w'=w:=by
 have cp:=hid (payable_any s)
 by_cases h:0≤s∧s≤20000
 ·rw [show (decide (0≤s)&&decide (s≤20000))=true by simp;omega]at cp
  by_cases h':96<s
  ·have e1:((locN s:Nat):Int)=32:=by unfold locN;rw [if_neg (by omega),if_pos h'];rfl
   rw [e1]
   go_enter Tryz.func110,Tryz.ntmps110
   go_wp2_with (go_at_call 168;refine (cp.out _).mono ?_;rintro e w1 ⟨rfl,h1⟩;obtain rfl:=h1.symm)
   go_ret
   exact ⟨rfl,rfl⟩
  ·have e1:((locN s:Nat):Int)=s:=by unfold locN;rw [if_neg (by omega),if_neg h'];omega
   rw [e1]
   go_enter Tryz.func110,Tryz.ntmps110
   go_wp2_with (go_at_call 168;refine (cp.out _).mono ?_;rintro e w1 ⟨rfl,h1⟩;obtain rfl:=h1.symm)
   go_ret
   exact ⟨rfl,rfl⟩
 ·rw [show (decide (0≤s)&&decide (s≤20000))=false by simp;omega]at cp
  have e1:((locN s:Nat):Int)=0:=by unfold locN;rw [if_pos (by omega)];rfl
  rw [e1]
  go_enter Tryz.func110,Tryz.ntmps110
  go_wp2_with (go_at_call 168;refine (cp.out _).mono ?_;rintro e w1 ⟨rfl,h1⟩;obtain rfl:=h1.symm)
  go_ret
  exact ⟨rfl,rfl⟩
end Cel
namespace Cel
open Go.RowKit
structure C where
 k:Int
 c:Int
 l:Int
 o:Option Addr
 n:Nat
 m:Nat
 x:Int
 b:List Nat
 deriving Inhabited
def big:Nat:=140737488355328
structure Cok (w:World) (a:C):Prop where
 rd:Rd w a.o a.n a.m a.b
 by8:∀ x∈a.b,x<256
 kI:I64 a.k
 cI:I64 a.c
 lI:I64 a.l
 xI:I64 a.x
 nB:a.n≤big
variable {a:C} {w w':World}
theorem Cok.keep(h:Cok w a)(hb:Below w.heap.size w w'):Cok w' a:={ h with rd:=h.rd.keep hb }
def At5(w:World)(b o:Nat)(a:C):Prop:=
 w.cell? ⟨b,o,none⟩=some (.int .i64 a.k)∧w.cell? ⟨b,o+1,none⟩=some (.int .i64 a.c)∧w.cell? ⟨b,o+2,none⟩=some (.int .i64 a.l)∧w.cell? ⟨b,o+3,none⟩=some (.slice a.o a.n a.m)∧w.cell? ⟨b,o+4,none⟩=some (.int .i64 a.x)
theorem At5.keep{b o:Nat}(h:At5 w b o a)(hb:Below w.heap.size w w'):At5 w' b o a:=
 ⟨keep_old hb h.1,keep_old hb h.2.1,keep_old hb h.2.2.1,keep_old hb h.2.2.2.1,keep_old hb h.2.2.2.2⟩
structure Cs (w:World) (ao:Option Addr) (n cap:Nat) (cs:List C):Prop where
 len:cs.length=n
 le:n≤cap
 no:ao=none→n=0∧cap=0
 at_:0<n→∃ b off,ao=some ⟨b,off,none⟩∧∀ t,t<n→At5 w b (off+t*5) (cs.getD t default)
 ok:∀ a∈cs,Cok w a
variable {cs:List C} {n cap:Nat} {ao:Option Addr}
theorem Cs.keep(h:Cs w ao n cap cs)(hb:Below w.heap.size w w'):Cs w' ao n cap cs:=
 ⟨h.len,h.le,h.no,(fun hn=>by
  obtain ⟨b,off,e,hc⟩:=h.at_ hn
  exact ⟨b,off,e,fun t ht=>(hc t ht).keep hb⟩),fun a ha=>(h.ok a ha).keep hb⟩
theorem Cs.nil(w:World):Cs w none 0 0 []:=⟨rfl,Nat.le_refl _,fun _=>⟨rfl,rfl⟩,fun h=>by omega,fun a h=>by cases h⟩
theorem dropC(cs:List C)(i:Nat)(h:i<cs.length):cs.drop i=cs.getD i default::cs.drop (i+1):=by
 rw [List.drop_eq_getElem_cons h]
 simp [List.getD,List.getElem?_eq_getElem h]
theorem Cs.ok_at(h:Cs w ao n cap cs){i:Nat}(hi:i<n):Cok w (cs.getD i default):=by
 apply h.ok
 have hl:=h.len
 simp [List.getD,List.getElem?_eq_getElem (show i<cs.length by omega)]
def NB(t:TypeId)(W:World)(q:Nat)(leaf:Bool)(r:Int)(co:Option Addr)(cn cc:Nat):Prop:=W.heap[q]? = some (.cells #[.bool leaf,.int .i64 r,.slice co cn cc] t (0,0))
section
variable {t:TypeId} {W W':World} {q:Nat} {leaf:Bool} {r:Int} {co:Option Addr} {cn cc:Nat}
theorem NB.cells(h:NB t W q leaf r co cn cc):W.cell? ⟨q,0,none⟩=some (.bool leaf)∧W.cell? ⟨q,1,none⟩=some (.int .i64 r)∧W.cell? ⟨q,2,none⟩=some (.slice co cn cc):=by
 unfold NB at h
 simp [World.cell?,h]
theorem NB.lt(h:NB t W q leaf r co cn cc):q<W.heap.size:=lt_of_block h
theorem NB.keep(h:NB t W q leaf r co cn cc)(hb:Below W.heap.size W W'):NB t W' q leaf r co cn cc:=by
 unfold NB;rw [hb.block q h.lt];exact h
theorem NB.new(t:TypeId)(w:World)(leaf:Bool)(r:Int)(co:Option Addr)(cn cc:Nat):NB t (w.alloc (.cells #[.bool leaf,.int .i64 r,.slice co cn cc] t)) w.heap.size leaf r co cn cc:=heap_alloc_new w _
end
theorem ext1(o:Obj):Below w.heap.size w (w.alloc o):=Below.alloc (Below.refl _ _) (Nat.le_refl _) o
abbrev S5(q:Nat)(a:C)(W:World):Prop:=
 W.cell? ⟨q,0,none⟩=some (.int .i64 a.k)∧W.cell? ⟨q,1,none⟩=some (.int .i64 a.c)∧W.cell? ⟨q,2,none⟩=some (.int .i64 a.l)∧W.cell? ⟨q,3,none⟩=some (.slice a.o a.n a.m)∧W.cell? ⟨q,4,none⟩=some (.int .i64 a.x)
theorem S5.new(t:TypeId)(w:World)(a:C):S5 w.heap.size a (w.alloc (.cells #[.int .i64 a.k,.int .i64 a.c,.int .i64 a.l,.slice a.o a.n a.m,.int .i64 a.x] t)):=by
 have h:=heap_alloc_new w (.cells #[.int .i64 a.k,.int .i64 a.c,.int .i64 a.l,.slice a.o a.n a.m,.int .i64 a.x] t)
 refine ⟨?_,?_,?_,?_,?_⟩<;>(unfold World.cell?;rw [h];rfl)
theorem S5.keep{q:Nat}(h:S5 q a w)(hb:Below w.heap.size w w'):S5 q a w':=
 ⟨keep_old hb h.1,keep_old hb h.2.1,keep_old hb h.2.2.1,keep_old hb h.2.2.2.1,keep_old hb h.2.2.2.2⟩
def spillB(a:C):Bool:=decide ((a.b.length:Int)<a.l)
theorem spills_any(a:C)(w:World)(hn:a.b.length=a.n):Calls Tryz.prog 236 #[.agg #[.int .i64 (a).k,.int .i64 (a).c,.int .i64 (a).l,.slice (a).o (a).n (a).m,.int .i64 (a).x]] w fun e w'=>e=.returned (.bool (spillB a))∧Below w.heap.size w w':=by
 obtain ⟨v,hv⟩:∃ v,v=spillB a:=⟨_,rfl⟩
 rw [←hv]
 unfold spillB at hv
 rw [hn]at hv
 by_cases h:(a.n:Int)<a.l
 ·obtain rfl:v=true:=by rw [hv];simpa using h
  clear hv
  go_enter Tryz.func236,Tryz.ntmps236
  go_wp2
  go_ret
  exact ⟨rfl,ext1 _⟩
 ·obtain rfl:v=false:=by rw [hv];simpa using h
  clear hv
  go_enter Tryz.func236,Tryz.ntmps236
  go_wp2
  go_ret
  exact ⟨rfl,ext1 _⟩
def oneN(leaf:Bool)(a:C):List Nat:=
 if leaf then varN (zigN a.k)++varN (uN a.l)++a.b++(if spillB a then putN (uN a.x) 4 false else []) else putN (uN a.c) 4 false++varN (zigN a.k)
theorem oneN_length(leaf:Bool)(a:C):(oneN leaf a).length=if leaf then szN (zigN a.k)+szN (uN a.l)+a.b.length+(if spillB a then 4 else 0) else 4+szN (zigN a.k):=by
 unfold oneN
 cases leaf<;>cases spillB a<;>simp [varN_length,putN_length]<;>omega
theorem size_wrap(z:Int)(w:World):Calls Tryz.prog 234 #[.int .u64 (IntKind.u64.wrap z)] w fun e w'=>e=.returned (.int .i64 (szN (uN z):Nat))∧w'=w:=by
 rw [uN_wrap];exact size_any _ (uN_lt z) w
theorem csize_any(leaf:Bool)(a:C)(w:World)(h:Cok w a):Calls Tryz.prog 175 #[.agg #[.int .i64 (a).k,.int .i64 (a).c,.int .i64 (a).l,.slice (a).o (a).n (a).m,.int .i64 (a).x],.bool leaf] w fun e w'=>e=.returned (.int .i64 ((oneN leaf a).length:Nat))∧Below w.heap.size w w':=by
 obtain ⟨L,hL⟩:∃ L,L=(oneN leaf a).length:=⟨_,rfl⟩
 rw [←hL]
 rw [oneN_length]at hL
 have cz:=hid (zig_any a.k h.kI)
 have cs:=hid (size_any (zigN a.k) (zigN_lt a.k h.kI))
 have cl:=hid (size_wrap a.l)
 have hsp:=fun w=>spills_any a w h.rd.1
 have sz1:=szN_le (zigN a.k)
 have sz2:=szN_le (uN a.l)
 have hB:=h.nB
 have hb:=h.rd.1
 unfold big at hB
 generalize szN (zigN a.k)=s1 at *
 generalize zigN a.k=z1 at *
 generalize szN (uN a.l)=s2 at *
 rw [hb]at hL
 have hL':=hid hL
 clear h hL hb
 cases leaf with
 | false=>
  go_enter Tryz.func175,Tryz.ntmps175
  go_wp2_with (first |(go_at_call 235;refine (cz.out _).mono ?_;rintro e w1 ⟨rfl,h1⟩;obtain rfl:=h1.symm) |(go_at_call 234;refine (cs.out _).mono ?_;rintro e w1 ⟨rfl,h1⟩;obtain rfl:=h1.symm))
  go_ret
  have:=hL'.out
  simp at this
  subst this
  exact ⟨by simp,ext1 _⟩
 | true=>
  have g0:=S5.new 116 w a
  cases hsb:spillB a with
  | false=>
   rw [hsb]at hsp hL'
   have hsp':=hid hsp
   clear hsp hsb
   have g1:S5 w.heap.size a (w.alloc (.cells #[.int .i64 a.k,.int .i64 a.c,.int .i64 a.l,.slice a.o a.n a.m,.int .i64 a.x] 116)).drew:=g0.keep (Below.refl _ _).drew
   go_enter Tryz.func175,Tryz.ntmps175
   go_upto_region 4 with (first |(go_at_call 235;refine (cz.out _).mono ?_;rintro e w1 ⟨rfl,h1⟩;obtain rfl:=h1.symm;clear cz) |(go_at_call 234;refine (cs.out _).mono ?_;rintro e w1 ⟨rfl,h1⟩;obtain rfl:=h1.symm;clear cs))
   go_region_held3 (S5 w.heap.size a) (with_reducible assumption) (first |(go_at_call 234;refine (cl.out _).mono ?_;rintro e w1 ⟨rfl,h1⟩;obtain rfl:=h1.symm))
   go_wp2_with (go_at_call 236;refine (hsp'.out _).mono ?_;rintro e w1 ⟨rfl,hb1⟩;have H1:=hid hb1;clear hb1)
   go_ret
   have:=hL'.out
   simp at this
   subst this
   exact ⟨by simp<;>first |omega |(simp only [IntKind.wrap_i64];omega),gt (ext1 _).drew H1.out⟩
  | true=>
   rw [hsb]at hsp hL'
   have hsp':=hid hsp
   clear hsp hsb
   have g1:S5 w.heap.size a (w.alloc (.cells #[.int .i64 a.k,.int .i64 a.c,.int .i64 a.l,.slice a.o a.n a.m,.int .i64 a.x] 116)).drew:=g0.keep (Below.refl _ _).drew
   go_enter Tryz.func175,Tryz.ntmps175
   go_upto_region 4 with (first |(go_at_call 235;refine (cz.out _).mono ?_;rintro e w1 ⟨rfl,h1⟩;obtain rfl:=h1.symm;clear cz) |(go_at_call 234;refine (cs.out _).mono ?_;rintro e w1 ⟨rfl,h1⟩;obtain rfl:=h1.symm;clear cs))
   go_region_held3 (S5 w.heap.size a) (with_reducible assumption) (first |(go_at_call 234;refine (cl.out _).mono ?_;rintro e w1 ⟨rfl,h1⟩;obtain rfl:=h1.symm))
   go_wp2_with (go_at_call 236;refine (hsp'.out _).mono ?_;rintro e w1 ⟨rfl,hb1⟩;have H1:=hid hb1;clear hb1)
   go_ret
   have:=hL'.out
   simp at this
   subst this
   exact ⟨by simp<;>first |omega |(simp only [IntKind.wrap_i64];omega),gt (ext1 _).drew H1.out⟩
end Cel
namespace Cel
open Go.RowKit
def allN(leaf:Bool)(cs:List C):List Nat:=cs.flatMap (oneN leaf)
def sumN(leaf:Bool):List C→Nat
 | []=>0
 | a::r=>(oneN leaf a).length+sumN leaf r
theorem sumN_all(leaf:Bool)(cs:List C):(allN leaf cs).length=sumN leaf cs:=by
 induction cs with
 | nil=>rfl
 | cons a r ih=>simp [allN,sumN]at ih ⊢;omega
def sizeN(leaf:Bool)(cs:List C):Nat:=7+sumN leaf cs
theorem oneN_le(leaf:Bool)(a:C):(oneN leaf a).length≤22+a.b.length:=by
 have h1:=szN_le (zigN a.k)
 have h2:=szN_le (uN a.l)
 rw [oneN_length]
 cases leaf<;>cases spillB a<;>simp<;>omega
def Few(cs:List C):Prop:=cs.length≤100000∧∀ a∈cs,a.n≤100000
theorem sum_le{w:World}(leaf:Bool)(cs:List C)(h:∀ a∈cs,Cok w a∧a.n≤100000):sumN leaf cs≤cs.length*100022:=by
 induction cs with
 | nil=>simp [sumN]
 | cons a r ih=>
  have h1:=h a (by simp)
  have h2:=ih (fun x hx=>h x (by simp [hx]))
  have h3:=oneN_le leaf a
  have h4:=h1.1.rd.1
  simp [sumN]
  omega
theorem size_any9(leaf:Bool)(r:Int)(co:Option Addr)(cn cc:Nat)(cs:List C)(w:World)(h:Cs w co cn cc cs)(hf:Few cs) :
  Calls Tryz.prog 116 #[.agg #[.bool leaf,.int .i64 r,.slice co cn cc]] w fun e w'=>e=.returned (.int .i64 (sizeN leaf cs:Nat))∧Below w.heap.size w w':=by
 have hB:sizeN leaf cs≤100000000000:=by
  have:=sum_le leaf cs (fun a ha=>⟨h.ok a ha,hf.2 a ha⟩)
  have:=hf.1
  unfold sizeN
  omega
 have hlen:=h.len
 have hcn:cn≤100000:=by have:=hf.1;omega
 have h':=hid h
 have hl':=hid hlen
 obtain ⟨T,hT⟩:∃ T,T=sizeN leaf cs:=⟨_,rfl⟩
 have hT':=hid hT
 rw [←hT]at hB ⊢
 clear h hf hT hlen
 have q0:=hid (NB.new 82 w leaf r co cn cc)
 have b0:Hid (Below w.heap.size w (w.alloc (.cells #[.bool leaf,.int .i64 r,.slice co cn cc] 82))):=hid (ext1 _)
 go_enter Tryz.func116,Tryz.ntmps116
 go_wp2
 generalize w.alloc (.cells #[.bool leaf,.int .i64 r,.slice co cn cc] 82)=w0 at *
 go_loopw [3,9] (fun a c W=>∃ (i acc:Nat),i≤cn∧c=.int .i64 i∧a=.int .i64 acc∧acc+sumN leaf (cs.drop i)=T∧NB 82 W w.heap.size leaf r co cn cc∧Below w.heap.size w W) (fun _ c _=>cn - (intOf c).toNat)
 case atStart=>exact ⟨0,7,by omega,rfl,rfl,by rw [hT'.out];rfl,q0.out,b0.out⟩
 case round=>
  obtain ⟨i,acc,hi,rfl,rfl,he,hq,hb⟩:=hrel
  have he':=hid he
  have hq':=hid hq
  have hb':=hid hb
  obtain ⟨u0,u1,u2⟩:=hq.cells
  have hlt:=hq.lt
  clear he hq hb
  by_cases hik:i<cn
  ·obtain ⟨b,off,rfl,hc⟩:=h'.out.at_ (by omega)
   have ha:=hid ((h'.out.keep hb'.out).ok_at hik)
   obtain ⟨x0,x1,x2,x3,x4⟩:=(hc i hik).keep hb'.out
   have hd:=dropC cs i (by have:=hl'.out;omega)
   generalize cs.getD i default=a at *
   rw [hd]at he'
   have ca:=hid (fun W'=>csize_any leaf a W')
   have hE:=he'.out
   simp only [sumN]at hE
   have hE':=hid hE
   have hbound:acc+(oneN leaf a).length≤100000000000:=by omega
   generalize (oneN leaf a).length=L at *
   clear hd he' hE hc
   go_wp2_with (go_at_call 175;refine (ca.out _ (ha.out.keep (ext1 _))).mono ?_;rintro e w1 ⟨rfl,hb1⟩;have H1:=hid hb1;clear hb1)
   refine ⟨⟨i+1,acc+L,by omega,by go_num,by simp,by have:=hE'.out;omega,?_,?_⟩,by simp [intOf];omega⟩
   ·exact (hq'.out.keep (ext1 _)).keep H1.out
   ·exact gt hb'.out (gt (ext1 _) H1.out)
  ·obtain rfl:i=cn:=by omega
   go_wp2
   go_ret
   have:=he'.out
   rw [List.drop_of_length_le (by have:=hl'.out;omega)]at this
   simp only [sumN,Nat.add_zero]at this
   subst this
   exact ⟨rfl,hb'.out⟩
theorem fits_any(leaf:Bool)(r:Int)(co:Option Addr)(cn cc:Nat)(cs:List C)(w:World)(h:Cs w co cn cc cs)(hf:Few cs) :
  Calls Tryz.prog 115 #[.agg #[.bool leaf,.int .i64 r,.slice co cn cc]] w fun e w'=>e=.returned (.bool (decide (sizeN leaf cs≤512)))∧Below w.heap.size w w':=by
 have c:=hid (size_any9 leaf r co cn cc cs _ (h.keep (ext1 (.cells #[.bool leaf,.int .i64 r,.slice co cn cc] 82))) hf)
 generalize sizeN leaf cs=T at *
 clear h hf
 by_cases hT:(T:Int)≤512
 ·rw [show decide (T≤512)=true by simp;omega]
  go_enter Tryz.func115,Tryz.ntmps115
  go_wp2_with (go_at_call 116;refine c.out.mono ?_;rintro e w1 ⟨rfl,hb1⟩;have H1:=hid hb1;clear hb1)
  go_ret
  exact ⟨rfl,gt (ext1 _) H1.out⟩
 ·rw [show decide (T≤512)=false by simp;omega]
  go_enter Tryz.func115,Tryz.ntmps115
  go_wp2_with (go_at_call 116;refine c.out.mono ?_;rintro e w1 ⟨rfl,hb1⟩;have H1:=hid hb1;clear hb1)
  go_ret
  exact ⟨by simp<;>omega,gt (ext1 _) H1.out⟩
end Cel
namespace Cel
open Go.RowKit Go.Maps
section
variable {P:Program} {ops:Array Oper} {Q:Exit→Act→World→Prop} {md:Region.Mode} {S:World→Prop} {E:Nat→Bool}
def waits(md:Region.Mode)(ops:Array Oper)(E:Nat→Bool)(i:Nat):Bool:=(List.range ops.size).all fun j=>!E j||(match ops[j]? with |some o=>o.after.any (fun e=>Region.binds md e&&e.on == i) |none=>true)
variable {i:Nat}
theorem waits_spec(h:waits md ops E i=true){j:Nat}{oj:Oper}(hj:ops[j]? = some oj)(hE:E j=true):∃ e∈oj.after,Region.binds md e=true∧e.on=i:=by
 have hl:j<ops.size:=(Array.getElem?_eq_some_iff.1 hj).1
 have:=List.all_eq_true.1 h j (by simpa using hl)
 simp only [hE,hj,Bool.not_true,Bool.false_or]at this
 obtain ⟨k,hk,hp⟩:=Array.any_eq_true.1 this
 simp only [Bool.and_eq_true,beq_iff_eq]at hp
 exact ⟨_,Array.getElem_mem hk,hp.1,hp.2⟩
def came(E:Nat→Bool)(listed:Array Bool):Bool:=(List.range listed.size).any fun j=>E j&&listed.getD j false
variable {j:Nat} {listed:Array Bool}
theorem came_set(h:came E listed=false)(hj:E j=false):came E (listed.setIfInBounds j true)=false:=by
 simp only [came,List.any_eq_false,List.mem_range,Array.size_setIfInBounds,Bool.and_eq_true,not_and,Bool.not_eq_true]at h ⊢
 intro k hk hE
 by_cases hjk:j=k
 ·subst hjk;rw [hj]at hE;cases hE
 ·rw [getD_set_ne _ hjk];exact h k hk hE
theorem came_mono(h:came E (listed.setIfInBounds j true)=false):came E listed=false:=by
 simp only [came,List.any_eq_false,List.mem_range,Array.size_setIfInBounds,Bool.and_eq_true,not_and,Bool.not_eq_true]at h ⊢
 intro k hk hE
 have:=h k hk hE
 by_cases hjk:j=k
 ·subst hjk;simp [hk]at this
 ·rw [getD_set_ne _ hjk]at this;exact this
def wpAnyK(P:Program)(md:Region.Mode)(ops:Array Oper)(Q:Exit→Act→World→Prop)(S:World→Prop)(E:Nat→Bool):Nat→Array Bool→Act→World→Prop
 | 0,listed,a,w=>Region.ready md ops listed = []∧Q .normal a w
 | fuel+1,listed,a,w=>
  (Region.ready md ops listed = []→Q .normal a w) ∧
  ∀ i∈Region.ready md ops listed,wpOp P ops Q i (fun a' w'=>(came E (listed.setIfInBounds i true)=false→S w')∧wpAnyK P md ops Q S E fuel (listed.setIfInBounds i true) a' w') a w
theorem wpAny_of_K:∀ (fuel:Nat) (listed:Array Bool) (a:Act) (w:World),wpAnyK P md ops Q S E fuel listed a w→wpAny P md ops Q fuel listed a w
 | 0,_,_,_,h=>h
 | fuel+1,_,_,_,h=>⟨h.1,fun i hi=>wpOp_mono (fun a' w' h'=>wpAny_of_K fuel _ a' w' h'.2) (h.2 i hi)⟩
variable {v:Value} {oi:Oper}
theorem wpAnyK_first{T:World→Prop}(hi:ops[i]? = some oi)(hsel:∀ (j:Nat) (o:Oper) cs b,ops[j]? = some o→o.op≠.select cs b)
  (hQ:∀ c a w,Q (.panic c) (a.put oi.dst v) w→Q (.panic c) a w) (hEi:E i=false) (hT:(∀ w,T w)∨(T=S∧waits md ops E i=true)) :
  ∀ (fuel:Nat) (listed:Array Bool) (a:Act) (w:World),
   (∀ j oj,ops[j]? = some oj→j≠i→listed.getD j true=false→(∀ e∈oj.after,Region.binds md e=true→e.on≠i)→oi.apart ops oj=true) →
   i∈Region.ready md ops listed→YieldsIf P ops T oi v a→T w→(came E (listed.setIfInBounds i true)=false→S w)→((∀ w,T w)∨came E listed=false) →
   wpAnyK P md ops Q S E fuel (listed.setIfInBounds i true) (a.put oi.dst v) w→wpAnyK P md ops Q S E (fuel+1) listed a w:=by
 intro fuel
 induction fuel with
 | zero=>
  intro listed a w _ hr hy hTw hS hc H
  refine ⟨fun h=>(by rw [h]at hr;cases hr),fun j hj=>?_⟩
  by_cases hji:j=i
  ·subst hji;exact hy.wpOp hi hTw ⟨hS,H⟩
  ·have:=ready_mono hj hji
   rw [H.1]at this
   cases this
 | succ fuel ih=>
  intro listed a w hfree hr hy hTw hS hc H
  refine ⟨fun h=>(by rw [h]at hr;cases hr),fun j hj=>?_⟩
  by_cases hji:j=i
  ·subst hji;exact hy.wpOp hi hTw ⟨hS,H⟩
  ·have h1:=H.2 j (ready_mono hj hji)
   obtain ⟨hjun,oj,hoj,hall⟩:=mem_ready.1 hj
   have hnot:∀ e∈oj.after,Region.binds md e=true→e.on≠i:=fun e he hb heq=>by
    have h1:=hall e he hb
    have h0:=(mem_ready.1 hr).1
    rw [heq]at h1
    rcases Nat.lt_or_ge i listed.size with h' |h'
    ·simp [h']at h0 h1;rw [h0]at h1;cases h1
    ·simp [Array.getElem?_eq_none h']at h1
   have h2:=wpOp_putIf hoj (hfree j oj hoj hji hjun hnot) (fun cs b=>hsel i oi cs b hi) (fun cs b=>hsel j oj cs b hoj) hQ hy h1
   have hfree':∀ k ok,ops[k]? = some ok→k≠i→(listed.setIfInBounds j true).getD k true=false →
     (∀ e∈ok.after,Region.binds md e=true→e.on≠i)→oi.apart ops ok=true:=fun k ok hk hki hun hno=>by
    refine hfree k ok hk hki ?_ hno
    by_cases hjk:j=k
    ·subst hjk;exact hjun
    ·rw [getD_set_ne true hjk]at hun;exact hun
   have hjE:waits md ops E i=true→E j=false:=fun hw=>by
    cases hcj:E j
    ·rfl
    ·obtain ⟨e,he,hb,heq⟩:=waits_spec hw hoj hcj
     exact absurd heq (hnot e he hb)
   refine wpOp_mono (fun a' w' h3=>?_) h2
   have e:=Array.setIfInBounds_comm (xs:=listed) true true hji
   have hS':came E ((listed.setIfInBounds j true).setIfInBounds i true)=false→S w':=fun hcc=>h3.2.1 (by rw [e]at hcc;exact hcc)
   have hTc:T w'∧((∀ w,T w)∨came E (listed.setIfInBounds j true)=false):=by
    rcases hT with h | ⟨h,hw⟩
    ·exact ⟨h w',Or.inl h⟩
    ·rcases hc with h' |h'
     ·exact ⟨h' w',Or.inl h'⟩
     ·have hcj:=came_set h' (hjE hw)
      refine ⟨?_,Or.inr hcj⟩
      rw [h]
      exact hS' (came_set hcj hEi)
   refine ⟨fun hcc=>hS' ?_,ih (listed.setIfInBounds j true) a' w' hfree' (ready_mono hr (Ne.symm hji)) h3.1 hTc.1 hS' hTc.2 ?_⟩
   ·exact came_set hcc hEi
   ·rw [e];exact h3.2.2
variable {w:World} {a:Act} {fuel:Nat}
theorem wpAnyK_take(hi:ops[i]? = some oi)
  (hs:Region.noSelect ops=true) (hf:Region.free md ops listed i=true) (hr:(Region.ready md ops listed).contains i=true) (hE:(!E i&&waits md ops E i&&!came E listed)=true)
  (hQ:∀ c a w,Q (.panic c) (a.put oi.dst v) w→Q (.panic c) a w) (hy:YieldsIf P ops S oi v a) (hS:S w)
  (h:wpAnyK P md ops Q S E fuel (listed.setIfInBounds i true) (a.put oi.dst v) w):wpAnyK P md ops Q S E (fuel+1) listed a w:=by
 simp only [Bool.and_eq_true,Bool.not_eq_true']at hE
 exact wpAnyK_first hi (Region.noSelect_spec hs) hQ hE.1.1 (Or.inr ⟨rfl,hE.1.2⟩) fuel listed a w (Region.free_spec hi hf) (by simpa using hr) hy hS (fun _=>hS) (Or.inr hE.2) h
theorem wpAnyK_pure(hi:ops[i]? = some oi)
  (hs:Region.noSelect ops=true) (hf:Region.free md ops listed i=true) (hr:(Region.ready md ops listed).contains i=true) (hE:E i=false)
  (hQ:∀ c a w,Q (.panic c) (a.put oi.dst v) w→Q (.panic c) a w) (hy:YieldsIf P ops (fun _=>True) oi v a) (hS:S w∨came E listed=true)
  (h:wpAnyK P md ops Q S E fuel (listed.setIfInBounds i true) (a.put oi.dst v) w):wpAnyK P md ops Q S E (fuel+1) listed a w:=
 wpAnyK_first (T:=fun _=>True) hi (Region.noSelect_spec hs) hQ hE (Or.inl fun _=>trivial) fuel listed a w (Region.free_spec hi hf) (by simpa using hr) hy trivial (fun hc=>by
  rcases hS with h |h
  ·exact h
  ·rw [came_mono hc]at h;cases h) (Or.inl fun _=>trivial) h
def AllReadyK(P:Program)(md:Region.Mode)(ops:Array Oper)(Q:Exit→Act→World→Prop)(S:World→Prop)(E:Nat→Bool)(fuel:Nat)(listed:Array Bool)(a:Act)(w:World)(rs:List Nat):Prop:=
 ∀ i∈rs,wpOp P ops Q i (fun a' w'=>(came E (listed.setIfInBounds i true)=false→S w')∧wpAnyK P md ops Q S E fuel (listed.setIfInBounds i true) a' w') a w
theorem AllReadyK.nil:AllReadyK P md ops Q S E fuel listed a w []:=fun _ h=>by cases h
variable {rs:List Nat} {o:Oper}
theorem AllReadyK.cons(ho:ops[i]? = some o)
  (h:∀ K':Act→World→Prop,Shut (∀ a w,S w→(S w→wpAnyK P md ops Q S E fuel (listed.setIfInBounds i true) a w)→K' a w)→if Region.wanted o (yielded ops a.tmps)=true then Oper.wp P o a w K' Q else K' (a.put o.dst undef) w)
  (hs:AllReadyK P md ops Q S E fuel listed a w rs):AllReadyK P md ops Q S E fuel listed a w (i::rs):=fun j hj=>by
 rcases List.mem_cons.1 hj with rfl |hj
 ·exact wpOp_step ho (fun K' hK=>h K' (fun a w hS hW=>hK a w ⟨fun _=>hS,hW hS⟩))
 ·exact hs j hj
theorem AllReadyK.late(ho:ops[i]? = some o)(hE:came E (listed.setIfInBounds i true)=true)
  (h:∀ K':Act→World→Prop,Shut (∀ a w,wpAnyK P md ops Q S E fuel (listed.setIfInBounds i true) a w→K' a w)→if Region.wanted o (yielded ops a.tmps)=true then Oper.wp P o a w K' Q else K' (a.put o.dst undef) w)
  (hs:AllReadyK P md ops Q S E fuel listed a w rs):AllReadyK P md ops Q S E fuel listed a w (i::rs):=fun j hj=>by
 rcases List.mem_cons.1 hj with rfl |hj
 ·exact wpOp_step ho (fun K' hK=>h K' (fun a w hW=>hK a w ⟨fun hc=>(by rw [hE]at hc;cases hc),hW⟩))
 ·exact hs j hj
theorem wpAnyK_ready(hr:Region.ready md ops listed=rs)(hne:rs≠[])
  (h:AllReadyK P md ops Q S E fuel listed a w rs):wpAnyK P md ops Q S E (fuel+1) listed a w:=⟨fun h0=>absurd (hr▸h0) hne,hr▸h⟩
theorem wpAnyK_done(hr:Region.ready md ops listed = [])(h:Q .normal a w) :
  ∀ fuel,wpAnyK P md ops Q S E fuel listed a w
 | 0=>⟨hr,h⟩
 | _+1=>⟨fun _=>h,by rw [hr];simp⟩
theorem wp_region_K{id:Nat}(E:Nat→Bool)(hm:P.follows .mixedOrders=true)(hS:S w.drew)
  (h:S w.drew→wpAnyK P .any ops Q S E ops.size (Array.replicate ops.size false) a w.drew):(Code.region id ops true).wp P Q a w:=
 wp_region_any hm (wpAny_of_K _ _ _ _ (h hS))
theorem wpAnyK_more{S':World→Prop}(hSS:∀ w,S' w→S w):∀ {fuel:Nat} {listed:Array Bool} {a:Act} {w:World},wpAnyK P md ops Q S' E fuel listed a w→wpAnyK P md ops Q S E fuel listed a w
 | 0,_,_,_,h=>h
 | _+1,_,_,_,h=>⟨h.1,fun i hi=>wpOp_mono (fun _ _ h'=>⟨fun hc=>hSS _ (h'.1 hc),wpAnyK_more hSS h'.2⟩) (h.2 i hi)⟩
end
abbrev Gr(w W:World):Prop:=Below w.heap.size w W
end Cel
namespace Cel
open Go.RowKit
theorem sA{α:Type _}(l:List α)(i:Nat)(a:α):l.toArray.setIfInBounds i a=(l.set i a).toArray:=List.setIfInBounds_toArray ..
theorem sZ{α:Type _}{x:α}{xs:List α}{a:α}:(x::xs).set 0 a=a::xs:=List.set_cons_zero
theorem sS{α:Type _}{x:α}{xs:List α}{n:Nat}{a:α}:(x::xs).set (n+1) a=x::xs.set n a:=List.set_cons_succ
theorem at_op(l:List Oper)(i:Nat)(o:Oper)(h:l[i]? = some o):l.toArray[i]? = some o:=by simpa using h
section
variable {P:Program} {l:List Oper} {Q:Exit→Act→World→Prop} {md:Region.Mode} {S:World→Prop} {oi:Oper} {v:Value} {fuel:Nat} {listed:Array Bool} {a a':Act} {w:World}
theorem ght(i:Nat)(k:wpAnyH P md l.toArray Q S fuel (listed.setIfInBounds i true) a' w)
  (hi:l[i]? = some oi:=by exact rfl) (hs:Region.noSelect l.toArray=true:=by kernel_rfl) (hf:Region.free md l.toArray listed i=true:=by kernel_rfl) (hr:(Region.ready md l.toArray listed).contains i=true:=by kernel_rfl)
  (hQ:∀ c a w,Q (.panic c) (a.put oi.dst v) w→Q (.panic c) a w:=by exact fun _ _ _ h=>h) (hw:Region.wanted oi (yielded l.toArray a.tmps)=true:=by rfl)
  (h:∀ w,S w→(execOp a.eval oi).run P w=.ok (.value v) w:=by intro W hSw;go_simp;first |done |with_reducible rfl) (hS:S w:=by assumption)
  (hA:a.put oi.dst v=a':=by (try simp only [Act.put,sA,sZ,sS]);rfl):wpAnyH P md l.toArray Q S (fuel+1) listed a w:=
 wpAnyH_take (at_op _ _ _ hi) hs hf hr hQ (Or.inl ⟨hw,h⟩) hS (hA▸k)
theorem gh1(i:Nat)(h:∀ K':Act→World→Prop,Shut (∀ a w,S w→(S w→wpAnyH P md l.toArray Q S fuel (listed.setIfInBounds i true) a w)→K' a w)→if Region.wanted oi (yielded l.toArray a.tmps)=true then Oper.wp P oi a w K' Q else K' (a.put oi.dst undef) w)
  (hi:l[i]? = some oi:=by exact rfl) (hr:Region.ready md l.toArray listed = [i]:=by kernel_rfl):wpAnyH P md l.toArray Q S (fuel+1) listed a w:=
 wpAnyH_ready (rs:=[i]) hr (by simp) (AllReadyH.cons (at_op _ _ _ hi) h AllReadyH.nil)
end
end Cel
namespace Cel
open Go.RowKit
section
variable {P:Program} {l:List Oper} {Q:Exit→Act→World→Prop} {md:Region.Mode} {S:World→Prop} {E:Nat→Bool} {oi:Oper} {v:Value} {fuel:Nat} {listed:Array Bool} {a a':Act} {w:World}
theorem gkt(i:Nat)(k:wpAnyK P md l.toArray Q S E fuel (listed.setIfInBounds i true) a' w)
  (hi:l[i]? = some oi:=by exact rfl) (hs:Region.noSelect l.toArray=true:=by kernel_rfl) (hf:Region.free md l.toArray listed i=true:=by kernel_rfl) (hr:(Region.ready md l.toArray listed).contains i=true:=by kernel_rfl)
  (hE:(!E i&&waits md l.toArray E i&&!came E listed)=true:=by kernel_rfl)
  (hQ:∀ c a w,Q (.panic c) (a.put oi.dst v) w→Q (.panic c) a w:=by exact fun _ _ _ h=>h) (hw:Region.wanted oi (yielded l.toArray a.tmps)=true:=by rfl)
  (h:∀ w,S w→(execOp a.eval oi).run P w=.ok (.value v) w:=by intro W hSw;go_simp;first |done |with_reducible rfl) (hS:S w:=by assumption)
  (hA:a.put oi.dst v=a':=by (try simp only [Act.put,sA,sZ,sS]);rfl):wpAnyK P md l.toArray Q S E (fuel+1) listed a w:=
 wpAnyK_take (at_op _ _ _ hi) hs hf hr hE hQ (Or.inl ⟨hw,h⟩) hS (hA▸k)
theorem gkp(i:Nat)(k:wpAnyK P md l.toArray Q S E fuel (listed.setIfInBounds i true) a' w)
  (hi:l[i]? = some oi:=by exact rfl) (hs:Region.noSelect l.toArray=true:=by kernel_rfl) (hf:Region.free md l.toArray listed i=true:=by kernel_rfl) (hr:(Region.ready md l.toArray listed).contains i=true:=by kernel_rfl)
  (hE:E i=false:=by kernel_rfl)
  (hQ:∀ c a w,Q (.panic c) (a.put oi.dst v) w→Q (.panic c) a w:=by exact fun _ _ _ h=>h) (hw:Region.wanted oi (yielded l.toArray a.tmps)=true:=by rfl)
  (h:∀ w,True→(execOp a.eval oi).run P w=.ok (.value v) w:=by intro W hSw;go_simp;first |done |with_reducible rfl) (hS:S w∨came E listed=true:=by first |exact Or.inl (by assumption) |exact Or.inr (by kernel_rfl))
  (hA:a.put oi.dst v=a':=by (try simp only [Act.put,sA,sZ,sS]);rfl):wpAnyK P md l.toArray Q S E (fuel+1) listed a w:=
 wpAnyK_pure (at_op _ _ _ hi) hs hf hr hE hQ (Or.inl ⟨hw,h⟩) hS (hA▸k)
theorem gku(i:Nat)(k:wpAnyK P md l.toArray Q S E fuel (listed.setIfInBounds i true) a' w)
  (hi:l[i]? = some oi:=by exact rfl) (hs:Region.noSelect l.toArray=true:=by kernel_rfl) (hf:Region.free md l.toArray listed i=true:=by kernel_rfl) (hr:(Region.ready md l.toArray listed).contains i=true:=by kernel_rfl)
  (hE:E i=false:=by kernel_rfl)
  (hQ:∀ c a w,Q (.panic c) (a.put oi.dst undef) w→Q (.panic c) a w:=by exact fun _ _ _ h=>h) (hw:Region.wanted oi (yielded l.toArray a.tmps)=false:=by kernel_rfl)
  (hS:S w∨came E listed=true:=by first |exact Or.inl (by assumption) |exact Or.inr (by kernel_rfl))
  (hA:a.put oi.dst undef=a':=by (try simp only [Act.put,sA,sZ,sS]);rfl):wpAnyK P md l.toArray Q S E (fuel+1) listed a w:=
 wpAnyK_pure (at_op _ _ _ hi) hs hf hr hE hQ (Or.inr ⟨hw,rfl⟩) hS (hA▸k)
theorem gk1(i:Nat)(h:∀ K':Act→World→Prop,Shut (∀ a w,S w→(S w→wpAnyK P md l.toArray Q S E fuel (listed.setIfInBounds i true) a w)→K' a w)→if Region.wanted oi (yielded l.toArray a.tmps)=true then Oper.wp P oi a w K' Q else K' (a.put oi.dst undef) w)
  (hi:l[i]? = some oi:=by exact rfl) (hr:Region.ready md l.toArray listed = [i]:=by kernel_rfl):wpAnyK P md l.toArray Q S E (fuel+1) listed a w:=
 wpAnyK_ready (rs:=[i]) hr (by simp) (AllReadyK.cons (at_op _ _ _ hi) h AllReadyK.nil)
theorem gkl(i:Nat)(h:∀ K':Act→World→Prop,Shut (∀ a w,wpAnyK P md l.toArray Q S E fuel (listed.setIfInBounds i true) a w→K' a w)→if Region.wanted oi (yielded l.toArray a.tmps)=true then Oper.wp P oi a w K' Q else K' (a.put oi.dst undef) w)
  (hi:l[i]? = some oi:=by exact rfl) (hr:Region.ready md l.toArray listed = [i]:=by kernel_rfl) (hE:came E (listed.setIfInBounds i true)=true:=by kernel_rfl):wpAnyK P md l.toArray Q S E (fuel+1) listed a w:=
 wpAnyK_ready (rs:=[i]) hr (by simp) (AllReadyK.late (at_op _ _ _ hi) hE h AllReadyK.nil)
end
end Cel
namespace Cel
open Go.RowKit
def pagedB(p:Int):Bool:=decide (1≤p)&&decide (p≤4000)
def payB(l:Int):Bool:=decide (0≤l)&&decide (l≤20000)
def leafB(a:C):Bool:=a.c == 0&&(payB a.l&&((a.b.length:Int) == (locN a.l:Int)&&(if spillB a then pagedB a.x else a.x == 0)))
def aboveB(a:C):Bool:=pagedB a.c&&(a.l == 0&&((a.b.length:Int) == 0&&a.x == 0))
def cellB(leaf:Bool)(a:C):Bool:=if leaf then leafB a else aboveB a
theorem above_any(a:C)(w:World)(hn:a.b.length=a.n):Calls Tryz.prog 254 #[.agg #[.int .i64 (a).k,.int .i64 (a).c,.int .i64 (a).l,.slice (a).o (a).n (a).m,.int .i64 (a).x]] w fun e w'=>e=.returned (.bool (aboveB a))∧Below w.heap.size w w':=by
 have cp:=hid (paged_any a.c)
 change Hid (∀ w,Calls Tryz.prog 253 #[.int .i64 a.c] w fun e w'=>e=.returned (.bool (pagedB a.c))∧w'=w) at cp
 unfold aboveB
 rw [hn]
 clear hn
 generalize pagedB a.c=P at *
 cases P<;>cases h1:(a.l == 0)<;>cases h2:((a.n:Int) == 0)<;>cases h3:(a.x == 0)
 all_goals
  go_enter Tryz.func254,Tryz.ntmps254
  go_wp2_with (go_at_call 253;refine (cp.out _).mono ?_;rintro e w1 ⟨rfl,hw⟩;obtain rfl:=hw.symm)
  go_ret
  exact ⟨rfl,ext1 _⟩
theorem inleaf_any(a:C)(w:World)(hn:a.b.length=a.n):Calls Tryz.prog 252 #[.agg #[.int .i64 (a).k,.int .i64 (a).c,.int .i64 (a).l,.slice (a).o (a).n (a).m,.int .i64 (a).x]] w fun e w'=>e=.returned (.bool (leafB a))∧Below w.heap.size w w':=by
 have cp:=hid (paged_any a.x)
 change Hid (∀ w,Calls Tryz.prog 253 #[.int .i64 a.x] w fun e w'=>e=.returned (.bool (pagedB a.x))∧w'=w) at cp
 have cy:=hid (payable_any a.l)
 change Hid (∀ w,Calls Tryz.prog 168 #[.int .i64 a.l] w fun e w'=>e=.returned (.bool (payB a.l))∧w'=w) at cy
 have cl:=hid (local_any a.l)
 have cs:=hid (fun w=>spills_any a w hn)
 unfold leafB
 rw [hn]
 clear hn
 have g1:S5 w.heap.size a (w.alloc (.cells #[.int .i64 a.k,.int .i64 a.c,.int .i64 a.l,.slice a.o a.n a.m,.int .i64 a.x] 116)).drew:=(S5.new 116 w a).keep (Below.refl _ _).drew
 have B0:Hid (Below w.heap.size w (w.alloc (.cells #[.int .i64 a.k,.int .i64 a.c,.int .i64 a.l,.slice a.o a.n a.m,.int .i64 a.x] 116)).drew):=hid (ext1 _).drew
 generalize pagedB a.x=P at *
 generalize payB a.l=Y at *
 generalize ((locN a.l:Nat):Int)=L at *
 obtain ⟨V,hV⟩:∃ V,V=(a.c == 0&&(Y&&((a.n:Int) == L&&(if spillB a then P else a.x == 0)))):=⟨_,rfl⟩
 rw [←hV]
 cases h1:(a.c == 0)
 ·have h1x:Hid (¬a.c=0):=hid (by simpa using h1)
  obtain rfl:V=false:=by rw [hV,h1];rfl
  clear h1 hV
  go_enter Tryz.func252,Tryz.ntmps252
  go_upto_region 1 with fail
  refine wp_region_K (S:=S5 w.heap.size a) (fun _=>false) (by kernel_rfl) (g1) (fun hHeld=>?_)
  refine gkp 0 ?_
  refine gkt 1 ?_ (h:=by intro W hSw;obtain ⟨y0,y1,y2,y3,y4⟩:=hSw;go_simp;first |done |with_reducible rfl)
  refine gkp 2 ?_ (v:=.bool true) (h:=by intro W hSw;go_simp<;>simp [h1x.out])
  refine gkp 3 ?_
  refine gku 4 ?_
  refine gku 5 ?_
  refine gku 6 ?_
  refine gku 7 ?_
  refine gkp 8 ?_
  refine gkp 9 ?_
  refine gku 10 ?_
  refine gku 11 ?_
  refine gku 12 ?_
  refine gku 13 ?_
  refine gku 14 ?_
  refine gku 15 ?_
  refine gku 16 ?_
  refine gkp 17 ?_
  refine wpAnyK_done (by kernel_rfl) ?_ _
  go_wp2
  go_ret
  exact ⟨rfl,B0.out⟩
 ·have h1x:Hid (a.c=0):=hid (by simpa using h1)
  rw [h1]at hV
  clear h1
  cases Y
  ·obtain rfl:V=false:=hV
   go_enter Tryz.func252,Tryz.ntmps252
   go_upto_region 1 with fail
   refine wp_region_K (S:=S5 w.heap.size a) (fun _=>false) (by kernel_rfl) (g1) (fun hHeld=>?_)
   refine gkp 0 ?_
   refine gkt 1 ?_ (h:=by intro W hSw;obtain ⟨y0,y1,y2,y3,y4⟩:=hSw;go_simp;first |done |with_reducible rfl)
   refine gkp 2 ?_ (v:=.bool false) (h:=by intro W hSw;go_simp<;>simp [h1x.out])
   refine gkp 3 ?_
   refine gkp 4 ?_
   refine gkt 5 ?_ (h:=by intro W hSw;obtain ⟨y0,y1,y2,y3,y4⟩:=hSw;go_simp;first |done |with_reducible rfl)
   refine gk1 6 (fun K hK=>?_)
   go_simp
   go_at_call 168;refine (cy.out _).mono ?_;rintro e w1 ⟨rfl,hw⟩;obtain rfl:=hw.symm;have hR:=hHeld
   refine hK.out _ _ hR (fun hHeld=>?_)
   clear hK K
   (try simp only [Act.put,sA,sZ,sS])
   refine gkp 7 ?_
   refine gkp 8 ?_
   refine gkp 9 ?_
   refine gku 10 ?_
   refine gku 11 ?_
   refine gku 12 ?_
   refine gku 13 ?_
   refine gku 14 ?_
   refine gku 15 ?_
   refine gku 16 ?_
   refine gkp 17 ?_
   refine wpAnyK_done (by kernel_rfl) ?_ _
   go_wp2
   go_ret
   exact ⟨rfl,B0.out⟩
  ·cases h2:((a.n:Int) == L)
   ·have h2x:Hid (¬(a.n:Int)=L):=hid (by simpa using h2)
    obtain rfl:V=false:=by rw [hV,h2];rfl
    clear h2 hV
    go_enter Tryz.func252,Tryz.ntmps252
    go_upto_region 1 with fail
    refine wp_region_K (S:=S5 w.heap.size a) (fun _=>false) (by kernel_rfl) (g1) (fun hHeld=>?_)
    refine gkp 0 ?_
    refine gkt 1 ?_ (h:=by intro W hSw;obtain ⟨y0,y1,y2,y3,y4⟩:=hSw;go_simp;first |done |with_reducible rfl)
    refine gkp 2 ?_ (v:=.bool false) (h:=by intro W hSw;go_simp<;>simp [h1x.out])
    refine gkp 3 ?_
    refine gkp 4 ?_
    refine gkt 5 ?_ (h:=by intro W hSw;obtain ⟨y0,y1,y2,y3,y4⟩:=hSw;go_simp;first |done |with_reducible rfl)
    refine gk1 6 (fun K hK=>?_)
    go_simp
    go_at_call 168;refine (cy.out _).mono ?_;rintro e w1 ⟨rfl,hw⟩;obtain rfl:=hw.symm;have hR:=hHeld
    refine hK.out _ _ hR (fun hHeld=>?_)
    clear hK K
    (try simp only [Act.put,sA,sZ,sS])
    refine gkp 7 ?_
    refine gkp 8 ?_
    refine gkp 9 ?_
    refine gkp 10 ?_
    refine gkt 11 ?_ (h:=by intro W hSw;obtain ⟨y0,y1,y2,y3,y4⟩:=hSw;go_simp;first |done |with_reducible rfl)
    refine gkp 12 ?_
    refine gkp 13 ?_
    refine gkt 14 ?_ (h:=by intro W hSw;obtain ⟨y0,y1,y2,y3,y4⟩:=hSw;go_simp;first |done |with_reducible rfl)
    refine gk1 15 (fun K hK=>?_)
    go_simp
    go_at_call 110;refine (cl.out _).mono ?_;rintro e w1 ⟨rfl,hw⟩;obtain rfl:=hw.symm;have hR:=hHeld
    refine hK.out _ _ hR (fun hHeld=>?_)
    clear hK K
    (try simp only [Act.put,sA,sZ,sS])
    refine gkp 16 ?_ (v:=.bool true) (h:=by intro W hSw;go_simp<;>simp [h2x.out])
    refine gkp 17 ?_
    refine wpAnyK_done (by kernel_rfl) ?_ _
    go_wp2
    go_ret
    exact ⟨rfl,B0.out⟩
   ·have h2x:Hid ((a.n:Int)=L):=hid (by simpa using h2)
    rw [h2]at hV
    clear h2
    generalize spillB a=Sp at *
    replace hV:=hid hV
    go_enter Tryz.func252,Tryz.ntmps252
    go_upto_region 1 with fail
    refine wp_region_K (S:=S5 w.heap.size a) (fun _=>false) (by kernel_rfl) (g1) (fun hHeld=>?_)
    refine gkp 0 ?_
    refine gkt 1 ?_ (h:=by intro W hSw;obtain ⟨y0,y1,y2,y3,y4⟩:=hSw;go_simp;first |done |with_reducible rfl)
    refine gkp 2 ?_ (v:=.bool false) (h:=by intro W hSw;go_simp<;>simp [h1x.out])
    refine gkp 3 ?_
    refine gkp 4 ?_
    refine gkt 5 ?_ (h:=by intro W hSw;obtain ⟨y0,y1,y2,y3,y4⟩:=hSw;go_simp;first |done |with_reducible rfl)
    refine gk1 6 (fun K hK=>?_)
    go_simp
    go_at_call 168;refine (cy.out _).mono ?_;rintro e w1 ⟨rfl,hw⟩;obtain rfl:=hw.symm;have hR:=hHeld
    refine hK.out _ _ hR (fun hHeld=>?_)
    clear hK K
    (try simp only [Act.put,sA,sZ,sS])
    refine gkp 7 ?_
    refine gkp 8 ?_
    refine gkp 9 ?_
    refine gkp 10 ?_
    refine gkt 11 ?_ (h:=by intro W hSw;obtain ⟨y0,y1,y2,y3,y4⟩:=hSw;go_simp;first |done |with_reducible rfl)
    refine gkp 12 ?_
    refine gkp 13 ?_
    refine gkt 14 ?_ (h:=by intro W hSw;obtain ⟨y0,y1,y2,y3,y4⟩:=hSw;go_simp;first |done |with_reducible rfl)
    refine gk1 15 (fun K hK=>?_)
    go_simp
    go_at_call 110;refine (cl.out _).mono ?_;rintro e w1 ⟨rfl,hw⟩;obtain rfl:=hw.symm;have hR:=hHeld
    refine hK.out _ _ hR (fun hHeld=>?_)
    clear hK K
    (try simp only [Act.put,sA,sZ,sS])
    refine gkp 16 ?_ (v:=.bool false) (h:=by intro W hSw;go_simp<;>simp [h2x.out])
    refine gkp 17 ?_
    refine wpAnyK_done (by kernel_rfl) ?_ _
    cases Sp<;>cases h3:(a.x == 0)
    all_goals
     rw [h3]at hV
     go_wp2_with (first |(go_at_call 236;refine (cs.out _).mono ?_;rintro e w1 ⟨rfl,hb⟩;have H1:=hid hb;have x4:=keep_old hb g1.2.2.2.2;clear hb) |(go_at_call 253;refine (cp.out _).mono ?_;rintro e w1 ⟨rfl,hw⟩;obtain rfl:=hw.symm))
     go_ret
     exact ⟨by rw [hV.out];rfl,gt B0.out H1.out⟩
end Cel
namespace Cel
open Go.RowKit
def riseB:List C→Bool
 | []=>true
 | [_]=>true
 | a::b::r=>decide (a.k<b.k)&&riseB (b::r)
theorem rise_cons(a b:C)(r:List C):riseB (a::b::r)=(decide (a.k<b.k)&&riseB (b::r)):=rfl
theorem dropC2(cs:List C)(i:Nat)(h:i+1<cs.length):cs.drop i=cs.getD i default::cs.getD (i+1) default::cs.drop (i+2):=by
 rw [dropC cs i (by omega),dropC cs (i+1) h]
theorem rise_end(cs:List C)(i:Nat)(h:cs.length≤i+1):riseB (cs.drop i)=true:=by
 rcases Nat.lt_or_ge i cs.length with h1 |h1
 ·rw [dropC cs i h1,List.drop_of_length_le (by omega)];rfl
 ·rw [List.drop_of_length_le h1];rfl
abbrev S2(q:Nat)(b o:Nat)(n m:Nat)(o1 o2:Nat)(k1 k2:Int)(W:World):Prop:=
 W.cell? ⟨q,2,none⟩=some (.slice (some ⟨b,o,none⟩) n m)∧W.cell? ⟨b,o1,none⟩=some (.int .i64 k1)∧W.cell? ⟨b,o2,none⟩=some (.int .i64 k2)
theorem rises_any(leaf:Bool)(r:Int)(co:Option Addr)(cn cc:Nat)(cs:List C)(w:World)(h:Cs w co cn cc cs)(hcn:cn≤100000) :
  Calls Tryz.prog 250 #[.agg #[.bool leaf,.int .i64 r,.slice co cn cc]] w fun e w'=>e=.returned (.bool (riseB cs))∧Below w.heap.size w w':=by
 have h':=hid h
 have hl':=hid h.len
 obtain ⟨V,hV⟩:∃ V,V=riseB cs:=⟨_,rfl⟩
 have hV':=hid hV
 rw [←hV]
 clear h hV
 have q0:=hid (NB.new 82 w leaf r co cn cc)
 have b0:Hid (Below w.heap.size w (w.alloc (.cells #[.bool leaf,.int .i64 r,.slice co cn cc] 82))):=hid (ext1 _)
 go_enter Tryz.func250,Tryz.ntmps250
 go_wp2
 generalize w.alloc (.cells #[.bool leaf,.int .i64 r,.slice co cn cc] 82)=w0 at *
 go_loopw [3] (fun c W=>∃ (i:Nat),i≤cn∧c=.int .i64 ((i+1:Nat):Int)∧riseB (cs.drop i)=V∧NB 82 W w.heap.size leaf r co cn cc∧Below w.heap.size w W) (fun c _=>cn+1 - (intOf c).toNat)
 case atStart=>exact ⟨0,by omega,rfl,hV'.out.symm,q0.out,b0.out⟩
 case round=>
  obtain ⟨i,hi,rfl,he,hq,hb⟩:=hrel
  have he':=hid he
  have hq':=hid hq
  have hb':=hid hb
  obtain ⟨u0,u1,u2⟩:=hq.cells
  have hlt:=hq.lt
  clear he hq hb
  by_cases hik:i+1<cn
  ·obtain ⟨b,off,rfl,hc⟩:=h'.out.at_ (by omega)
   have x0:=((hc i (by omega)).keep hb'.out).1
   have x1:=((hc (i+1) hik).keep hb'.out).1
   have hd:=dropC2 cs i (by have:=hl'.out;omega)
   have hd1:=dropC cs (i+1) (by have:=hl'.out;omega)
   have e1:((i+1:Nat):Int) - 1=(i:Int):=by omega
   generalize cs.getD i default=a1 at *
   generalize cs.getD (i+1) default=a2 at *
   have hE:=he'.out
   rw [hd,rise_cons,←hd1]at hE
   clear hd hd1 he' hc
   have g1:S2 w.heap.size b off cn cc (off+(i+1)*5) (off+i*5) a2.k a1.k wr.drew:=⟨u2,x1,x0⟩
   obtain ⟨I,hI⟩:∃ I,I=i+1:=⟨_,rfl⟩
   rw [←hI]at g1 e1 ⊢
   have e2:Hid (I=i+1):=hid hI
   have e3:IntKind.i64.wrap ((I:Int) - 1)=(i:Int):=by rw [IntKind.wrap_i64];omega
   have hI2:I<cn:=by omega
   have hI3:i<cn:=by omega
   clear u0 u1 x0 x1 hI
   by_cases hk:a1.k<a2.k
   ·rw [show decide (a1.k<a2.k)=true by simpa using hk,Bool.true_and]at hE
    have hE':=hid hE
    have hk':Hid (a1.k<a2.k):=hid (by omega)
    clear hE hk
    go_upto_region 4 with fail
    refine wp_region_K (S:=S2 w.heap.size b off cn cc (off+I*5) (off+i*5) a2.k a1.k) (fun _=>false) (by kernel_rfl) (g1) (fun hHeld=>?_)
    refine gkp 0 ?_
    refine gkt 1 ?_ (h:=by intro W hSw;obtain ⟨y0,y1,y2⟩:=hSw;go_simp;first |done |with_reducible rfl)
    refine gkp 2 ?_
    refine gkp 3 ?_
    refine gkp 4 ?_
    refine gkt 5 ?_ (h:=by intro W hSw;obtain ⟨y0,y1,y2⟩:=hSw;go_simp;first |done |with_reducible rfl)
    refine gkp 6 ?_
    refine gkt 7 ?_ (h:=by intro W hSw;obtain ⟨y0,y1,y2⟩:=hSw;go_simp;first |done |with_reducible rfl)
    refine gkp 8 ?_
    refine gkp 9 ?_ (v:=.int .i64 (i:Int)) (h:=by intro W hSw;go_simp<;>(rw [IntKind.wrap_i64];omega))
    refine gkp 10 ?_
    refine gkp 11 ?_
    refine gkt 12 ?_ (h:=by intro W hSw;obtain ⟨y0,y1,y2⟩:=hSw;go_simp;first |done |with_reducible rfl)
    refine gkp 13 ?_ (v:=.bool false) (h:=by intro W hSw;go_simp<;>simp [hk'.out])
    refine wpAnyK_done (by kernel_rfl) ?_ _
    go_wp2
    refine ⟨⟨i+1,by omega,by have:=e2.out;subst this;go_num,hE'.out,?_,?_⟩,by have:=e2.out;simp [intOf];omega⟩
    ·exact hq'.out.keep (Below.refl _ _).drew
    ·exact hb'.out.drew
   ·rw [show decide (a1.k<a2.k)=false by simpa using hk,Bool.false_and]at hE
    subst hE
    have hk':Hid (a2.k≤a1.k):=hid (by omega)
    clear hk
    go_upto_region 4 with fail
    refine wp_region_K (S:=S2 w.heap.size b off cn cc (off+I*5) (off+i*5) a2.k a1.k) (fun _=>false) (by kernel_rfl) (g1) (fun hHeld=>?_)
    refine gkp 0 ?_
    refine gkt 1 ?_ (h:=by intro W hSw;obtain ⟨y0,y1,y2⟩:=hSw;go_simp;first |done |with_reducible rfl)
    refine gkp 2 ?_
    refine gkp 3 ?_
    refine gkp 4 ?_
    refine gkt 5 ?_ (h:=by intro W hSw;obtain ⟨y0,y1,y2⟩:=hSw;go_simp;first |done |with_reducible rfl)
    refine gkp 6 ?_
    refine gkt 7 ?_ (h:=by intro W hSw;obtain ⟨y0,y1,y2⟩:=hSw;go_simp;first |done |with_reducible rfl)
    refine gkp 8 ?_
    refine gkp 9 ?_ (v:=.int .i64 (i:Int)) (h:=by intro W hSw;go_simp<;>(rw [IntKind.wrap_i64];omega))
    refine gkp 10 ?_
    refine gkp 11 ?_
    refine gkt 12 ?_ (h:=by intro W hSw;obtain ⟨y0,y1,y2⟩:=hSw;go_simp;first |done |with_reducible rfl)
    refine gkp 13 ?_ (v:=.bool true) (h:=by intro W hSw;go_simp<;>simp [hk'.out])
    refine wpAnyK_done (by kernel_rfl) ?_ _
    go_wp2
    go_ret
    exact ⟨rfl,hb'.out.drew⟩
  ·have hE:=he'.out
   rw [rise_end cs i (by have:=hl'.out;omega)]at hE
   subst hE
   clear he'
   go_wp2
   go_ret
   exact ⟨rfl,hb'.out⟩
end Cel
namespace Cel
open Go.RowKit
def firstN(p:C→Bool):List C→Nat
 | []=>0
 | a::r=>if p a then 0 else firstN p r+1
def ixN(p:C→Bool)(cs:List C):Int:=if firstN p cs<cs.length then (firstN p cs:Int) else -1
theorem firstN_le(p:C→Bool)(cs:List C):firstN p cs≤cs.length:=by
 induction cs with
 | nil=>simp [firstN]
 | cons a r ih=>simp only [firstN,List.length_cons];split<;>omega
theorem first_any(p:C→Bool)(cs:List C):decide (firstN p cs<cs.length)=cs.any p:=by
 induction cs with
 | nil=>rfl
 | cons a r ih=>
  simp only [firstN,List.length_cons,List.any_cons]
  by_cases h:p a=true
  ·simp [h]
  ·simp only [Bool.not_eq_true]at h
   simp only [h,Bool.false_or,←ih]
   simp
theorem index_48(p:C→Bool)(q:Nat)(co:Option Addr)(cn cc:Nat)(cs:List C)(w:World)(h:Cs w co cn cc cs)(hcn:cn≤100000)
  (hp:∀ W a,Below w.heap.size w W→Cok W a→Calls Tryz.prog 181 #[.agg #[.int .i64 (a).k,.int .i64 (a).c,.int .i64 (a).l,.slice (a).o (a).n (a).m,.int .i64 (a).x],.pointer (some ⟨q,0,none⟩)] W fun e w'=>e=.returned (.bool (p a))∧Below W.heap.size W w') :
  Calls Tryz.prog 180 #[.slice co cn cc,.func (.func 181) #[] #[.pointer (some ⟨q,0,none⟩)]] w fun e w'=>e=.returned (.int .i64 (ixN p cs))∧Below w.heap.size w w':=by
 have h':=hid h
 have hl':=hid h.len
 have hp':=hid hp
 obtain ⟨V,hV⟩:∃ V,V=ixN p cs:=⟨_,rfl⟩
 have hV':=hid hV
 rw [←hV]
 clear h hV hp
 go_enter Tryz.func180,Tryz.ntmps180
 go_wp2
 go_loopw [8] (fun c W=>∃ (i:Nat),i≤cn∧c=.int .i64 (i:Int)∧i+firstN p (cs.drop i)=firstN p cs∧Below w.heap.size w W) (fun c _=>cn - (intOf c).toNat)
 case atStart=>exact ⟨0,by omega,rfl,by simp,Below.refl _ _⟩
 case round=>
  obtain ⟨i,hi,rfl,he,hb⟩:=hrel
  have he':=hid he
  have hb':=hid hb
  clear he hb
  by_cases hik:i<cn
  ·obtain ⟨b,off,rfl,hc⟩:=h'.out.at_ (by omega)
   have ha:=hid ((h'.out.keep hb'.out).ok_at hik)
   obtain ⟨x0,x1,x2,x3,x4⟩:=(hc i hik).keep hb'.out
   have hd:=dropC cs i (by have:=hl'.out;omega)
   generalize cs.getD i default=a at *
   rw [hd]at he'
   have ca:=hid (hp'.out wr a hb'.out ha.out)
   have hE:=he'.out
   simp only [firstN]at hE
   clear hd he' hc
   cases hpa:p a with
   | true=>
    rw [hpa]at ca hE
    simp only [if_true,Nat.add_zero]at hE
    have hVi:V=(i:Int):=by
     have h1:=hV'.out
     have h2:=hl'.out
     unfold ixN at h1
     rw [if_pos (by omega)]at h1
     omega
    clear hpa hE hV'
    subst hVi
    go_wp2_with (go_at_call 181;refine ca.out.mono ?_;rintro e w1 ⟨rfl,hb1⟩;have H1:=hid hb1;clear hb1)
    go_ret
    exact ⟨rfl,gt hb'.out H1.out⟩
   | false=>
    rw [hpa]at ca hE
    simp only [Bool.false_eq_true,if_false]at hE
    have hE':=hid hE
    clear hpa hE
    go_wp2_with (go_at_call 181;refine ca.out.mono ?_;rintro e w1 ⟨rfl,hb1⟩;have H1:=hid hb1;clear hb1)
    exact ⟨⟨i+1,by omega,by go_num,by have:=hE'.out;omega,gt hb'.out H1.out⟩,by simp [intOf];omega⟩
  ·obtain rfl:i=cn:=by omega
   have hVi:V = -1:=by
    have h1:=hV'.out
    have h2:=hl'.out
    have h3:=he'.out
    rw [List.drop_of_length_le (by omega)]at h3
    simp only [firstN,Nat.add_zero]at h3
    unfold ixN at h1
    rw [if_neg (by omega)]at h1
    exact h1
   clear hV'
   subst hVi
   go_wp2
   go_ret
   exact ⟨rfl,hb'.out⟩
theorem index_66(p:C→Bool)(q:Nat)(co:Option Addr)(cn cc:Nat)(cs:List C)(w:World)(h:Cs w co cn cc cs)(hcn:cn≤100000)
  (hp:∀ W a,Below w.heap.size w W→Cok W a→Calls Tryz.prog 291 #[.agg #[.int .i64 (a).k,.int .i64 (a).c,.int .i64 (a).l,.slice (a).o (a).n (a).m,.int .i64 (a).x],.pointer (some ⟨q,0,none⟩)] W fun e w'=>e=.returned (.bool (p a))∧Below W.heap.size W w') :
  Calls Tryz.prog 180 #[.slice co cn cc,.func (.func 291) #[] #[.pointer (some ⟨q,0,none⟩)]] w fun e w'=>e=.returned (.int .i64 (ixN p cs))∧Below w.heap.size w w':=by
 have h':=hid h
 have hl':=hid h.len
 have hp':=hid hp
 obtain ⟨V,hV⟩:∃ V,V=ixN p cs:=⟨_,rfl⟩
 have hV':=hid hV
 rw [←hV]
 clear h hV hp
 go_enter Tryz.func180,Tryz.ntmps180
 go_wp2
 go_loopw [8] (fun c W=>∃ (i:Nat),i≤cn∧c=.int .i64 (i:Int)∧i+firstN p (cs.drop i)=firstN p cs∧Below w.heap.size w W) (fun c _=>cn - (intOf c).toNat)
 case atStart=>exact ⟨0,by omega,rfl,by simp,Below.refl _ _⟩
 case round=>
  obtain ⟨i,hi,rfl,he,hb⟩:=hrel
  have he':=hid he
  have hb':=hid hb
  clear he hb
  by_cases hik:i<cn
  ·obtain ⟨b,off,rfl,hc⟩:=h'.out.at_ (by omega)
   have ha:=hid ((h'.out.keep hb'.out).ok_at hik)
   obtain ⟨x0,x1,x2,x3,x4⟩:=(hc i hik).keep hb'.out
   have hd:=dropC cs i (by have:=hl'.out;omega)
   generalize cs.getD i default=a at *
   rw [hd]at he'
   have ca:=hid (hp'.out wr a hb'.out ha.out)
   have hE:=he'.out
   simp only [firstN]at hE
   clear hd he' hc
   cases hpa:p a with
   | true=>
    rw [hpa]at ca hE
    simp only [if_true,Nat.add_zero]at hE
    have hVi:V=(i:Int):=by
     have h1:=hV'.out
     have h2:=hl'.out
     unfold ixN at h1
     rw [if_pos (by omega)]at h1
     omega
    clear hpa hE hV'
    subst hVi
    go_wp2_with (go_at_call 291;refine ca.out.mono ?_;rintro e w1 ⟨rfl,hb1⟩;have H1:=hid hb1;clear hb1)
    go_ret
    exact ⟨rfl,gt hb'.out H1.out⟩
   | false=>
    rw [hpa]at ca hE
    simp only [Bool.false_eq_true,if_false]at hE
    have hE':=hid hE
    clear hpa hE
    go_wp2_with (go_at_call 291;refine ca.out.mono ?_;rintro e w1 ⟨rfl,hb1⟩;have H1:=hid hb1;clear hb1)
    exact ⟨⟨i+1,by omega,by go_num,by have:=hE'.out;omega,gt hb'.out H1.out⟩,by simp [intOf];omega⟩
  ·obtain rfl:i=cn:=by omega
   have hVi:V = -1:=by
    have h1:=hV'.out
    have h2:=hl'.out
    have h3:=he'.out
    rw [List.drop_of_length_le (by omega)]at h3
    simp only [firstN,Nat.add_zero]at h3
    unfold ixN at h1
    rw [if_neg (by omega)]at h1
    exact h1
   clear hV'
   subst hVi
   go_wp2
   go_ret
   exact ⟨rfl,hb'.out⟩
theorem box1(t:TypeId)(w:World)(v:Value):(w.alloc (.cells #[v] t)).cell? ⟨w.heap.size,0,none⟩=some v:=by
 have h:=heap_alloc_new w (.cells #[v] t)
 unfold World.cell?
 rw [h];rfl
theorem contains_any(p:C→Bool)(q:Nat)(co:Option Addr)(cn cc:Nat)(cs:List C)(w:World)(h:Cs w co cn cc cs)(hcn:cn≤100000)
  (hp:∀ W a,Below w.heap.size w W→Cok W a→Calls Tryz.prog 291 #[.agg #[.int .i64 (a).k,.int .i64 (a).c,.int .i64 (a).l,.slice (a).o (a).n (a).m,.int .i64 (a).x],.pointer (some ⟨q,0,none⟩)] W fun e w'=>e=.returned (.bool (p a))∧Below W.heap.size W w') :
  Calls Tryz.prog 290 #[.slice co cn cc,.func (.func 291) #[] #[.pointer (some ⟨q,0,none⟩)]] w fun e w'=>e=.returned (.bool (cs.any p))∧Below w.heap.size w w':=by
 have c:=hid (index_66 p q co cn cc cs w h hcn hp)
 have hx:(0≤ixN p cs∧cs.any p=true)∨(ixN p cs<0∧cs.any p=false):=by
  rw [←first_any]
  unfold ixN
  split<;>rename_i h1
  ·left;exact ⟨by omega,by simpa using h1⟩
  ·right;exact ⟨by omega,by simpa using h1⟩
 generalize ixN p cs=I at *
 generalize cs.any p=V at *
 clear h hp
 rcases hx with ⟨h1,rfl⟩ | ⟨h1,rfl⟩
 ·go_enter Tryz.func290,Tryz.ntmps290
  go_wp2_with (go_at_call 180;refine c.out.mono ?_;rintro e w1 ⟨rfl,hb1⟩;have H1:=hid hb1;clear hb1)
  go_ret
  exact ⟨rfl,H1.out⟩
 ·have h2:¬0≤I:=by omega
  go_enter Tryz.func290,Tryz.ntmps290
  go_wp2_with (go_at_call 180;refine c.out.mono ?_;rintro e w1 ⟨rfl,hb1⟩;have H1:=hid hb1;clear hb1)
  go_ret
  exact ⟨by simp<;>omega,H1.out⟩
theorem all1_39(q:Nat)(a:C)(W:World)(hn:a.b.length=a.n)(hq:W.cell? ⟨q,0,none⟩=some (.func (.func 252) #[] #[])) :
  Calls Tryz.prog 291 #[.agg #[.int .i64 (a).k,.int .i64 (a).c,.int .i64 (a).l,.slice (a).o (a).n (a).m,.int .i64 (a).x],.pointer (some ⟨q,0,none⟩)] W fun e w'=>e=.returned (.bool (!leafB a))∧Below W.heap.size W w':=by
 have c:=hid (fun W=>inleaf_any a W hn)
 have hlt:=lt_cell hq
 simp only at hlt
 generalize leafB a=V at *
 clear hn
 go_enter Tryz.func291,Tryz.ntmps291
 go_wp2_with (go_at_call 252;refine (c.out _).mono ?_;rintro e w1 ⟨rfl,hb1⟩;have H1:=hid hb1;clear hb1)
 go_ret
 exact ⟨rfl,gt (ext1 _) H1.out⟩
theorem all_39(leaf:Bool)(r:Int)(co:Option Addr)(cn cc:Nat)(cs:List C)(w:World)(h:Cs w co cn cc cs)(hcn:cn≤100000) :
  Calls Tryz.prog 251 #[.agg #[.bool leaf,.int .i64 r,.slice co cn cc],.func (.func 252) #[] #[]] w fun e w'=>e=.returned (.bool (cs.all leafB))∧Below w.heap.size w w':=by
 have B0:Hid (Below w.heap.size w ((w.alloc (.cells #[.bool leaf,.int .i64 r,.slice co cn cc] 82)).alloc (.cells #[.func (.func 252) #[] #[]] 264))):=hid (gt (ext1 _) (ext1 _))
 have x0:=box1 264 (w.alloc (.cells #[.bool leaf,.int .i64 r,.slice co cn cc] 82)) (.func (.func 252) #[] #[])
 have c:=hid (contains_any (fun a=>!leafB a) (w.alloc (.cells #[.bool leaf,.int .i64 r,.slice co cn cc] 82)).heap.size co cn cc cs _ (h.keep B0.out) hcn (fun W a hb ha=>all1_39 _ a W ha.rd.1 (keep_old hb x0)))
 have e1:cs.all leafB = !(cs.any fun a=>!leafB a):=List.all_eq_not_any_not
 rw [e1]
 generalize (cs.any fun a=>!leafB a)=V at *
 clear h e1 x0
 rw [show (w.alloc (.cells #[.bool leaf,.int .i64 r,.slice co cn cc] 82)).heap.size=w.heap.size+1 by simp]at c
 go_enter Tryz.func251,Tryz.ntmps251
 go_wp2_with (go_at_call 290;refine c.out.mono ?_;rintro e w1 ⟨rfl,hb1⟩;have H1:=hid hb1;clear hb1)
 go_ret
 exact ⟨rfl,gt B0.out H1.out⟩
theorem all1_41(q:Nat)(a:C)(W:World)(hn:a.b.length=a.n)(hq:W.cell? ⟨q,0,none⟩=some (.func (.func 254) #[] #[])) :
  Calls Tryz.prog 291 #[.agg #[.int .i64 (a).k,.int .i64 (a).c,.int .i64 (a).l,.slice (a).o (a).n (a).m,.int .i64 (a).x],.pointer (some ⟨q,0,none⟩)] W fun e w'=>e=.returned (.bool (!aboveB a))∧Below W.heap.size W w':=by
 have c:=hid (fun W=>above_any a W hn)
 have hlt:=lt_cell hq
 simp only at hlt
 generalize aboveB a=V at *
 clear hn
 go_enter Tryz.func291,Tryz.ntmps291
 go_wp2_with (go_at_call 254;refine (c.out _).mono ?_;rintro e w1 ⟨rfl,hb1⟩;have H1:=hid hb1;clear hb1)
 go_ret
 exact ⟨rfl,gt (ext1 _) H1.out⟩
theorem all_41(leaf:Bool)(r:Int)(co:Option Addr)(cn cc:Nat)(cs:List C)(w:World)(h:Cs w co cn cc cs)(hcn:cn≤100000) :
  Calls Tryz.prog 251 #[.agg #[.bool leaf,.int .i64 r,.slice co cn cc],.func (.func 254) #[] #[]] w fun e w'=>e=.returned (.bool (cs.all aboveB))∧Below w.heap.size w w':=by
 have B0:Hid (Below w.heap.size w ((w.alloc (.cells #[.bool leaf,.int .i64 r,.slice co cn cc] 82)).alloc (.cells #[.func (.func 254) #[] #[]] 264))):=hid (gt (ext1 _) (ext1 _))
 have x0:=box1 264 (w.alloc (.cells #[.bool leaf,.int .i64 r,.slice co cn cc] 82)) (.func (.func 254) #[] #[])
 have c:=hid (contains_any (fun a=>!aboveB a) (w.alloc (.cells #[.bool leaf,.int .i64 r,.slice co cn cc] 82)).heap.size co cn cc cs _ (h.keep B0.out) hcn (fun W a hb ha=>all1_41 _ a W ha.rd.1 (keep_old hb x0)))
 have e1:cs.all aboveB = !(cs.any fun a=>!aboveB a):=List.all_eq_not_any_not
 rw [e1]
 generalize (cs.any fun a=>!aboveB a)=V at *
 clear h e1 x0
 rw [show (w.alloc (.cells #[.bool leaf,.int .i64 r,.slice co cn cc] 82)).heap.size=w.heap.size+1 by simp]at c
 go_enter Tryz.func251,Tryz.ntmps251
 go_wp2_with (go_at_call 290;refine c.out.mono ?_;rintro e w1 ⟨rfl,hb1⟩;have H1:=hid hb1;clear hb1)
 go_ret
 exact ⟨rfl,gt B0.out H1.out⟩
end Cel
end Go.Proofs.YtenajbfeojljdaaGreatDoor
