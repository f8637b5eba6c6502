/- A node's page is read as that node: the arithmetic of it; no statement of the seat is proved here. -/
import Derived.Test.YtenajbfeojljdaaGreatDoorV07
import Derived.Test.YtenajbfeojljdaaGreatDoorV06
import Derived.Test.YtenajbfeojljdaaGreatDoorV04
set_option maxHeartbeats 16000000
set_option maxRecDepth 20000
namespace Go.Proofs.YtenajbfeojljdaaGreatDoor
namespace Cel
open Go.RowKit
theorem psum_put1(v:Nat)(hv:v<256)(r:List Nat):psum (putN v 1 false++r) 1 false 1=v:=by
 simp [psum,putN,up,place]<;>omega
theorem psum_put2(v:Nat)(hv:v<65536)(r:List Nat):psum (putN v 2 false++r) 2 false 2=v:=by
 simp [psum,putN,up,place]<;>omega
theorem psum_put4(v:Nat)(hv:v<4294967296)(r:List Nat):psum (putN v 4 false++r) 4 false 4=v:=by
 simp [psum,putN,up,place]<;>omega
variable {α:Type}
theorem drop_app(a t:List α)(n:Nat)(h:a.length=n):(a++t).drop n=t:=by subst h;simp
theorem take_app(a t:List α)(n:Nat)(h:a.length=n):(a++t).take n=a:=by subst h;simp
theorem num1_put(v:Nat)(hv:v<256)(t:List Nat):numO 1 (some (putN v 1 false++t))=(v,some t):=by
 simp only [numO]
 rw [if_pos (by simp [putN_length]),psum_put1 v hv,drop_app _ _ _ (putN_length _ _ _)]
theorem num2_put(v:Nat)(hv:v<65536)(t:List Nat):numO 2 (some (putN v 2 false++t))=(v,some t):=by
 simp only [numO]
 rw [if_pos (by simp [putN_length]),psum_put2 v hv,drop_app _ _ _ (putN_length _ _ _)]
theorem num4_put(v:Nat)(hv:v<4294967296)(t:List Nat):numO 4 (some (putN v 4 false++t))=(v,some t):=by
 simp only [numO]
 rw [if_pos (by simp [putN_length]),psum_put4 v hv,drop_app _ _ _ (putN_length _ _ _)]
theorem var_put(v most:Nat)(hv:v<18446744073709551616)(hm:v≤most)(t:List Nat):varO most (some (varN v++t))=(v,some t):=by
 have h:=asm_var v hv t
 have hz:=szN_le v
 simp only [varO,h]
 rw [if_neg (by omega),drop_app _ _ _ (varN_length v)]
theorem bytes_put(b:List Nat)(k:Nat)(h:b.length=k)(t:List Nat):bytesO k (some (b++t))=(b,some t):=by
 simp only [bytesO]
 rw [if_pos (by simp;omega),take_app _ _ _ h,drop_app _ _ _ h]
theorem rdA_back(a:C)(hk:I64 a.k)(h:aboveB a=true)(t:List Nat):rdA (some (oneN false a++t))=(nrm a,some t):=by
 simp only [aboveB,pagedB,Bool.and_eq_true,decide_eq_true_eq,beq_iff_eq]at h
 obtain ⟨⟨h1,h2⟩,h3,h4,h5⟩:=h
 have hb:a.b = []:=List.eq_nil_of_length_eq_zero (by omega)
 have e1:oneN false a++t=putN (uN a.c) 4 false++(varN (zigN a.k)++t):=by simp [oneN]
 have hu:uN a.c=a.c.toNat:=uN_pos a.c (by omega) (by omega)
 unfold rdA
 rw [e1,num4_put (uN a.c) (by omega),var_put (zigN a.k) _ (zigN_lt a.k hk) (by have:=zigN_lt a.k hk;omega),zag_zig a.k hk]
 simp only [nrm,hb,h3,h5]
 rw [hu]
 congr 2
 omega
theorem rdL_back(a:C)(hk:I64 a.k)(h:leafB a=true)(t:List Nat):rdL (some (oneN true a++t))=(nrm a,some t):=by
 simp only [leafB,payB,Bool.and_eq_true,decide_eq_true_eq,beq_iff_eq]at h
 obtain ⟨h1,⟨h2,h3⟩,h4,h5⟩:=h
 have hu:uN a.l=a.l.toNat:=uN_pos a.l (by omega) (by omega)
 have hul:((uN a.l:Nat):Int)=a.l:=by rw [hu];omega
 have hL:a.b.length=locN a.l:=by omega
 obtain ⟨T,hT⟩:∃ T,T=(if spillB a then putN (uN a.x) 4 false else [])++t:=⟨_,rfl⟩
 have e1:oneN true a++t=varN (zigN a.k)++(varN (uN a.l)++(a.b++T)):=by rw [hT];simp [oneN]
 have q1:rl1 (some (oneN true a++t))=(zigN a.k,some (varN (uN a.l)++(a.b++T))):=by
  unfold rl1
  rw [e1,var_put (zigN a.k) _ (zigN_lt a.k hk) (by have:=zigN_lt a.k hk;omega)]
 have q2:rl2 (some (oneN true a++t))=(uN a.l,some (a.b++T)):=by
  unfold rl2
  rw [q1]
  exact var_put (uN a.l) 20000 (uN_lt _) (by omega) _
 have q3:rl3 (some (oneN true a++t))=(a.b,some T):=by
  unfold rl3
  rw [q2]
  simp only
  rw [hul]
  exact bytes_put a.b _ hL T
 have qs:rlS (some (oneN true a++t))=spillB a:=by
  unfold rlS spillB
  rw [q3,q2]
  simp only
  rw [hul]
 have q4:rl4 (some (oneN true a++t))=(a.x.toNat,some t)∧((a.x.toNat:Nat):Int)=a.x:=by
  unfold rl4
  rw [qs,q3]
  cases hs:spillB a with
  | true=>
   rw [hs]at h5 hT
   simp only [if_true,pagedB,Bool.and_eq_true,decide_eq_true_eq]at h5 hT ⊢
   have hux:uN a.x=a.x.toNat:=uN_pos a.x (by omega) (by omega)
   rw [hT,num4_put (uN a.x) (by omega),hux]
   exact ⟨rfl,by omega⟩
  | false=>
   rw [hs]at h5 hT
   simp only [Bool.false_eq_true,if_false,List.nil_append,beq_iff_eq]at h5 hT ⊢
   rw [hT,h5]
   exact ⟨rfl,rfl⟩
 unfold rdL
 rw [q4.1,q3,q2,q1]
 simp only [zag_zig a.k hk,hul,q4.2,nrm,h1]
theorem rdC_back(leaf:Bool)(a:C)(hk:I64 a.k)(h:cellB leaf a=true)(t:List Nat):rdC leaf (some (oneN leaf a++t))=(nrm a,some t):=by
 unfold rdC
 cases leaf
 ·exact rdA_back a hk h t
 ·exact rdL_back a hk h t
theorem rdCs_back(leaf:Bool)(t:List Nat):∀ (cs:List C),(∀ a∈cs,I64 a.k)→cs.all (cellB leaf)=true→rdCs leaf cs.length (some (allN leaf cs++t))=cs.map nrm
 | [],_,_=>rfl
 | a::l,hk,h=>by
  simp only [List.all_cons,Bool.and_eq_true]at h
  have e1:allN leaf (a::l)++t=oneN leaf a++(allN leaf l++t):=by simp [allN]
  have:=rdCs_back leaf t l (fun b hb=>hk b (by simp [hb])) h.2
  simp only [List.length_cons,rdCs,List.map_cons]
  rw [e1,rdC_back leaf a (hk a (by simp)) h.1]
  simp only [Option.isSome_some,if_true]
  rw [this]
theorem oneN_pos(leaf:Bool)(a:C):1≤(oneN leaf a).length:=by
 have:=szN_le (zigN a.k)
 rw [oneN_length]
 cases leaf<;>simp<;>omega
theorem len_le(leaf:Bool)(cs:List C):cs.length≤sumN leaf cs:=by
 induction cs with
 | nil=>simp
 | cons a l ih=>have:=oneN_pos leaf a;simp [sumN];omega
theorem page_back(leaf:Bool)(r:Int)(cs:List C)(hk:∀ a∈cs,I64 a.k)(h:hasN leaf r cs=true) :
  rnL (pageN leaf r cs)=leaf∧(((r3 (pageN leaf r cs)).1:Nat):Int)=r∧rnC (pageN leaf r cs)=cs.map nrm:=by
 simp only [hasN,Bool.and_eq_true,decide_eq_true_eq]at h
 obtain ⟨hg,hs⟩:=h
 have hg2:headB leaf r=true∧cs.all (cellB leaf)=true:=by
  rw [good_ok,ok_none]at hg
  simp only [Bool.and_eq_true]at hg
  exact ⟨hg.1,hg.2.2⟩
 have hr:0≤r∧r≤4000:=by
  have:=hg2.1
  unfold headB at this
  cases leaf
  ·simp [pagedB]at this;omega
  ·simp at this;omega
 have hn:cs.length<65536:=by have:=len_le leaf cs;unfold sizeN at hs;omega
 obtain ⟨t,ht⟩:∃ t,t=zs (512 - (hd7 leaf cs.length r++allN leaf cs).length):=⟨_,rfl⟩
 have e0:pageN leaf r cs=putN (uN (if leaf then 1 else 2)) 1 false++(putN (uN (cs.length:Int)) 2 false++(putN (uN r) 4 false++(allN leaf cs++t))):=by
  rw [ht];simp [pageN,padN,hd7]
 have hm:uN (if leaf then 1 else 2)<256:=by cases leaf<;>decide
 have q1:r1 (pageN leaf r cs)=(uN (if leaf then 1 else 2),some (putN (uN (cs.length:Int)) 2 false++(putN (uN r) 4 false++(allN leaf cs++t)))):=by
  unfold r1;rw [e0,num1_put _ hm]
 have hul:uN (cs.length:Int)=cs.length:=by unfold uN;omega
 have q2:r2 (pageN leaf r cs)=(cs.length,some (putN (uN r) 4 false++(allN leaf cs++t))):=by
  unfold r2;rw [q1];simp only;rw [hul,num2_put _ hn]
 have hur:uN r=r.toNat:=uN_pos r (by omega) (by omega)
 have q3:r3 (pageN leaf r cs)=(r.toNat,some (allN leaf cs++t)):=by
  unfold r3;rw [q2];simp only;rw [hur,num4_put _ (by omega)]
 have qL:rnL (pageN leaf r cs)=leaf:=by
  unfold rnL;rw [q1];cases leaf<;>rfl
 refine ⟨qL,by rw [q3];simp only;omega,?_⟩
 unfold rnC
 rw [qL,q3,q2]
 exact rdCs_back leaf t cs hk hg2.2
theorem page_isP(leaf:Bool)(r:Int)(cs:List C)(hk:∀ a∈cs,I64 a.k)(h:hasN leaf r cs=true):isP (pageN leaf r cs)=true:=by
 obtain ⟨h1,h2,h3⟩:=page_back leaf r cs hk h
 unfold isP
 rw [h1,h2,h3,has_nrm,page_nrm,h]
 simp
theorem pageN_by8{W:World}(leaf:Bool)(r:Int)(cs:List C)(h:∀ a∈cs,Cok W a):∀ x∈pageN leaf r cs,x<256:=by
 intro x hx
 simp only [pageN,padN,hd7,List.mem_append]at hx
 rcases hx with (((h1 |h1) |h1) |h1) |h1
 ·exact putN_bytes _ _ _ x h1
 ·exact putN_bytes _ _ _ x h1
 ·exact putN_bytes _ _ _ x h1
 ·simp only [allN,List.mem_flatMap]at h1
  obtain ⟨a,ha,hxa⟩:=h1
  unfold oneN at hxa
  cases leaf
  ·simp only [Bool.false_eq_true,if_false,List.mem_append]at hxa
   rcases hxa with h2 |h2
   ·exact putN_bytes _ _ _ x h2
   ·exact varN_bytes _ x h2
  ·simp only [if_true,List.mem_append]at hxa
   rcases hxa with ((h2 |h2) |h2) |h2
   ·exact varN_bytes _ x h2
   ·exact varN_bytes _ x h2
   ·exact (h a ha).by8 x h2
   ·cases hs:spillB a with
    | true=>rw [hs]at h2;simp only [if_true]at h2;exact putN_bytes _ _ _ x h2
    | false=>rw [hs]at h2;simp at h2
 ·simp only [zs]at h1
  have:=List.eq_of_mem_replicate h1
  omega
end Cel
namespace Cel
open Go.RowKit
end Cel
namespace Cel
open Go.RowKit
end Cel
namespace Cel
open Go.RowKit
def okP(n:Nat)(xs:List Nat):Bool:=decide (n=512)&&isP xs
theorem parse_yes(ao:Option Addr)(n cap:Nat)(xs:List Nat)(w:World)(h:Rd w ao n cap xs)(hx:∀ x∈xs,x<256)(hp:okP n xs=true) :
  Calls Tryz.prog 90 #[.slice ao n cap] w fun e w'=>∃ co cn cc cs,e=.returned (.tuple #[.agg #[.bool (rnL xs),.int .i64 ((r3 xs).1:Nat),.slice co cn cc],.int .i64 0])∧Pn5 w.heap.size w' co cn cc cs∧cs.map nrm=rnC xs∧Below w.heap.size w w':=by
 simp only [okP,Bool.and_eq_true,decide_eq_true_eq]at hp
 obtain ⟨rfl,hi⟩:=hp
 refine (parse_page ao cap xs w h hx).mono fun e w' ⟨hb,hc⟩=>?_
 rcases hc with ⟨hi2,_⟩ | ⟨_,co,cn,cc,cs,he,hC,hm⟩
 ·rw [hi]at hi2;cases hi2
 ·exact ⟨co,cn,cc,cs,he,hC,hm,hb⟩
abbrev SA(qx q:Nat)(lx l:Bool)(rx r:Int)(ox o:Option Addr)(nx n mx m:Nat)(W:World):Prop:=
 (W.cell? ⟨qx,0,none⟩=some (.bool lx)∧W.cell? ⟨qx,1,none⟩=some (.int .i64 rx)∧W.cell? ⟨qx,2,none⟩=some (.slice ox nx mx))∧(W.cell? ⟨q,0,none⟩=some (.bool l)∧W.cell? ⟨q,1,none⟩=some (.int .i64 r)∧W.cell? ⟨q,2,none⟩=some (.slice o n m))
abbrev SB(qx:Nat)(lx:Bool)(rx:Int)(ox:Option Addr)(nx mx:Nat)(ao:Option Addr)(n cap:Nat)(sx:ByteArray)(W:World):Prop:=
 (W.cell? ⟨qx,0,none⟩=some (.bool lx)∧W.cell? ⟨qx,1,none⟩=some (.int .i64 rx)∧W.cell? ⟨qx,2,none⟩=some (.slice ox nx mx))∧(convert 48 9 (.slice ao n cap)).run Tryz.prog W=.ok (.string sx) W
abbrev SN(W:World):Prop:=W=W
end Cel
namespace Cel
open Go.RowKit
def notBelow(key:Int)(a:C):Bool:=decide (key≤a.k)
def fN(key:Int)(cs:List C):Nat:=firstN (notBelow key) cs
def fB(key:Int)(cs:List C):Bool:=if fN key cs<cs.length then (cs.getD (fN key cs) default).k == key else false
def chN(r:Int)(key:Int)(cs:List C):Int:=if fN key cs<cs.length then (cs.getD (fN key cs) default).c else r
theorem find1_any(q:Nat)(key:Int)(a:C)(W:World)(hq:W.cell? ⟨q,0,none⟩=some (.int .i64 key)) :
  Calls Tryz.prog 181 #[.agg #[.int .i64 (a).k,.int .i64 (a).c,.int .i64 (a).l,.slice (a).o (a).n (a).m,.int .i64 (a).x],.pointer (some ⟨q,0,none⟩)] W fun e w'=>e=.returned (.bool (notBelow key a))∧Below W.heap.size W w':=by
 have hlt:=lt_cell hq
 simp only at hlt
 unfold notBelow
 by_cases h:key≤a.k
 ·rw [show decide (key≤a.k)=true by simpa using h]
  go_enter Tryz.func181,Tryz.ntmps181
  go_wp2
  go_ret
  exact ⟨rfl,ext1 _⟩
 ·rw [show decide (key≤a.k)=false by simpa using h]
  have h2:a.k<key:=by omega
  clear h
  go_enter Tryz.func181,Tryz.ntmps181
  go_wp2
  go_ret
  exact ⟨by simp<;>omega,ext1 _⟩
abbrev SF(q q2 b o n m op:Nat)(key k:Int)(W:World):Prop:=
 W.cell? ⟨q,2,none⟩=some (.slice (some ⟨b,o,none⟩) n m)∧W.cell? ⟨q2,0,none⟩=some (.int .i64 key)∧W.cell? ⟨b,op,none⟩=some (.int .i64 k)
theorem find_any(leaf:Bool)(r:Int)(co:Option Addr)(cn cc:Nat)(cs:List C)(key:Int)(w:World)(h:Cs w co cn cc cs)(hcn:cn≤100000) :
  Calls Tryz.prog 119 #[.agg #[.bool leaf,.int .i64 r,.slice co cn cc],.int .i64 key] w fun e w'=>e=.returned (.tuple #[.int .i64 (fN key cs:Nat),.bool (fB key cs)])∧Below w.heap.size w w':=by
 obtain ⟨w2,hw2⟩:∃ w2,w2=(w.alloc (.cells #[.bool leaf,.int .i64 r,.slice co cn cc] 82)).alloc (.cells #[.int .i64 key] 3):=⟨_,rfl⟩
 have B2:Below w.heap.size w w2:=by rw [hw2];exact gt (ext1 _) (ext1 _)
 have N2:NB 82 w2 w.heap.size leaf r co cn cc:=by rw [hw2];exact (NB.new 82 w leaf r co cn cc).keep (ext1 _)
 have K2:w2.cell? ⟨w.heap.size+1,0,none⟩=some (.int .i64 key):=by
  rw [hw2]
  simp
 have ci:=hid (index_48 (notBelow key) (w.heap.size+1) co cn cc cs w2 (h.keep B2) hcn (fun W a hb _=>find1_any _ key a W (keep_old hb K2)))
 have hle:=firstN_le (notBelow key) cs
 have hl:=h.len
 have h':=hid h
 have B2':=hid B2;have N2':=hid N2;have K2':=hid K2;have hw2':=hid hw2.symm
 obtain ⟨u0,u1,u2⟩:=N2.cells
 obtain ⟨F,hF⟩:∃ F,F=fN key cs:=⟨_,rfl⟩
 obtain ⟨V,hV⟩:∃ V,V=fB key cs:=⟨_,rfl⟩
 rw [←hF,←hV]
 unfold fB at hV
 rw [←hF]at hV
 unfold ixN at ci
 have hF2:firstN (notBelow key) cs=F:=hF.symm
 rw [hF2]at ci hle
 clear h B2 N2 hw2 hF hF2 K2
 by_cases hlt:F<cs.length
 ·rw [if_pos hlt]at ci hV
  have hFn:F<cn:=by omega
  obtain ⟨b,off,rfl,hc⟩:=h'.out.at_ (by omega)
  have x0:=(hc F hFn).1
  generalize cs.getD F default=a at *
  have X0:=hid x0
  replace hV:=hid hV
  clear hc x0 hle hl hlt
  go_enter Tryz.func119,Tryz.ntmps119
  go_upto_region 4 with (go_at_call 180;rw [hw2'.out];refine ci.out.mono ?_;rintro e w3 ⟨rfl,hb⟩;have B3:=hid hb;clear hb u0 u1 u2)
  have g1:SF w.heap.size (w.heap.size+1) b off cn cc (off+F*5) key a.k w3.drew:=⟨(N2'.out.keep B3.out).cells.2.2,keep_old B3.out K2'.out,keep_old (gt B2'.out B3.out) X0.out⟩
  refine wp_region_K (S:=SF w.heap.size (w.heap.size+1) b off cn cc (off+F*5) key a.k) (fun _=>false) (by kernel_rfl) (g1) (fun hHeld=>?_)
  refine gkp 0 ?_
  refine gkp 1 ?_
  refine gkt 2 ?_ (h:=by intro W hSw;obtain ⟨y0,y1,y2⟩:=hSw;go_simp;first |done |with_reducible rfl)
  refine gkp 3 ?_
  refine gkp 4 ?_
  refine gkp 5 ?_
  refine gkt 6 ?_ (h:=by intro W hSw;obtain ⟨y0,y1,y2⟩:=hSw;go_simp;first |done |with_reducible rfl)
  refine gkt 7 ?_ (h:=by intro W hSw;obtain ⟨y0,y1,y2⟩:=hSw;go_simp;first |done |with_reducible rfl)
  refine gkp 8 ?_
  refine gkp 9 ?_
  refine gkp 10 ?_
  refine wpAnyK_done (by kernel_rfl) ?_ _
  go_wp2
  go_ret2
  exact ⟨by rw [hV.out];rfl,(gt B2'.out B3.out).drew⟩
 ·rw [if_neg hlt]at ci hV
  obtain rfl:F=cn:=by omega
  subst hV
  clear hle hl hlt
  go_enter Tryz.func119,Tryz.ntmps119
  go_wp2_with (go_at_call 180;rw [hw2'.out];refine ci.out.mono ?_;rintro e w3 ⟨rfl,hb⟩;have B3:=hid hb;clear u0 u1 u2;obtain ⟨u0,u1,u2⟩:=(N2'.out.keep hb).cells;clear hb)
  go_ret2
  exact ⟨rfl,gt B2'.out B3.out⟩
abbrev SC(q b o n m op:Nat)(k:Int)(W:World):Prop:=
 W.cell? ⟨q,2,none⟩=some (.slice (some ⟨b,o,none⟩) n m)∧W.cell? ⟨b,op,none⟩=some (.int .i64 k)
abbrev SR(q:Nat)(r:Int)(W:World):Prop:=W.cell? ⟨q,1,none⟩=some (.int .i64 r)
theorem child_any(leaf:Bool)(r:Int)(co:Option Addr)(cn cc:Nat)(cs:List C)(key:Int)(w:World)(h:Cs w co cn cc cs)(hcn:cn≤100000) :
  Calls Tryz.prog 128 #[.agg #[.bool leaf,.int .i64 r,.slice co cn cc],.int .i64 key] w fun e w'=>e=.returned (.tuple #[.int .i64 (fN key cs:Nat),.int .i64 (chN r key cs)])∧Below w.heap.size w w':=by
 have B0:Hid (Below w.heap.size w (w.alloc (.cells #[.bool leaf,.int .i64 r,.slice co cn cc] 82))):=hid (ext1 _)
 have N0:=hid (NB.new 82 w leaf r co cn cc)
 have cf:=hid (find_any leaf r co cn cc cs key _ (h.keep B0.out) hcn)
 have hle:=firstN_le (notBelow key) cs
 have hl:=h.len
 have h':=hid h
 obtain ⟨F,hF⟩:∃ F,F=fN key cs:=⟨_,rfl⟩
 obtain ⟨V,hV⟩:∃ V,V=chN r key cs:=⟨_,rfl⟩
 rw [←hF,←hV]
 unfold chN at hV
 rw [←hF]at hV cf
 rw [show firstN (notBelow key) cs=F from hF.symm]at hle
 generalize fB key cs=FB at *
 clear h hF
 by_cases hlt:F<cs.length
 ·rw [if_pos hlt]at hV
  have hFn:F<cn:=by omega
  have hne:((F:Int) == (cn:Int))=false:=by simp;omega
  obtain ⟨b,off,rfl,hc⟩:=h'.out.at_ (by omega)
  have x1:=(hc F hFn).2.1
  generalize cs.getD F default=a at *
  have X1:=hid x1
  subst hV
  clear hc x1 hle hl hlt
  go_enter Tryz.func128,Tryz.ntmps128
  go_upto_region 4 with (go_at_call 119;refine cf.out.mono ?_;rintro e w3 ⟨rfl,hb⟩;have B3:=hid hb;obtain ⟨u0,u1,u2⟩:=(N0.out.keep hb).cells;clear hb)
  have g1:SC w.heap.size b off cn cc (off+F*5+1) a.c w3.drew:=⟨(N0.out.keep B3.out).cells.2.2,keep_old (gt B0.out B3.out) X1.out⟩
  refine wp_region_K (S:=SC w.heap.size b off cn cc (off+F*5+1) a.c) (fun _=>false) (by kernel_rfl) (g1) (fun hHeld=>?_)
  refine gkp 0 ?_
  refine gkp 1 ?_
  refine gkt 2 ?_ (h:=by intro W hSw;obtain ⟨y0,y1⟩:=hSw;go_simp;first |done |with_reducible rfl)
  refine gkp 3 ?_
  refine gkp 4 ?_
  refine gkp 5 ?_
  refine gkt 6 ?_ (h:=by intro W hSw;obtain ⟨y0,y1⟩:=hSw;go_simp;first |done |with_reducible rfl)
  refine gkp 7 ?_
  refine gkp 8 ?_
  refine wpAnyK_done (by kernel_rfl) ?_ _
  go_wp2
  go_ret2
  exact ⟨rfl,(gt B0.out B3.out).drew⟩
 ·rw [if_neg hlt]at hV
  obtain rfl:F=cn:=by omega
  subst hV
  clear hle hl hlt
  go_enter Tryz.func128,Tryz.ntmps128
  go_upto_region 3 with (go_at_call 119;refine cf.out.mono ?_;rintro e w3 ⟨rfl,hb⟩;have B3:=hid hb;obtain ⟨u0,u1,u2⟩:=(N0.out.keep hb).cells;clear hb)
  have g1:SR w.heap.size V w3.drew:=(N0.out.keep B3.out).cells.2.1
  refine wp_region_K (S:=SR w.heap.size V) (fun _=>false) (by kernel_rfl) (g1) (fun hHeld=>?_)
  refine gkp 0 ?_
  refine gkp 1 ?_
  refine gkt 2 ?_ (h:=by intro W hSw;have y0:=hSw;go_simp;first |done |with_reducible rfl)
  refine gkp 3 ?_
  refine gkp 4 ?_
  refine wpAnyK_done (by kernel_rfl) ?_ _
  go_wp2
  go_ret2
  exact ⟨rfl,(gt B0.out B3.out).drew⟩
abbrev SK(q:Nat)(k:Int)(W:World):Prop:=W.cell? ⟨q,0,none⟩=some (.int .i64 k)
end Cel
end Go.Proofs.YtenajbfeojljdaaGreatDoor
