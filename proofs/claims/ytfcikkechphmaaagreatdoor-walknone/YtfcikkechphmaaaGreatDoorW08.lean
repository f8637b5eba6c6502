/- A node's page is read as that node: the arithmetic of it; no statement of the seat is proved here. -/
import Derived.Test.YtfcikkechphmaaaGreatDoorW07
import Derived.Test.YtfcikkechphmaaaGreatDoorW06
import Derived.Test.YtfcikkechphmaaaGreatDoorW04
import Derived.Test.YtfcikkechphmaaaGreatDoorProg
import GoSem.Claim
import GoSem.ClaimJoined
import GoSem.ClaimMapViews
import Derived.JoinedTies
import Derived.KernelRfl
import Derived.RowKit
import Derived.WalkKit
import Derived.WalkSpells
import Derived.WalkLawsBesides
import Derived.Laws.CopyOwn
import Derived.Laws.BytesArg
import Derived.Laws.AppendOwnNone
import Derived.Deep.OwnRows
import Derived.BigRegion
import Derived.Deep.RegionWith
import Derived.Deep.RegionHeld3
import Derived.Lib.OthersKept
import Derived.Lib.Walk
set_option maxHeartbeats 16000000
set_option maxRecDepth 20000
namespace Go.Proofs.YtfcikkechphmaaaGreatDoor
namespace Cel
open Go.RowKit
theorem psum_put1(v:Nat)(hv:v<256)(r:List Nat):psum (putN v 1 false++r) 1 false 1=v:=by
 simp [psum,putN,up,place]<;>omega
theorem psum_put2(v:Nat)(hv:v<65536)(r:List Nat):psum (putN v 2 false++r) 2 false 2=v:=by
 simp [psum,putN,up,place]<;>omega
theorem psum_put4(v:Nat)(hv:v<4294967296)(r:List Nat):psum (putN v 4 false++r) 4 false 4=v:=by
 simp [psum,putN,up,place]<;>omega
variable {α:Type}
theorem drop_app(a t:List α)(n:Nat)(h:a.length=n):(a++t).drop n=t:=by subst h;simp
theorem take_app(a t:List α)(n:Nat)(h:a.length=n):(a++t).take n=a:=by subst h;simp
theorem num1_put(v:Nat)(hv:v<256)(t:List Nat):numO 1 (some (putN v 1 false++t))=(v,some t):=by
 simp only [numO]
 rw [if_pos (by simp [putN_length]),psum_put1 v hv,drop_app _ _ _ (putN_length _ _ _)]
theorem num2_put(v:Nat)(hv:v<65536)(t:List Nat):numO 2 (some (putN v 2 false++t))=(v,some t):=by
 simp only [numO]
 rw [if_pos (by simp [putN_length]),psum_put2 v hv,drop_app _ _ _ (putN_length _ _ _)]
theorem num4_put(v:Nat)(hv:v<4294967296)(t:List Nat):numO 4 (some (putN v 4 false++t))=(v,some t):=by
 simp only [numO]
 rw [if_pos (by simp [putN_length]),psum_put4 v hv,drop_app _ _ _ (putN_length _ _ _)]
theorem var_put(v most:Nat)(hv:v<18446744073709551616)(hm:v≤most)(t:List Nat):varO most (some (varN v++t))=(v,some t):=by
 have h:=asm_var v hv t
 have hz:=szN_le v
 simp only [varO,h]
 rw [if_neg (by omega),drop_app _ _ _ (varN_length v)]
theorem bytes_put(b:List Nat)(k:Nat)(h:b.length=k)(t:List Nat):bytesO k (some (b++t))=(b,some t):=by
 simp only [bytesO]
 rw [if_pos (by simp;omega),take_app _ _ _ h,drop_app _ _ _ h]
theorem rdA_back(a:C)(hk:I64 a.k)(h:aboveB a=true)(t:List Nat):rdA (some (oneN false a++t))=(nrm a,some t):=by
 simp only [aboveB,pagedB,Bool.and_eq_true,decide_eq_true_eq,beq_iff_eq]at h
 obtain ⟨⟨h1,h2⟩,h3,h4,h5⟩:=h
 have hb:a.b = []:=List.eq_nil_of_length_eq_zero (by omega)
 have e1:oneN false a++t=putN (uN a.c) 4 false++(varN (zigN a.k)++t):=by simp [oneN]
 have hu:uN a.c=a.c.toNat:=uN_pos a.c (by omega) (by omega)
 unfold rdA
 rw [e1,num4_put (uN a.c) (by omega),var_put (zigN a.k) _ (zigN_lt a.k hk) (by have:=zigN_lt a.k hk;omega),zag_zig a.k hk]
 simp only [nrm,hb,h3,h5]
 rw [hu]
 congr 2
 omega
theorem rdL_back(a:C)(hk:I64 a.k)(h:leafB a=true)(t:List Nat):rdL (some (oneN true a++t))=(nrm a,some t):=by
 simp only [leafB,payB,Bool.and_eq_true,decide_eq_true_eq,beq_iff_eq]at h
 obtain ⟨h1,⟨h2,h3⟩,h4,h5⟩:=h
 have hu:uN a.l=a.l.toNat:=uN_pos a.l (by omega) (by omega)
 have hul:((uN a.l:Nat):Int)=a.l:=by rw [hu];omega
 have hL:a.b.length=locN a.l:=by omega
 obtain ⟨T,hT⟩:∃ T,T=(if spillB a then putN (uN a.x) 4 false else [])++t:=⟨_,rfl⟩
 have e1:oneN true a++t=varN (zigN a.k)++(varN (uN a.l)++(a.b++T)):=by rw [hT];simp [oneN]
 have q1:rl1 (some (oneN true a++t))=(zigN a.k,some (varN (uN a.l)++(a.b++T))):=by
  unfold rl1
  rw [e1,var_put (zigN a.k) _ (zigN_lt a.k hk) (by have:=zigN_lt a.k hk;omega)]
 have q2:rl2 (some (oneN true a++t))=(uN a.l,some (a.b++T)):=by
  unfold rl2
  rw [q1]
  exact var_put (uN a.l) 20000 (uN_lt _) (by omega) _
 have q3:rl3 (some (oneN true a++t))=(a.b,some T):=by
  unfold rl3
  rw [q2]
  simp only
  rw [hul]
  exact bytes_put a.b _ hL T
 have qs:rlS (some (oneN true a++t))=spillB a:=by
  unfold rlS spillB
  rw [q3,q2]
  simp only
  rw [hul]
 have q4:rl4 (some (oneN true a++t))=(a.x.toNat,some t)∧((a.x.toNat:Nat):Int)=a.x:=by
  unfold rl4
  rw [qs,q3]
  cases hs:spillB a with
  | true=>
   rw [hs]at h5 hT
   simp only [if_true,pagedB,Bool.and_eq_true,decide_eq_true_eq]at h5 hT ⊢
   have hux:uN a.x=a.x.toNat:=uN_pos a.x (by omega) (by omega)
   rw [hT,num4_put (uN a.x) (by omega),hux]
   exact ⟨rfl,by omega⟩
  | false=>
   rw [hs]at h5 hT
   simp only [Bool.false_eq_true,if_false,List.nil_append,beq_iff_eq]at h5 hT ⊢
   rw [hT,h5]
   exact ⟨rfl,rfl⟩
 unfold rdL
 rw [q4.1,q3,q2,q1]
 simp only [zag_zig a.k hk,hul,q4.2,nrm,h1]
theorem rdC_back(leaf:Bool)(a:C)(hk:I64 a.k)(h:cellB leaf a=true)(t:List Nat):rdC leaf (some (oneN leaf a++t))=(nrm a,some t):=by
 unfold rdC
 cases leaf
 ·exact rdA_back a hk h t
 ·exact rdL_back a hk h t
theorem rdCs_back(leaf:Bool)(t:List Nat):∀ (cs:List C),(∀ a∈cs,I64 a.k)→cs.all (cellB leaf)=true→rdCs leaf cs.length (some (allN leaf cs++t))=cs.map nrm
 | [],_,_=>rfl
 | a::l,hk,h=>by
  simp only [List.all_cons,Bool.and_eq_true]at h
  have e1:allN leaf (a::l)++t=oneN leaf a++(allN leaf l++t):=by simp [allN]
  have:=rdCs_back leaf t l (fun b hb=>hk b (by simp [hb])) h.2
  simp only [List.length_cons,rdCs,List.map_cons]
  rw [e1,rdC_back leaf a (hk a (by simp)) h.1]
  simp only [Option.isSome_some,if_true]
  rw [this]
theorem oneN_pos(leaf:Bool)(a:C):1≤(oneN leaf a).length:=by
 have:=szN_le (zigN a.k)
 rw [oneN_length]
 cases leaf<;>simp<;>omega
theorem len_le(leaf:Bool)(cs:List C):cs.length≤sumN leaf cs:=by
 induction cs with
 | nil=>simp
 | cons a l ih=>have:=oneN_pos leaf a;simp [sumN];omega
theorem page_back(leaf:Bool)(r:Int)(cs:List C)(hk:∀ a∈cs,I64 a.k)(h:hasN leaf r cs=true) :
  rnL (pageN leaf r cs)=leaf∧(((r3 (pageN leaf r cs)).1:Nat):Int)=r∧rnC (pageN leaf r cs)=cs.map nrm:=by
 simp only [hasN,Bool.and_eq_true,decide_eq_true_eq]at h
 obtain ⟨hg,hs⟩:=h
 have hg2:headB leaf r=true∧cs.all (cellB leaf)=true:=by
  rw [good_ok,ok_none]at hg
  simp only [Bool.and_eq_true]at hg
  exact ⟨hg.1,hg.2.2⟩
 have hr:0≤r∧r≤4000:=by
  have:=hg2.1
  unfold headB at this
  cases leaf
  ·simp [pagedB]at this;omega
  ·simp at this;omega
 have hn:cs.length<65536:=by have:=len_le leaf cs;unfold sizeN at hs;omega
 obtain ⟨t,ht⟩:∃ t,t=zs (512 - (hd7 leaf cs.length r++allN leaf cs).length):=⟨_,rfl⟩
 have e0:pageN leaf r cs=putN (uN (if leaf then 1 else 2)) 1 false++(putN (uN (cs.length:Int)) 2 false++(putN (uN r) 4 false++(allN leaf cs++t))):=by
  rw [ht];simp [pageN,padN,hd7]
 have hm:uN (if leaf then 1 else 2)<256:=by cases leaf<;>decide
 have q1:r1 (pageN leaf r cs)=(uN (if leaf then 1 else 2),some (putN (uN (cs.length:Int)) 2 false++(putN (uN r) 4 false++(allN leaf cs++t)))):=by
  unfold r1;rw [e0,num1_put _ hm]
 have hul:uN (cs.length:Int)=cs.length:=by unfold uN;omega
 have q2:r2 (pageN leaf r cs)=(cs.length,some (putN (uN r) 4 false++(allN leaf cs++t))):=by
  unfold r2;rw [q1];simp only;rw [hul,num2_put _ hn]
 have hur:uN r=r.toNat:=uN_pos r (by omega) (by omega)
 have q3:r3 (pageN leaf r cs)=(r.toNat,some (allN leaf cs++t)):=by
  unfold r3;rw [q2];simp only;rw [hur,num4_put _ (by omega)]
 have qL:rnL (pageN leaf r cs)=leaf:=by
  unfold rnL;rw [q1];cases leaf<;>rfl
 refine ⟨qL,by rw [q3];simp only;omega,?_⟩
 unfold rnC
 rw [qL,q3,q2]
 exact rdCs_back leaf t cs hk hg2.2
theorem page_isP(leaf:Bool)(r:Int)(cs:List C)(hk:∀ a∈cs,I64 a.k)(h:hasN leaf r cs=true):isP (pageN leaf r cs)=true:=by
 obtain ⟨h1,h2,h3⟩:=page_back leaf r cs hk h
 unfold isP
 rw [h1,h2,h3,has_nrm,page_nrm,h]
 simp
theorem pageN_by8{W:World}(leaf:Bool)(r:Int)(cs:List C)(h:∀ a∈cs,Cok W a):∀ x∈pageN leaf r cs,x<256:=by
 intro x hx
 simp only [pageN,padN,hd7,List.mem_append]at hx
 rcases hx with (((h1 |h1) |h1) |h1) |h1
 ·exact putN_bytes _ _ _ x h1
 ·exact putN_bytes _ _ _ x h1
 ·exact putN_bytes _ _ _ x h1
 ·simp only [allN,List.mem_flatMap]at h1
  obtain ⟨a,ha,hxa⟩:=h1
  unfold oneN at hxa
  cases leaf
  ·simp only [Bool.false_eq_true,if_false,List.mem_append]at hxa
   rcases hxa with h2 |h2
   ·exact putN_bytes _ _ _ x h2
   ·exact varN_bytes _ x h2
  ·simp only [if_true,List.mem_append]at hxa
   rcases hxa with ((h2 |h2) |h2) |h2
   ·exact varN_bytes _ x h2
   ·exact varN_bytes _ x h2
   ·exact (h a ha).by8 x h2
   ·cases hs:spillB a with
    | true=>rw [hs]at h2;simp only [if_true]at h2;exact putN_bytes _ _ _ x h2
    | false=>rw [hs]at h2;simp at h2
 ·simp only [zs]at h1
  have:=List.eq_of_mem_replicate h1
  omega
end Cel
namespace Cel
open Go.RowKit
end Cel
namespace Cel
open Go.RowKit
end Cel
namespace Cel
open Go.RowKit
def okP(n:Nat)(xs:List Nat):Bool:=decide (n=512)&&isP xs
theorem parse_no(ao:Option Addr)(n cap:Nat)(xs:List Nat)(w:World)(h:Rd w ao n cap xs)(hx:∀ x∈xs,x<256)(hp:okP n xs=false) :
  Calls Tryz.prog 116 #[.slice ao n cap] w fun e w'=>e=.returned (.tuple #[.agg #[.bool false,.int .i64 0,.slice none 0 0],.int .i64 9])∧Below w.heap.size w w':=by
 by_cases hn:n=512
 ·subst hn
  have hi:isP xs=false:=by simpa [okP] using hp
  refine (parse_page ao cap xs w h hx).mono fun e w' ⟨hb,hc⟩=>?_
  rcases hc with ⟨_,he⟩ | ⟨hi2,_⟩
  ·exact ⟨he,hb⟩
  ·rw [hi]at hi2;cases hi2
 ·exact parse_len ao n cap w hn
theorem parse_yes(ao:Option Addr)(n cap:Nat)(xs:List Nat)(w:World)(h:Rd w ao n cap xs)(hx:∀ x∈xs,x<256)(hp:okP n xs=true) :
  Calls Tryz.prog 116 #[.slice ao n cap] w fun e w'=>∃ co cn cc cs,e=.returned (.tuple #[.agg #[.bool (rnL xs),.int .i64 ((r3 xs).1:Nat),.slice co cn cc],.int .i64 0])∧Pn5 w.heap.size w' co cn cc cs∧cs.map nrm=rnC xs∧Below w.heap.size w w':=by
 simp only [okP,Bool.and_eq_true,decide_eq_true_eq]at hp
 obtain ⟨rfl,hi⟩:=hp
 refine (parse_page ao cap xs w h hx).mono fun e w' ⟨hb,hc⟩=>?_
 rcases hc with ⟨hi2,_⟩ | ⟨_,co,cn,cc,cs,he,hC,hm⟩
 ·rw [hi]at hi2;cases hi2
 ·exact ⟨co,cn,cc,cs,he,hC,hm,hb⟩
abbrev SA(qx q:Nat)(lx l:Bool)(rx r:Int)(ox o:Option Addr)(nx n mx m:Nat)(W:World):Prop:=
 (W.cell? ⟨qx,0,none⟩=some (.bool lx)∧W.cell? ⟨qx,1,none⟩=some (.int .i64 rx)∧W.cell? ⟨qx,2,none⟩=some (.slice ox nx mx))∧(W.cell? ⟨q,0,none⟩=some (.bool l)∧W.cell? ⟨q,1,none⟩=some (.int .i64 r)∧W.cell? ⟨q,2,none⟩=some (.slice o n m))
abbrev SB(qx:Nat)(lx:Bool)(rx:Int)(ox:Option Addr)(nx mx:Nat)(ao:Option Addr)(n cap:Nat)(sx:ByteArray)(W:World):Prop:=
 (W.cell? ⟨qx,0,none⟩=some (.bool lx)∧W.cell? ⟨qx,1,none⟩=some (.int .i64 rx)∧W.cell? ⟨qx,2,none⟩=some (.slice ox nx mx))∧(convert 48 9 (.slice ao n cap)).run Tryz.prog W=.ok (.string sx) W
abbrev SN(W:World):Prop:=W=W
end Cel
namespace Cel
open Go.RowKit
def notBelow(key:Int)(a:C):Bool:=decide (key≤a.k)
def fN(key:Int)(cs:List C):Nat:=firstN (notBelow key) cs
def fB(key:Int)(cs:List C):Bool:=if fN key cs<cs.length then (cs.getD (fN key cs) default).k == key else false
def chN(r:Int)(key:Int)(cs:List C):Int:=if fN key cs<cs.length then (cs.getD (fN key cs) default).c else r
theorem find1_any(q:Nat)(key:Int)(a:C)(W:World)(hq:W.cell? ⟨q,0,none⟩=some (.int .i64 key)) :
  Calls Tryz.prog 210 #[.agg #[.int .i64 (a).k,.int .i64 (a).c,.int .i64 (a).l,.slice (a).o (a).n (a).m,.int .i64 (a).x],.pointer (some ⟨q,0,none⟩)] W fun e w'=>e=.returned (.bool (notBelow key a))∧Below W.heap.size W w':=by
 have hlt:=lt_cell hq
 simp only at hlt
 unfold notBelow
 by_cases h:key≤a.k
 ·rw [show decide (key≤a.k)=true by simpa using h]
  go_enter Tryz.func210,Tryz.ntmps210
  go_wp2
  go_ret
  exact ⟨rfl,ext1 _⟩
 ·rw [show decide (key≤a.k)=false by simpa using h]
  have h2:a.k<key:=by omega
  clear h
  go_enter Tryz.func210,Tryz.ntmps210
  go_wp2
  go_ret
  exact ⟨by simp<;>omega,ext1 _⟩
abbrev SF(q q2 b o n m op:Nat)(key k:Int)(W:World):Prop:=
 W.cell? ⟨q,2,none⟩=some (.slice (some ⟨b,o,none⟩) n m)∧W.cell? ⟨q2,0,none⟩=some (.int .i64 key)∧W.cell? ⟨b,op,none⟩=some (.int .i64 k)
theorem find_any(leaf:Bool)(r:Int)(co:Option Addr)(cn cc:Nat)(cs:List C)(key:Int)(w:World)(h:Cs w co cn cc cs)(hcn:cn≤100000) :
  Calls Tryz.prog 147 #[.agg #[.bool leaf,.int .i64 r,.slice co cn cc],.int .i64 key] w fun e w'=>e=.returned (.tuple #[.int .i64 (fN key cs:Nat),.bool (fB key cs)])∧Below w.heap.size w w':=by
 obtain ⟨w2,hw2⟩:∃ w2,w2=(w.alloc (.cells #[.bool leaf,.int .i64 r,.slice co cn cc] 111)).alloc (.cells #[.int .i64 key] 3):=⟨_,rfl⟩
 have B2:Below w.heap.size w w2:=by rw [hw2];exact gt (ext1 _) (ext1 _)
 have N2:NB 111 w2 w.heap.size leaf r co cn cc:=by rw [hw2];exact (NB.new 111 w leaf r co cn cc).keep (ext1 _)
 have K2:w2.cell? ⟨w.heap.size+1,0,none⟩=some (.int .i64 key):=by
  rw [hw2]
  simp
 have ci:=hid (index_48 (notBelow key) (w.heap.size+1) co cn cc cs w2 (h.keep B2) hcn (fun W a hb _=>find1_any _ key a W (keep_old hb K2)))
 have hle:=firstN_le (notBelow key) cs
 have hl:=h.len
 have h':=hid h
 have B2':=hid B2;have N2':=hid N2;have K2':=hid K2;have hw2':=hid hw2.symm
 obtain ⟨u0,u1,u2⟩:=N2.cells
 obtain ⟨F,hF⟩:∃ F,F=fN key cs:=⟨_,rfl⟩
 obtain ⟨V,hV⟩:∃ V,V=fB key cs:=⟨_,rfl⟩
 rw [←hF,←hV]
 unfold fB at hV
 rw [←hF]at hV
 unfold ixN at ci
 have hF2:firstN (notBelow key) cs=F:=hF.symm
 rw [hF2]at ci hle
 clear h B2 N2 hw2 hF hF2 K2
 by_cases hlt:F<cs.length
 ·rw [if_pos hlt]at ci hV
  have hFn:F<cn:=by omega
  obtain ⟨b,off,rfl,hc⟩:=h'.out.at_ (by omega)
  have x0:=(hc F hFn).1
  generalize cs.getD F default=a at *
  have X0:=hid x0
  replace hV:=hid hV
  clear hc x0 hle hl hlt
  go_enter Tryz.func147,Tryz.ntmps147
  go_upto_region 4 with (go_at_call 209;rw [hw2'.out];refine ci.out.mono ?_;rintro e w3 ⟨rfl,hb⟩;have B3:=hid hb;clear hb u0 u1 u2)
  have g1:SF w.heap.size (w.heap.size+1) b off cn cc (off+F*5) key a.k w3.drew:=⟨(N2'.out.keep B3.out).cells.2.2,keep_old B3.out K2'.out,keep_old (gt B2'.out B3.out) X0.out⟩
  refine wp_region_K (S:=SF w.heap.size (w.heap.size+1) b off cn cc (off+F*5) key a.k) (fun _=>false) (by kernel_rfl) (g1) (fun hHeld=>?_)
  refine gkp 0 ?_
  refine gkp 1 ?_
  refine gkt 2 ?_ (h:=by intro W hSw;obtain ⟨y0,y1,y2⟩:=hSw;go_simp;first |done |with_reducible rfl)
  refine gkp 3 ?_
  refine gkp 4 ?_
  refine gkp 5 ?_
  refine gkt 6 ?_ (h:=by intro W hSw;obtain ⟨y0,y1,y2⟩:=hSw;go_simp;first |done |with_reducible rfl)
  refine gkt 7 ?_ (h:=by intro W hSw;obtain ⟨y0,y1,y2⟩:=hSw;go_simp;first |done |with_reducible rfl)
  refine gkp 8 ?_
  refine gkp 9 ?_
  refine gkp 10 ?_
  refine wpAnyK_done (by kernel_rfl) ?_ _
  go_wp2
  go_ret2
  exact ⟨by rw [hV.out];rfl,(gt B2'.out B3.out).drew⟩
 ·rw [if_neg hlt]at ci hV
  obtain rfl:F=cn:=by omega
  subst hV
  clear hle hl hlt
  go_enter Tryz.func147,Tryz.ntmps147
  go_wp2_with (go_at_call 209;rw [hw2'.out];refine ci.out.mono ?_;rintro e w3 ⟨rfl,hb⟩;have B3:=hid hb;clear u0 u1 u2;obtain ⟨u0,u1,u2⟩:=(N2'.out.keep hb).cells;clear hb)
  go_ret2
  exact ⟨rfl,gt B2'.out B3.out⟩
abbrev SC(q b o n m op:Nat)(k:Int)(W:World):Prop:=
 W.cell? ⟨q,2,none⟩=some (.slice (some ⟨b,o,none⟩) n m)∧W.cell? ⟨b,op,none⟩=some (.int .i64 k)
abbrev SR(q:Nat)(r:Int)(W:World):Prop:=W.cell? ⟨q,1,none⟩=some (.int .i64 r)
theorem child_any(leaf:Bool)(r:Int)(co:Option Addr)(cn cc:Nat)(cs:List C)(key:Int)(w:World)(h:Cs w co cn cc cs)(hcn:cn≤100000) :
  Calls Tryz.prog 177 #[.agg #[.bool leaf,.int .i64 r,.slice co cn cc],.int .i64 key] w fun e w'=>e=.returned (.tuple #[.int .i64 (fN key cs:Nat),.int .i64 (chN r key cs)])∧Below w.heap.size w w':=by
 have B0:Hid (Below w.heap.size w (w.alloc (.cells #[.bool leaf,.int .i64 r,.slice co cn cc] 111))):=hid (ext1 _)
 have N0:=hid (NB.new 111 w leaf r co cn cc)
 have cf:=hid (find_any leaf r co cn cc cs key _ (h.keep B0.out) hcn)
 have hle:=firstN_le (notBelow key) cs
 have hl:=h.len
 have h':=hid h
 obtain ⟨F,hF⟩:∃ F,F=fN key cs:=⟨_,rfl⟩
 obtain ⟨V,hV⟩:∃ V,V=chN r key cs:=⟨_,rfl⟩
 rw [←hF,←hV]
 unfold chN at hV
 rw [←hF]at hV cf
 rw [show firstN (notBelow key) cs=F from hF.symm]at hle
 generalize fB key cs=FB at *
 clear h hF
 by_cases hlt:F<cs.length
 ·rw [if_pos hlt]at hV
  have hFn:F<cn:=by omega
  have hne:((F:Int) == (cn:Int))=false:=by simp;omega
  obtain ⟨b,off,rfl,hc⟩:=h'.out.at_ (by omega)
  have x1:=(hc F hFn).2.1
  generalize cs.getD F default=a at *
  have X1:=hid x1
  subst hV
  clear hc x1 hle hl hlt
  go_enter Tryz.func177,Tryz.ntmps177
  go_upto_region 4 with (go_at_call 147;refine cf.out.mono ?_;rintro e w3 ⟨rfl,hb⟩;have B3:=hid hb;obtain ⟨u0,u1,u2⟩:=(N0.out.keep hb).cells;clear hb)
  have g1:SC w.heap.size b off cn cc (off+F*5+1) a.c w3.drew:=⟨(N0.out.keep B3.out).cells.2.2,keep_old (gt B0.out B3.out) X1.out⟩
  refine wp_region_K (S:=SC w.heap.size b off cn cc (off+F*5+1) a.c) (fun _=>false) (by kernel_rfl) (g1) (fun hHeld=>?_)
  refine gkp 0 ?_
  refine gkp 1 ?_
  refine gkt 2 ?_ (h:=by intro W hSw;obtain ⟨y0,y1⟩:=hSw;go_simp;first |done |with_reducible rfl)
  refine gkp 3 ?_
  refine gkp 4 ?_
  refine gkp 5 ?_
  refine gkt 6 ?_ (h:=by intro W hSw;obtain ⟨y0,y1⟩:=hSw;go_simp;first |done |with_reducible rfl)
  refine gkp 7 ?_
  refine gkp 8 ?_
  refine wpAnyK_done (by kernel_rfl) ?_ _
  go_wp2
  go_ret2
  exact ⟨rfl,(gt B0.out B3.out).drew⟩
 ·rw [if_neg hlt]at hV
  obtain rfl:F=cn:=by omega
  subst hV
  clear hle hl hlt
  go_enter Tryz.func177,Tryz.ntmps177
  go_upto_region 3 with (go_at_call 147;refine cf.out.mono ?_;rintro e w3 ⟨rfl,hb⟩;have B3:=hid hb;obtain ⟨u0,u1,u2⟩:=(N0.out.keep hb).cells;clear hb)
  have g1:SR w.heap.size V w3.drew:=(N0.out.keep B3.out).cells.2.1
  refine wp_region_K (S:=SR w.heap.size V) (fun _=>false) (by kernel_rfl) (g1) (fun hHeld=>?_)
  refine gkp 0 ?_
  refine gkp 1 ?_
  refine gkt 2 ?_ (h:=by intro W hSw;have y0:=hSw;go_simp;first |done |with_reducible rfl)
  refine gkp 3 ?_
  refine gkp 4 ?_
  refine wpAnyK_done (by kernel_rfl) ?_ _
  go_wp2
  go_ret2
  exact ⟨rfl,(gt B0.out B3.out).drew⟩
abbrev SK(q:Nat)(k:Int)(W:World):Prop:=W.cell? ⟨q,0,none⟩=some (.int .i64 k)
end Cel
namespace Jrn
def tx(a:Nat):Nat:=if a % 2=0 then a/2 else (a/2) ^^^ 2197175160
theorem xor4(a b c d:Nat):(a ^^^ b) ^^^ (c ^^^ d)=(a ^^^ c) ^^^ (b ^^^ d):=by
 rw [Nat.xor_assoc,Nat.xor_assoc,←Nat.xor_assoc b c d,←Nat.xor_assoc c b d,Nat.xor_comm b c]
variable {a:Nat}
theorem xor_lt{b:Nat}(ha:a<4294967296)(hb:b<4294967296):a ^^^ b<4294967296:=Nat.xor_lt_two_pow (n:=32) ha hb
theorem tx_xor(a b:Nat):tx (a ^^^ b)=tx a ^^^ tx b:=by
 have h2:(a ^^^ b)/2=a/2 ^^^ b/2:=Nat.xor_div_two
 have hm:(a ^^^ b) % 2=(a+b) % 2:=by
  have h1:(a ^^^ b) % 2=1↔¬(a % 2=1↔b % 2=1):=Nat.xor_mod_two_eq_one
  rcases Nat.mod_two_eq_zero_or_one (a ^^^ b) with h |h<;>rw [h]at h1<;>omega
 unfold tx
 rw [h2,hm]
 rcases Nat.mod_two_eq_zero_or_one a with ha |ha<;>rcases Nat.mod_two_eq_zero_or_one b with hb |hb
 ·rw [if_pos (by omega),if_pos ha,if_pos hb]
 ·rw [if_neg (by omega),if_pos ha,if_neg (by omega),Nat.xor_assoc]
 ·rw [if_neg (by omega),if_neg (by omega),if_pos hb,Nat.xor_assoc,Nat.xor_assoc,Nat.xor_comm (b/2)]
 ·rw [if_pos (by omega),if_neg (by omega),if_neg (by omega),xor4,Nat.xor_self,Nat.xor_zero]
theorem tx_lt(h:a<4294967296):tx a<4294967296:=by
 unfold tx
 split
 ·omega
 ·exact xor_lt (by omega) (by decide)
theorem tx_two(b:Nat):tx (2*b)=b:=by
 unfold tx
 rw [if_pos (by omega)];omega
def txn:Nat→Nat→Nat
 | 0,a=>a
 | k+1,a=>txn k (tx a)
theorem txn_xor(k a b:Nat):txn k (a ^^^ b)=txn k a ^^^ txn k b:=by
 induction k generalizing a b with
 | zero=>rfl
 | succ k ih=>simp only [txn];rw [tx_xor,ih]
theorem txn_lt(k:Nat){a:Nat}(h:a<4294967296):txn k a<4294967296:=by
 induction k generalizing a with
 | zero=>exact h
 | succ k ih=>exact ih (tx_lt h)
theorem txn_add(j k a:Nat):txn (j+k) a=txn j (txn k a):=by
 induction k generalizing a with
 | zero=>rfl
 | succ k ih=>rw [←Nat.add_assoc];simp only [txn];exact ih (tx a)
theorem txn_shift(k b:Nat):txn k (2 ^ k*b)=b:=by
 induction k with
 | zero=>simp [txn]
 | succ k ih=>rw [Nat.pow_succ,Nat.mul_comm _ 2,Nat.mul_assoc];simp only [txn];rw [tx_two,ih]
theorem txn_four(r:Nat):txn 4 r=r/16 ^^^ txn 4 (r % 16):=by
 have e:r=(2 ^ 4*(r/16)) ^^^ (r % 16):=by
  have h1:r % 16<2 ^ 4:=by omega
  have h2:=Nat.two_pow_add_eq_or_of_lt h1 (r/16)
  have h3:2 ^ 4*(r/16) &&& r % 16=0:=by
   apply Nat.eq_of_testBit_eq
   intro i
   rw [Nat.testBit_and,Nat.testBit_two_pow_mul,Nat.zero_testBit]
   by_cases hi:4≤i
   ·rw [Nat.testBit_lt_two_pow (Nat.lt_of_lt_of_le h1 (Nat.pow_le_pow_right (by omega) hi))];simp
   ·simp [hi]
  have h4:2 ^ 4*(r/16) ^^^ r % 16=2 ^ 4*(r/16) |||r % 16:=by
   apply Nat.eq_of_testBit_eq
   intro i
   have:=congrArg (fun n=>n.testBit i) h3
   simp only [Nat.testBit_and,Nat.zero_testBit]at this
   rw [Nat.testBit_xor,Nat.testBit_or]
   revert this
   cases (2 ^ 4*(r/16)).testBit i<;>cases (r % 16).testBit i<;>simp
  rw [h4,←h2];omega
 conv=>lhs;rw [e,txn_xor,txn_shift]
def byte(r c:Nat):Nat:=txn 8 (r ^^^ c)
def fold:Nat→List Nat→Nat
 | r,[]=>r
 | r,c::cs=>fold (byte r c) cs
theorem fold_cons(r c:Nat)(cs:List Nat):fold r (c::cs)=fold (byte r c) cs:=rfl
variable {r:Nat}
theorem byte_lt{c:Nat}(h:r<4294967296)(hc:c<256):byte r c<4294967296:=txn_lt 8 (xor_lt h (by omega))
theorem fold_lt(h:r<4294967296){xs:List Nat}(hx:∀ x∈xs,x<256):fold r xs<4294967296:=by
 induction xs generalizing r with
 | nil=>exact h
 | cons c cs ih=>exact ih (byte_lt h (hx c (by simp))) fun x hx'=>hx x (by simp [hx'])
def addN(s:Nat)(xs:List Nat):Nat:=fold (s ^^^ 4294967295) xs ^^^ 4294967295
theorem addN_lt{s:Nat}(h:s<4294967296){xs:List Nat}(hx:∀ x∈xs,x<256):addN s xs<4294967296:=xor_lt (fold_lt (xor_lt h (by decide)) hx) (by decide)
end Jrn
namespace Jrn
open Go.RowKit
variable {w:World}
theorem gt{a b:World}(h:Below w.heap.size w a)(k:Below a.heap.size a b):Below w.heap.size w b:=h.trans (k.mono h.size)
theorem hid{p:Prop}(h:p):Hid p:=h
theorem lt_cell{a:Addr}{v:Value}(h:w.cell? a=some v):a.block<w.heap.size:=by
 rcases Nat.lt_or_ge a.block w.heap.size with h1 |h1
 ·exact h1
 ·exfalso
  have h2:w.heap[a.block]? = none:=Array.getElem?_eq_none h1
  simp [World.cell?,h2]at h
variable {w':World} {B:Nat}
theorem keep_cell(h:Below B w w'){a:Addr}{v:Value}(hc:w.cell? a=some v)(hB:a.block<B):w'.cell? a=some v:=by
 rw [World.cell?_of_block (h.block a.block hB)];exact hc
theorem keep_old(h:Below w.heap.size w w'){a:Addr}{v:Value}(hc:w.cell? a=some v):w'.cell? a=some v:=keep_cell h hc (lt_cell hc)
theorem keep_frozen(h:Below B w w'){a:Addr}(hB:a.block<B):w'.frozen? a=w.frozen? a:=World.frozen?_of_block (h.block a.block hB)
def bs(xs:List Nat):List Value:=xs.map fun x:Nat=>Value.int .u8 (x:Int)
def str(xs:List Nat):ByteArray:=⟨(xs.map UInt8.ofNat).toArray⟩
theorem bs_length(xs:List Nat):(bs xs).length=xs.length:=by simp [bs]
theorem bs_append(xs ys:List Nat):bs (xs++ys)=bs xs++bs ys:=by simp [bs]
theorem bs_one(xs:List Nat):∀ u∈bs xs,u.oneCell'=true:=by
 intro u hu
 obtain ⟨x,_,rfl⟩:=List.mem_map.1 hu
 rfl
theorem bs_get(xs:List Nat)(t:Nat)(h:t<xs.length):(bs xs)[t]? = some (.int .u8 ((xs.getD t 0:Nat):Int)):=by
 simp [bs,List.getElem?_map,List.getElem?_eq_getElem h,List.getD]
theorem bs_get'(xs:List Nat)(t:Nat)(u:Value)(h:(bs xs)[t]? = some u):t<xs.length∧u=.int .u8 ((xs.getD t 0:Nat):Int):=by
 have hl:t<xs.length:=by
  have:=(List.getElem?_eq_some_iff.1 h).1
  simpa [bs] using this
 rw [bs_get xs t hl]at h
 exact ⟨hl,(Option.some.inj h).symm⟩
def Rd(w:World)(ao:Option Addr)(n cap:Nat)(xs:List Nat):Prop:=
 xs.length=n∧n≤cap∧(ao=none→n=0∧cap=0) ∧
  (0<n→∃ b off,ao=some ⟨b,off,none⟩∧∀ t,t<n→w.cell? ⟨b,off+t,none⟩=some (.int .u8 ((xs.getD t 0:Nat):Int)))
variable {xs:List Nat} {n cap:Nat} {ao:Option Addr}
theorem Rd.keep(h:Rd w ao n cap xs)(hb:Below w.heap.size w w'):Rd w' ao n cap xs:=by
 refine ⟨h.1,h.2.1,h.2.2.1,fun hn=>?_⟩
 obtain ⟨b,off,e,hc⟩:=h.2.2.2 hn
 exact ⟨b,off,e,fun t ht=>keep_old hb (hc t ht)⟩
variable {g:Nat}
theorem rd_own(h:w.ownsRow B 5 1 (.slice (some ⟨g,0,none⟩) n cap) n (bs xs)):Rd w (some ⟨g,0,none⟩) n cap xs:=by
 have hl:xs.length=n:=by simpa [bs] using h.1
 refine ⟨hl,?_,fun h=>(by cases h),fun _=>⟨g,0,rfl,fun t ht=>?_⟩⟩
 ·rcases h.2 with ⟨h',_⟩ | ⟨g',cap',cur,h',_,_,hnc,_⟩
  ·simp at h'
  ·simp only [Value.slice.injEq,Option.some.injEq,Addr.mk.injEq,and_true,true_and]at h'
   rw [h'.2];exact hnc
 ·rw [Nat.zero_add,h.cellAt t (by omega),bs_get xs t (by omega)]
theorem conv_rd{P:Program}(h:Rd w ao n cap xs)(src dst e:TypeId)(hs:P.underlying src=some (.slice e))(he:P.underlying e=some (.int .u8))(hd:P.underlying dst=some .string) :
  (convert src dst (.slice ao n cap)).run P w=.ok (.string (str xs)) w:=by
 obtain ⟨hl,hc,hno,hat⟩:=h
 rcases Nat.eq_zero_or_pos n with h0 |hp
 ·subst h0
  obtain rfl:xs = []:=List.eq_nil_of_length_eq_zero hl
  cases ao with
  | none=>rw [run_convert_bytes_nil w src e hs he 0 cap dst hd];rfl
  | some a=>
   rw [run_convert_bytes_string w src dst e (some a) 0 cap hs he hd,run_bytesToString w a 0 cap [] (run_loadCells_list (P:=P) w a [] (fun j v hj=>by simp at hj))]
   rfl
 ·obtain ⟨b,off,rfl,hcell⟩:=hat hp
  rw [run_convert_bytes_arg w src e hs he b off n cap (xs.map fun x:Nat=>(x:Int)) (by simpa using hl) (fun i hi=>by
   rw [hcell i hi]
   simp [List.getD,List.getElem?_map,List.getElem?_eq_getElem (show i<xs.length by omega)]) dst hd]
  simp [strOfNums,str,Function.comp_def]
theorem Tryz.info5:(Tryz.prog.info? 5).map (fun i=>(i.zero,i.size,i.bytes))=some (some (.int .u8 0),1,1):=by kernel_rfl
theorem make_any(n cap:Nat)(h:n≤cap)(hc:cap≤281474976710656)(w:World) :
  (Instr.makeSlice 48 (.int .i64 (n:Int)) (.int .i64 (cap:Int))).run Tryz.prog w=.ok (.slice (some ⟨w.heap.size,0,none⟩) n cap) (w.alloc (.cells (Array.replicate cap (.int .u8 0)) 5)):=by
 obtain ⟨i,hi,hz0,hz1,hz2⟩:=info_parts Tryz.info5
 have hr:=run_make (P:=Tryz.prog) w 48 5 i (.int .u8 0) Tryz.underlying48 hi hz0 .i64 .i64 n cap (by omega) (by omega) (by rw [hz2];omega) (by omega)
 simp only [Int.toNat_natCast,hz1,Nat.mul_one]at hr
 rw [hr,show Array.replicate cap (Value.int .u8 0)=(List.replicate cap (Value.int .u8 0)).toArray by simp,←toList_madeCells_one,Array.toArray_toList]
 rfl
theorem own_of_row{cur:List Value}(hB:B≤g)(hg:w.heap[g]? = some (.cells cur.toArray 5 (0,0)))(hcap:cur.length=cap)(hm:cap≤9223372036854775807)
  (hx:cur.take n=bs xs) (hn:xs.length=n) (hnc:n≤cap):w.ownsRow B 5 1 (.slice (some ⟨g,0,none⟩) n cap) n (bs xs):=
 ⟨by simp [bs,hn],.inr ⟨g,cap,cur.toArray,rfl,hB,hg,hnc,hm,by simp [hcap],by simpa using hx⟩⟩
theorem splice_zero(n m:Nat)(xs:List Nat)(h:xs.length=n):(splice (List.replicate (n+m) (Value.int .u8 0)) 0 (bs xs)).take n=bs xs:=by
 have hl:(bs xs).length=n:=by simp [bs,h]
 simp [splice,List.take_append_of_le_length (Nat.le_of_eq hl.symm),List.take_of_length_le (Nat.le_of_eq hl)]
theorem here_op(k:Nat){P:Program}{ops:Array Oper}{Q:Exit→Act→World→Prop}{a:Act}{w:World}{rest:List Oper}{op:Op}{t:TypeId}{pos:String}{after:Array Edge}{gd:Option (Nat×Bool)}
  (h:wpList P ops Q (⟨some k,op,t,pos,after,gd⟩::rest) a w):wpList P ops Q (⟨some k,op,t,pos,after,gd⟩::rest) a w:=h
theorem copy_hg(w:World)(k:Nat):(w.alloc (.cells (Array.replicate k (.int .u8 0)) 5)).heap[w.heap.size]? = some (.cells (List.replicate k (Value.int .u8 0)).toArray 5 (0,0)):=by
 rw [heap_alloc_new];simp
theorem copy_hn(h:Rd w ao n cap xs):(bs xs).length=Nat.min n n:=by
 rw [bs_length,h.1];exact (Nat.min_self n).symm
theorem copy_hpos(h:Rd w ao n cap xs){o:Obj}:0<(bs xs).length→some (⟨w.heap.size,0,none⟩:Addr)=some ⟨w.heap.size,0,none⟩∧∃ ad,ao=some ad∧∀ j v,(bs xs)[j]? = some v→(w.alloc o).cell? (ad.add j)=some v:=by
 intro hp
 rw [bs_length,h.1]at hp
 obtain ⟨b,off,rfl,hc⟩:=h.2.2.2 hp
 refine ⟨rfl,_,rfl,fun j v hv=>?_⟩
 obtain ⟨hj,rfl⟩:=bs_get' xs j v hv
 rw [Addr.add_lit]
 exact keep_old (Below.alloc (Below.refl _ _) (Nat.le_refl _) o) (hc j (by have:=h.1;omega))
theorem widened_any(ao:Option Addr)(n cap m:Nat)(xs:List Nat)(w:World)(h:Rd w ao n cap xs)(hm:n+m≤281474976710656) :
  Calls Tryz.prog 291 #[.slice ao n cap,.int .i64 (m:Int)] w fun e w'=>e=.returned (.slice (some ⟨w.heap.size,0,none⟩) n (n+m)) ∧
   w'.ownsRow w.heap.size 5 1 (.slice (some ⟨w.heap.size,0,none⟩) n (n+m)) n (bs xs)∧Below w.heap.size w w':=by
 have hmk:=make_any n (n+m) (by omega) hm
 have e1:((n+m:Nat):Int)=(n:Int)+(m:Int):=by omega
 rw [e1]at hmk
 have hr:=hid h
 clear e1 h
 go_enter Tryz.func291,Tryz.ntmps291
 go_wp2_with ((with_reducible refine here_op 15 ?_);refine wpList_copy_splice rfl (.tmp 13) (.tmp 14) 48 48 rfl 5 Tryz.underlying48 (by kernel_rfl) _ _ _ _ _ _ rfl rfl w.heap.size 0 (List.replicate (n+m) (.int .u8 0)) 5 (copy_hg w (n+m)) (bs xs) (copy_hn hr.out) (copy_hpos hr.out) (by simp [bs,hr.out.1]) (bs_one xs) w.heap.size w (Below.alloc (Below.refl _ _) (Nat.le_refl _) _) (Nat.le_refl _) ?_;intro w2 hg2 hb2)
 go_ret
 exact ⟨rfl,own_of_row (Nat.le_refl _) hg2.out (by rw [length_splice _ _ _ (by simp [bs,hr.out.1])];simp) (by omega) (splice_zero n m xs hr.out.1) hr.out.1 (by omega),hb2⟩
def Tab(w:World):Prop:=∀ k:Nat,k<16→w.cell? ⟨0,k,none⟩=some (.int .u32 ((txn 4 k:Nat):Int))
theorem Tab.keep(h:Tab w)(hb:Below w.heap.size w w'):Tab w':=fun k hk=>keep_old hb (h k hk)
end Jrn
namespace Jrn
open Go.RowKit
theorem sized_any(s:Int)(w:World):Calls Tryz.prog 293 #[.int .i64 s] w fun e w'=>e=.returned (.bool (decide (1≤s)&&decide (s≤8)))∧w'=w:=by
 by_cases h:1≤s<;>by_cases h':s≤8
 all_goals
  go_enter Tryz.func293,Tryz.ntmps293
  go_wp2
  go_ret
  simp [h,h']
theorem shift_little(i s:Nat)(w:World)(h:i<8) :
  Calls Tryz.prog 304 #[.int .i64 i,.int .i64 s,.bool true] w fun e w'=>e=.returned (.int .i64 (8*(i:Int)))∧w'=w:=by
 go_enter Tryz.func304,Tryz.ntmps304
 go_wp2
 go_ret
 exact ⟨rfl,rfl⟩
theorem shift_big(i s:Nat)(w:World)(h:i<s)(h':s≤8) :
  Calls Tryz.prog 304 #[.int .i64 i,.int .i64 s,.bool false] w fun e w'=>e=.returned (.int .i64 (8*((s - 1 - i:Nat):Int)))∧w'=w:=by
 obtain ⟨j,hj⟩:∃ j:Nat,s=i+1+j:=⟨s - 1 - i,by omega⟩
 subst hj
 rw [show i+1+j - 1 - i=j by omega]
 go_enter Tryz.func304,Tryz.ntmps304
 go_wp2
 go_ret
 refine ⟨?_,rfl⟩
 simp
 omega
def up(F:Nat→Nat)(i:Nat):Nat→List Nat
 | 0=>[]
 | k+1=>F i::up F (i+1) k
def place(l:Bool)(s i:Nat):Nat:=if l then i else s - 1 - i
def putN(v s:Nat)(l:Bool):List Nat:=up (fun i=>v/2 ^ (8*place l s i) % 256) 0 s
theorem up_length(F:Nat→Nat)(i k:Nat):(up F i k).length=k:=by
 induction k generalizing i with
 | zero=>rfl
 | succ k ih=>simp [up,ih]
theorem shift_any(i s:Nat)(l:Bool)(w:World)(h:i<s)(h':s≤8) :
  Calls Tryz.prog 304 #[.int .i64 i,.int .i64 s,.bool l] w fun e w'=>e=.returned (.int .i64 ((8*place l s i:Nat):Int))∧w'=w:=by
 cases l with
 | true=>simpa [place] using shift_little i s w (by omega)
 | false=>simpa [place] using shift_big i s w h h'
theorem shr_nat(v c:Nat)(yk:IntKind)(h:c≤64):Op.shift .shr .u64 (v:Int) yk (c:Int)=pure (.int .u64 ((v/2 ^ c:Nat):Int)):=by
 rw [shift_shr_any _ _ _ _ (by omega)]
 simp [IntKind.bits,Nat.min_eq_left h]
theorem shl_nat(v c:Nat)(yk:IntKind)(h:c≤64):Op.shift .shl .u64 (v:Int) yk (c:Int)=pure (.int .u64 (IntKind.u64.wrap ((v*2 ^ c:Nat):Int))):=by
 rw [shift_shl_any _ _ _ _ (by omega)]
 simp [IntKind.bits,Nat.min_eq_left h]
theorem shift_named(v i s:Nat)(l:Bool)(h:i<s)(h':s≤8):∃ (sh:Int) (q:Nat),(∀ w,Calls Tryz.prog 304 #[.int .i64 i,.int .i64 s,.bool l] w fun e w'=>e=.returned (.int .i64 sh)∧w'=w) ∧
  Op.shift .shr .u64 (v:Int) .i64 sh=pure (.int .u64 (q:Int))∧Op.shift .shl .u64 (v:Int) .i64 sh=pure (.int .u64 (IntKind.u64.wrap ((v*2 ^ (8*place l s i):Nat):Int)))∧q=v/2 ^ (8*place l s i):=by
 refine ⟨((8*place l s i:Nat):Int),v/2 ^ (8*place l s i),fun w=>shift_any i s l w h h',?_,?_,rfl⟩
 ·exact shr_nat v _ _ (by unfold place;split<;>omega)
 ·exact shl_nat v _ _ (by unfold place;split<;>omega)
end Jrn
end Go.Proofs.YtfcikkechphmaaaGreatDoor
