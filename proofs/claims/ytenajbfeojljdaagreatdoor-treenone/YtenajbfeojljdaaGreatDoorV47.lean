/- slices.Delete of one of a row of cells, and slices.Insert behind the last; no statement of the seat is proved here. -/
import Derived.Test.YtenajbfeojljdaaGreatDoorV46
import Derived.Deep.RegionLaw
import Derived.Deep.AppendLies
set_option maxHeartbeats 16000000
set_option maxRecDepth 20000
namespace Go.Proofs.YtenajbfeojljdaaGreatDoor
namespace Tre
open Go.RowKit Go.Maps
open Dsk (gt hid undrew keep_old keep_cell lt_cell newD)
open Cch (Fr wpAnyK wpAnyK_done wp_region_K hd_cell hd_frozen blk_set)
open Cel (C Cs Cok NB At5 ext1 below_set I64 nrm hasN pageN cv)
variable {e:TypeId} {b:Nat}
theorem setCells_list:∀ (vs:List Value) (o:Nat) (w:World) (cur:Array Value),w.heap[b]? = some (.cells cur e (0,0))→o+vs.length≤cur.size→∃ cur',(w.setCells b o vs).heap[b]? = some (.cells cur' e (0,0))∧cur'.size=cur.size∧cur'.toList=cur.toList.take o++vs++cur.toList.drop (o+vs.length)∧Fr (fun k=>k=b) w (w.setCells b o vs)
 | [],o,w,cur,h,_=>⟨cur,h,rfl,by simp,Fr.refl _ _⟩
 | v::r,o,w,cur,h,hl=>by
  have hl':o+(r.length+1)≤cur.toList.length:=by simpa using hl
  have h1:(w.setCell ⟨b,o,none⟩ v).heap[b]? = some (.cells (cur.setIfInBounds o v) e (0,0)):=by
   simp [World.setCell,Array.getElem?_modify,h]
  obtain ⟨cur',h2,h3,h4,h5⟩:=setCells_list r (o+1) (w.setCell ⟨b,o,none⟩ v) _ h1 (by simp at hl ⊢;omega)
  refine ⟨cur',h2,by rw [h3];simp,?_,((Fr.of_below (S:=fun k=>k=b) (Below.refl _ _)).set (Or.inl rfl) _).trans h5 (fun _ _ h=>h)⟩
  rw [h4,Array.toList_setIfInBounds]
  generalize cur.toList=L at *
  have e1:(L.set o v).take (o+1)=L.take o++[v]:=by
   rw [List.take_succ_eq_append_getElem (by simp;omega)]
   rw [List.take_set_of_le (Nat.le_refl _)]
   simp
  have e2:(L.set o v).drop (o+1+r.length)=L.drop (o+(r.length+1)):=by
   rw [List.drop_set_of_lt (by omega)]
   congr 1;omega
  rw [e1,e2]
  simp
theorem clear5(w:World)(b o n c:Nat)(hn:0<n)(hc:∀ j,j<n*5→(w.cell? ⟨b,o+j,none⟩).isSome=true)(hf:∀ j,j<n*5→w.frozen? ⟨b,o+j,none⟩=false)(ty:TypeId) :
  ∃ Z:List Value,Z.length=n*5∧(Builtin.clear_ #[80] ty #[.slice (some ⟨b,o,none⟩) n c]).run Tryz.prog w=.ok (.tuple #[]) (w.setCells b o Z):=by
 obtain ⟨Z,hZ⟩:∃ Z,Z=(Builtin.zeroCells (Value.agg #[.int .i64 0,.int .i64 0,.int .i64 0,.slice none 0 0,.int .i64 0]).cells n).toList:=⟨_,rfl⟩
 have hcs:(Value.agg #[.int .i64 0,.int .i64 0,.int .i64 0,.slice none 0 0,.int .i64 0]).cells = #[.int .i64 0,.int .i64 0,.int .i64 0,.slice none 0 0,.int .i64 0]:=rfl
 have hlen:Z.length=n*5:=by rw [hZ,hcs];simp [Builtin.zeroCells]
 have hone:∀ u∈Z,u.oneCell'=true:=by
  intro u hu
  rw [hZ,hcs]at hu
  simp only [Builtin.zeroCells,Array.toList_map,List.mem_map]at hu
  obtain ⟨i,_,rfl⟩:=hu
  have h3:i % 5=0∨i % 5=1∨i % 5=2∨i % 5=3∨i % 5=4:=by omega
  have hs:(#[Value.int .i64 0,.int .i64 0,.int .i64 0,.slice none 0 0,.int .i64 0]:Array Value).size=5:=rfl
  rw [hs]
  rcases h3 with h |h |h |h |h<;>rw [h]<;>rfl
 have hst:=run_storeCells_cells (P:=Tryz.prog) b o Z 0 w (by rw [hlen];simpa using hc) (by rw [hlen];simpa using hf) hone
 simp only [Nat.add_zero]at hst
 obtain ⟨m,rfl⟩:∃ m,n=m+1:=⟨n - 1,by omega⟩
 exact ⟨Z,hlen,by simp [Builtin.clear_,run_underlying Tryz.underlying80,←hZ,hst]⟩
theorem cv_cons(a:C)(l:List C):cv (a::l)=cv [a]++cv l:=Cel.cv_append [a] l
theorem cv_one5(l:List C):∀ u∈cv l,u.oneCell'=true:=by
 induction l with
 | nil=>simp [cv]
 | cons a l ih=>
  intro u hu
  rw [cv_cons]at hu
  rcases List.mem_append.1 hu with h |h
  ·exact Cel.cv_one a u h
  ·exact ih u h
theorem cv_take(l:List C):∀ i,(cv l).take (i*5)=cv (l.take i):=by
 induction l with
 | nil=>simp [cv]
 | cons a l ih=>
  intro i
  cases i with
  | zero=>simp [cv]
  | succ i=>
   have h1:(cv [a]).length=5:=Cel.cv_length [a]
   rw [List.take_succ_cons,cv_cons a (l.take i),cv_cons a l,List.take_append,h1,show (i+1)*5 - 5=i*5 by omega,ih i,List.take_of_length_le (by rw [h1];omega)]
theorem cv_drop(l:List C):∀ i,(cv l).drop (i*5)=cv (l.drop i):=by
 induction l with
 | nil=>simp [cv]
 | cons a l ih=>
  intro i
  cases i with
  | zero=>simp
  | succ i=>
   have h1:(cv [a]).length=5:=Cel.cv_length [a]
   rw [cv_cons a l,List.drop_succ_cons,List.drop_append,h1,show (i+1)*5 - 5=i*5 by omega,ih i,List.drop_eq_nil_of_le (by rw [h1];omega)]
   simp
variable {w:World}
theorem row_parts{g n cap:Nat}{xs:List Value}{k:Nat}(h:w.ownsRow 0 e k (.slice (some ⟨g,0,none⟩) n cap) n xs):∃ cur,w.heap[g]? = some (.cells cur e (0,0))∧n≤cap∧cap≤maxLen∧cur.size=cap*k∧cur.toList.take (n*k)=xs:=by
 rcases h.2 with ⟨hv,_⟩ | ⟨g',cap',cur,hv,hb',hg,hnc,hm,hcs,ht⟩
 ·simp at hv
 ·simp only [Value.slice.injEq,Option.some.injEq,Addr.mk.injEq,and_true,true_and]at hv
  obtain ⟨rfl,rfl⟩:=hv
  exact ⟨cur,hg,hnc,hm,hcs,ht⟩
theorem delete_one(g m cap i J:Nat)(l:List C)(w:World)(hrow:w.ownsRow 0 116 5 (.slice (some ⟨g,0,none⟩) (m+1) cap) (m+1) (cv l))(hJ:J=i+1)(hi:i≤m)(hn:m≤100000)(hlen:l.length=m+1) :
  Calls Tryz.prog 109 #[.slice (some ⟨g,0,none⟩) (m+1) cap,.int .i64 (i:Int),.int .i64 (J:Int)] w fun e w'=>e=.returned (.slice (some ⟨g,0,none⟩) m cap)∧w'.ownsRow 0 116 5 (.slice (some ⟨g,0,none⟩) m cap) m (cv (l.take i++l.drop (i+1)))∧Fr (fun k=>k=g) w w':=by
 obtain ⟨cur,hg,hcapn,hmx,hcs,ht⟩:=row_parts hrow
 obtain ⟨i0,hi0,_,hi3,_⟩:=info_parts Cel.Tryz.info116
 obtain ⟨V,hV⟩:∃ V,V=cv (l.drop (i+1)):=⟨_,rfl⟩
 have hVl:V.length=(m - i)*5:=by rw [hV,Cel.cv_length,List.length_drop,hlen];congr 1;omega
 obtain ⟨w2,hw2⟩:∃ w2,w2=w.drew.setCells g (i*5) V:=⟨_,rfl⟩
 obtain ⟨cur2,k1,k2,k3,k4⟩:=setCells_list (e:=116) V (i*5) w.drew cur hg (by rw [hVl,hcs];omega)
 rw [←hw2]at k1 k4
 obtain ⟨Z,hZl,hZ⟩:∃ Z:TypeId→List Value,(∀ ty,(Z ty).length=5)∧∀ ty,(Builtin.clear_ #[80] ty #[.slice (some ⟨g,m*5,none⟩) 1 (cap - m)]).run Tryz.prog w2=.ok (.tuple #[]) (w2.setCells g (m*5) (Z ty)):=by
  have:=fun ty=>clear5 w2 g (m*5) 1 (cap - m) (by omega) (fun j hj=>by
   simp only [World.cell?,k1]
   simp;omega) (fun j hj=>by simp [World.frozen?,k1]) ty
  exact ⟨fun ty=>(this ty).choose,fun ty=>by simpa using (this ty).choose_spec.1,fun ty=>(this ty).choose_spec.2⟩
 have HI0:=hid hi0;have HI3:=hid hi3;have HG:=hid hg
 obtain ⟨AA,hAA,hAc⟩:∃ AA:Addr,(if cap=J then some (⟨g,0,none⟩:Addr) else some ⟨g,J*5,none⟩)=some AA∧∀ j u,V[j]? = some u→w.drew.cell? (AA.add j)=some u:=by
  by_cases hcj:cap=J
  ·refine ⟨⟨g,0,none⟩,by rw [if_pos hcj],fun j u hu=>?_⟩
   have:V.length=0:=by rw [hVl];omega
   rw [List.length_eq_zero_iff.1 this]at hu
   simp at hu
  ·refine ⟨⟨g,J*5,none⟩,by rw [if_neg hcj],fun j u hu=>?_⟩
   have hjl:j<V.length:=(List.getElem?_eq_some_iff.1 hu).1
   rw [hV,←cv_drop,List.getElem?_drop,←ht,List.getElem?_take_of_lt (by rw [hVl]at hjl;omega)]at hu
   show w.cell? _=_
   rw [Addr.add_lit,hJ]
   simp only [World.cell?,hg]
   simpa using hu
 have HAc:=hid hAc
 have hV1:=hid (show ∀ u∈V,u.oneCell'=true by rw [hV];exact cv_one5 _)
 have hVl':=hid hVl
 have hsp:=hid (show ∀ j,j<V.length→(w.drew.cell? ⟨g,0+i*5+j,none⟩).isSome=true∧w.drew.frozen? ⟨g,0+i*5+j,none⟩=false from fun j hj=>by
  constructor
  ·show (w.cell? _).isSome=true
   simp only [World.cell?,hg]
   simp;rw [hVl]at hj;omega
  ·show w.frozen? _=false
   simp [World.frozen?,hg])
 have n1:(0:Int)≤(i:Int):=by omega
 have n2:¬(i:Int)=(J:Int):=by omega
 have n3:(i:Int)≤(J:Int):=by omega
 have n4:(J:Int)≤((m+1:Nat):Int):=by omega
 have n5:(J:Int)≤(m:Int)+1:=by omega
 have n6:((m:Int)+1)≤(cap:Int):=by omega
 have n7:J≤cap:=by omega
 have n8:m+1≤cap:=by omega
 have hic:i≤cap:=by omega
 have hni:¬cap=i:=by omega
 have hmi:i+(m+1 - J)=m:=by omega
 have e0:m+1 - J=m - i:=by omega
 have HJ:=hid hJ;have HI:=hid hi;have HCS:=hid hcs;have HMX:=hid hmx;have HT:=hid ht
 clear hrow hg hcs hi0 hi3 hAc hVl hcapn hmx ht hJ hi
 go_enter Tryz.func109,Tryz.ntmps109
 go_upto_region 5 with fail
 refine wp_region_K (S:=fun _=>True) (fun _=>false) (by kernel_rfl) (trivial) (fun hHeld=>?_)
 refine gkp 0 ?_
 refine gkp 1 ?_
 refine gkp 2 ?_
 refine gkp 3 ?_
 refine gkp 4 ?_
 refine gkp 5 ?_
 refine gk1 6 (fun K hK=>?_)
 refine step_append_room rfl (.tmp 22) (.tmp 25) 80 rfl 116 i0 5 Tryz.underlying80 HI0.out HI3.out g 0 i cap (by simp [Act.eval]) AA (m - i) (cap - J) V (by simp [Act.eval]) hVl'.out HAc.out hV1.out (by have:=HI.out;omega) hsp.out ?_;have hR:True:=trivial
 refine hK.out _ _ hR (fun hHeld=>?_)
 clear hK K
 (try simp only [Act.put,sA,sZ,sS])
 refine gkp 7 ?_
 refine wpAnyK_done (by kernel_rfl) ?_ _
 clear hHeld
 rw [show i+(m - i)=m by have:=HI.out;omega,show 0+i*5=i*5 by omega,←hw2]
 have HW2:=hid hw2;have K1:=hid k1;have K2:=hid k2;have K3:=hid k3;have K4:=hid k4
 have p1:¬cap=m:=by omega
 have p2:(0:Int)≤(m:Int):=by omega
 have p3:(m:Int)≤(m:Int)+1:=by omega
 have p4:m≤m+1:=by omega
 have p5:m+1 - m=1:=by omega
 clear hw2 k1 k2 k3 k4 hAA hmi e0 n1 n2 n3 n4 n5 hR
 go_wp2
 go_ret
 obtain ⟨cur',h1,h2,h3,h4⟩:=setCells_list (e:=116) (Z 0) (m*5) w2 cur2 K1.out (by rw [hZl,K2.out];have:=HCS.out;omega)
 refine ⟨rfl,⟨?_,.inr ⟨g,cap,cur',rfl,Nat.zero_le _,h1,by omega,HMX.out,by rw [h2,K2.out];exact HCS.out,?_⟩⟩,?_⟩
 ·rw [Cel.cv_length,List.length_append,List.length_take,List.length_drop,hlen];congr 1;have:=HI.out;omega
 ·have e1:=HT.out
  have hi':=HI.out
  have hcs':=HCS.out
  have hl2:(cur.toList.take (i*5)++V).length=m*5:=by
   rw [List.length_append,List.length_take,hVl'.out,Array.length_toList,hcs'];omega
  have e2:cur.toList.take (i*5)=cv (l.take i):=by
   rw [←cv_take,←e1,List.take_take];congr 1;omega
  rw [h3,K3.out,List.append_assoc (List.take (m*5) _),List.take_append_of_le_length (by rw [List.length_take,List.length_append,hl2];omega),List.take_take,Nat.min_self,List.take_append_of_le_length (by rw [hl2];omega),List.take_of_length_le (by rw [hl2];omega),e2,hV,Cel.cv_append]
 ·exact (Fr.of_below (S:=fun k=>k=g) (show Below w.heap.size w w.drew from (Below.refl _ _).drew)).trans (K4.out.trans h4 (fun _ _ h=>h)) (fun _ _ h=>h)
theorem at5_cells{o:Nat}{a:C}(h:At5 w b o a):∀ j u,(cv [a])[j]? = some u→w.cell? ((⟨b,o,none⟩:Addr).add j)=some u:=by
 intro j u hu
 obtain ⟨h0,h1,h2,h3,h4⟩:=h
 rw [Addr.add_lit]
 match j with
 | 0=>simp [cv]at hu;subst hu;exact h0
 | 1=>simp [cv]at hu;subst hu;exact h1
 | 2=>simp [cv]at hu;subst hu;exact h2
 | 3=>simp [cv]at hu;subst hu;exact h3
 | 4=>simp [cv]at hu;subst hu;exact h4
 | n+5=>simp [cv]at hu
theorem insert_end(co:Option Addr)(n cc gv:Nat)(l:List C)(a:C)(w:World)(hrow:w.ownsRow 0 116 5 (.slice co n cc) n (cv l))(hn:n≤100000)(hlen:l.length=n)(ha:At5 w gv 0 a) :
  Calls Tryz.prog 59 #[.slice co n cc,.int .i64 (n:Int),.slice (some ⟨gv,0,none⟩) 1 1] w fun e w'=>∃ g' cc',e=.returned (.slice (some ⟨g',0,none⟩) (n+1) cc')∧w'.ownsRow 0 116 5 (.slice (some ⟨g',0,none⟩) (n+1) cc') (n+1) (cv (l++[a]))∧w.grownBy w' (Value.slice co n cc).ownBlock∧((Value.slice co n cc).ownBlock=some g'∨g'=w.heap.size)∧g'<w'.heap.size:=by
 obtain ⟨i57,hi57,hz0,hz1,hz2⟩:=info_parts Cel.Tryz.info116
 have HI:=hid hi57;have HZ0:=hid hz0;have HZ1:=hid hz1;have HZ2:=hid hz2
 have HR:=hid hrow;have HA:=hid (at5_cells ha)
 have hcl:(cv l).length=n*5:=by rw [Cel.cv_length,hlen]
 clear hi57 hz0 hz1 hz2 ha
 have hx:(co=none∧n=0∧cc=0)∨∃ g,co=some ⟨g,0,none⟩∧n≤cc:=by
  rcases hrow.2 with ⟨h1,h2⟩ | ⟨g,cap,cur,e,hb,hgg,h2,_⟩
  ·simp only [Value.slice.injEq]at h1;exact Or.inl ⟨h1.1,h2,h1.2.2⟩
  ·simp only [Value.slice.injEq]at e;exact Or.inr ⟨g,e.1,by rw [e.2.2];exact h2⟩
 clear hrow
 rcases hx with ⟨rfl,rfl,rfl⟩ | ⟨g,rfl,hnc⟩
 ·go_enter Tryz.func59,Tryz.ntmps59
  go_wp2_with ((with_reducible refine Cel.here_op 25 ?_);refine wpList_append_lies _ rfl (.tmp 23) (.tmp 24) 80 rfl 0 116 i57 (.agg #[.int .i64 0,.int .i64 0,.int .i64 0,.slice none 0 0,.int .i64 0]) 5 56 Tryz.underlying80 HI.out HZ0.out HZ1.out HZ2.out rfl (by decide) (.slice none 0 0) 0 (cv l) rfl HR.out ⟨gv,0,none⟩ 1 1 (cv [a]) rfl rfl HA.out (Cel.cv_one a) (by omega) (by unfold maxLen;omega) (by omega) (Nat.zero_le _) _ rfl ?_;intro g6 cap6 w6 ho6 hg6 ha6 hl6;have O6:=hid ho6;have G6:=hid (And.intro hg6 (And.intro ha6 hl6));clear ho6 hg6 ha6 hl6)
  go_ret
  exact ⟨g6,cap6,rfl,by rw [Cel.cv_append];exact O6.out,G6.out⟩
 ·have n1:(0:Int)≤(n:Int):=by omega
  have n2:¬(cc:Int)<(n:Int):=by omega
  go_enter Tryz.func59,Tryz.ntmps59
  go_wp2_with ((with_reducible refine Cel.here_op 25 ?_);refine wpList_append_lies _ rfl (.tmp 23) (.tmp 24) 80 rfl 0 116 i57 (.agg #[.int .i64 0,.int .i64 0,.int .i64 0,.slice none 0 0,.int .i64 0]) 5 56 Tryz.underlying80 HI.out HZ0.out HZ1.out HZ2.out rfl (by decide) (.slice (some ⟨g,0,none⟩) n cc) n (cv l) rfl HR.out ⟨gv,0,none⟩ 1 1 (cv [a]) rfl rfl HA.out (Cel.cv_one a) (by omega) (by unfold maxLen;omega) (by omega) (Nat.zero_le _) _ rfl ?_;intro g6 cap6 w6 ho6 hg6 ha6 hl6;have O6:=hid ho6;have G6:=hid (And.intro hg6 (And.intro ha6 hl6));clear ho6 hg6 ha6 hl6)
  all_goals
   go_ret
   exact ⟨g6,cap6,rfl,by rw [Cel.cv_append];exact O6.out,G6.out⟩
end Tre
namespace Tre
open Go.RowKit Go.Maps
open Dsk (gt hid undrew keep_old keep_cell lt_cell newD)
open Jrn (Row5)
open Cch (Fr wpAnyK wpAnyK_done wp_region_K hd_cell hd_frozen blk_set)
open Cel (C Cs Cok NB At5 ext1 below_set I64 nrm hasN pageN)
open Spl (Same AllB)
section
variable {arm:Prop} {room croom K:Nat} {p q:Nat} {R:Nat→Prop} {t:RS} {w:World} {hb tb root:Nat} {tr:List (Nat×List Nat)} {ws:List Nat}
theorem u122:Tryz.prog.underlying 122=some (.slice 112):=by kernel_rfl
theorem info112:(Tryz.prog.info? 112).map (fun i=>(i.zero,i.size,i.bytes))=some (some (.agg #[.int .i64 0,.int .i64 0,.int .i64 0,.bool false,.int .i64 0,.slice none 0 0,.int .i64 0]),7,72):=by kernel_rfl
def sv(s:St):List Value:=[.int .i64 (s).pg,.int .i64 (s).lo,.int .i64 (s).hi,.bool (s).leaf,.int .i64 (s).r,.slice (s).co (s).cn (s).cc,.int .i64 (s).pl]
structure Way1 (S:Nat→Prop) (W:World) (g cap:Nat) (s:St) (cs:List C):Prop where
 own:W.ownsRow 0 112 7 (.slice (some ⟨g,0,none⟩) 1 cap) 1 (sv s)
 mem:S g
 nod:Pn S W s.co s.cn s.cc cs
variable {cs:List C} {s:St} {g cap:Nat} {W:World} {S:Nat→Prop}
theorem Way1.cells(h:Way1 S W g cap s cs):W.cell? ⟨g,0,none⟩=some (.int .i64 s.pg)∧W.cell? ⟨g,1,none⟩=some (.int .i64 s.lo)∧W.cell? ⟨g,2,none⟩=some (.int .i64 s.hi)∧W.cell? ⟨g,3,none⟩=some (.bool s.leaf)∧W.cell? ⟨g,4,none⟩=some (.int .i64 s.r)∧W.cell? ⟨g,5,none⟩=some (.slice s.co s.cn s.cc)∧W.cell? ⟨g,6,none⟩=some (.int .i64 s.pl):=by
 obtain ⟨cur,hg,h1,h2,h3,h4⟩:=row_parts h.own
 have hx:∀ i,i<7→W.cell? ⟨g,i,none⟩=(sv s)[i]?:=fun i hi=>by
  rw [←h4,List.getElem?_take_of_lt (by omega)]
  simp [World.cell?,hg]
 exact ⟨hx 0 (by omega),hx 1 (by omega),hx 2 (by omega),hx 3 (by omega),hx 4 (by omega),hx 5 (by omega),hx 6 (by omega)⟩
theorem Way1.lt(h:Way1 S W g cap s cs):g<W.heap.size:=by
 obtain ⟨cur,hg,_⟩:=row_parts h.own
 exact (Array.getElem?_eq_some_iff.1 hg).1
variable {W':World}
theorem Way1.same(h:Way1 S W g cap s cs)(hf:∀ k,S k→k<W.heap.size→W'.heap[k]? = W.heap[k]?):Way1 S W' g cap s cs:=by
 refine ⟨⟨h.own.1,?_⟩,h.mem,h.nod.same hf⟩
 rcases h.own.2 with h1 | ⟨g',cap',cur,e,hb,hgg,h2⟩
 ·exact Or.inl h1
 ·simp only [Value.slice.injEq,Option.some.injEq,Addr.mk.injEq,and_true,true_and]at e
  obtain ⟨rfl,rfl⟩:=e
  exact Or.inr ⟨g,cap,cur,rfl,hb,by rw [hf g h.mem (Array.getElem?_eq_some_iff.1 hgg).1];exact hgg,h2⟩
theorem Way1.keep(h:Way1 S W g cap s cs)(hb:Below W.heap.size W W'):Way1 S W' g cap s cs:=h.same (fun k _ hk=>hb.block k hk)
def Gone1(arm:Prop)(room croom K:Nat)(hb p q:Nat)(R:Nat→Prop)(t:RS)(tr:List (Nat×List Nat))(ws:List Nat)(root:Nat)(key:Int)(cs0:List C)(w:World)(e:Ending)(w':World):Prop:=
 ∃ g cap co cn cc cs S,e=.returned (.tuple #[.slice (some ⟨g,0,none⟩) 1 cap,.int .i64 0])∧Way1 S w' g cap ⟨root,-9223372036854775808,9223372036854775807,true,0,co,cn,cc,(Cel.fN key cs0:Nat)⟩ cs∧cs.map nrm=cs0.map nrm∧(∀ b,S b→w.heap.size≤b)∧HeapS arm room croom K w' hb p q (Or2 R S) t tr ws∧Rok R w w'
theorem hold_all(h:∀ a∈cs,I64 a.k):holdB (-9223372036854775808) 9223372036854775807 true cs=true:=by
 unfold holdB
 split
 ·rfl
 ·rename_i hn
  have hm:∀ i,i<cs.length→I64 (cs.getD i default).k:=fun i hi=>h _ (by rw [List.getD,List.getElem?_eq_getElem hi];exact List.getElem_mem _)
  have h1:=hm 0 (by omega)
  have h2:=hm (cs.length - 1) (by omega)
  simp [I64]at h1 h2 ⊢
  omega
theorem fN_nrm(key:Int):∀ {cs cs':List C},cs.map nrm=cs'.map nrm→Cel.fN key cs=Cel.fN key cs'
 | [],[],_=>rfl
 | [],b::l,h=>by simp at h
 | a::l,[],h=>by simp at h
 | a::l,b::m,h=>by
  simp only [List.map_cons,List.cons.injEq]at h
  have hk:a.k=b.k:=by have:=congrArg C.k h.1;simpa [nrm] using this
  have ih:=fN_nrm key h.2
  unfold Cel.fN at ih ⊢
  simp only [Cel.firstN,Cel.notBelow,hk,ih]
  rfl
theorem sv_cells{w:World}{q:Nat}(h:SB w q s):∀ j u,(sv s)[j]? = some u→w.cell? ((⟨q,0,none⟩:Addr).add j)=some u:=by
 intro j u hu
 obtain ⟨h0,h1,h2,h3,h4,h5,h6⟩:=h.cells
 rw [Addr.add_lit]
 match j with
 | 0=>simp [sv]at hu;subst hu;simpa using h0
 | 1=>simp [sv]at hu;subst hu;simpa using h1
 | 2=>simp [sv]at hu;subst hu;simpa using h2
 | 3=>simp [sv]at hu;subst hu;simpa using h3
 | 4=>simp [sv]at hu;subst hu;simpa using h4
 | 5=>simp [sv]at hu;subst hu;simpa using h5
 | 6=>simp [sv]at hu;subst hu;simpa using h6
 | n+7=>simp [sv]at hu
theorem sv_one(s:St):∀ u∈sv s,u.oneCell'=true:=by
 intro u hu
 simp [sv]at hu
 rcases hu with rfl |rfl |rfl |rfl |rfl |rfl |rfl<;>rfl
theorem down_leaf{cs0:List C}(key:Int)(h:HeapS arm room croom K w hb p q R t tr ws)(hA:AllB t.now)(hT:TreeAt w tb hb root)(hm:R tb)(hN:NodeAt t.now root true 0 cs0)(hKb:K≤500000) :
  Calls Tryz.prog 73 #[.pointer (some ⟨tb,0,none⟩),.int .i64 key] w (Gone1 arm room croom (K+1) hb p q R t tr ws root key cs0 w):=by
 have cf:=hid (fault_yes hT)
 have ct:=hid (top_yes hT)
 have HH:=hid h;have HA:=hid hA;have HT:=hid hT;have HM:=hid hm;have HN:=hid hN
 have ce:Hid (∀ W R',HeapS arm room croom K W hb p q R' t tr ws→TreeAt W tb hb root→R' tb→Calls Tryz.prog 125 #[.pointer (some ⟨tb,0,none⟩),.agg #[.int .i64 (root:Int),.int .i64 (-9223372036854775808),.int .i64 9223372036854775807,.bool false,.int .i64 0,.slice none 0 0,.int .i64 0]] W (Entered arm room croom (K+1) hb p q R' t tr ws root (-9223372036854775808) 9223372036854775807 true 0 cs0 W)):=hid (fun W R' h' hT' hm'=>by
  by_cases hz:cs0.length=0
  ·exact enter_root h' hA hT' hm' hN hKb (hold_all hN.key) hz
  ·exact enter_some h' hA hT' hm' hN hKb (hold_all hN.key) (by omega))
 obtain ⟨i57,hi57,hz0,hz1,hz2⟩:=info_parts info112
 have HI:=hid hi57;have HZ0:=hid hz0;have HZ1:=hid hz1;have HZ2:=hid hz2
 clear h hA hT hm hN hi57 hz0 hz1 hz2
 go_enter Tryz.func73,Tryz.ntmps73
 go_wp2_with (first
  | (go_at_call 40;refine cf.out.mono ?_;rintro e w1 ⟨rfl,h1⟩;obtain rfl:=h1.symm;clear h1)
  | (go_at_call 124;refine ct.out.mono ?_;rintro e w1 ⟨rfl,hb1⟩;have B1:=hid hb1;clear hb1))
 obtain ⟨q8,hq8⟩:∃ q8,q8=w1.heap.size:=⟨_,rfl⟩
 obtain ⟨W2,hW2⟩:∃ W2,W2=w1.alloc (.cells #[.int .i64 (root:Int),.int .i64 (-9223372036854775808),.int .i64 9223372036854775807,.bool false,.int .i64 0,.slice none 0 0,.int .i64 0] 112):=⟨_,rfl⟩
 have B2:=hid (show Below w.heap.size w W2 by rw [hW2];exact gt B1.out (ext1 _))
 have S8:=hid (show SB W2 q8 (bare root (-9223372036854775808) 9223372036854775807) by rw [hW2,hq8];exact SB.new w1 (bare root (-9223372036854775808) 9223372036854775807))
 rw [←hW2,←hq8]
 replace hW2:=hid hW2;replace hq8:=hid hq8
 go_loopw [7,18] (fun a c W=>a=.slice none 0 0∧c=.int .i64 0∧Hid (W=W2)) (fun _ _ _=>1)
 case atStart=>exact ⟨rfl,rfl,hid rfl⟩
 case round=>
  obtain ⟨rfl,rfl,HW⟩:=hrel
  have HWo:=HW.out
  obtain rfl:=HWo.symm
  clear HWo HW
  have cE:=hid (ce.out W2 _ (HH.out.news B2.out) (HT.out.keep B2.out) (Or.inl HM.out))
  obtain ⟨x0,x1,x2,x3,x4,x5,x6⟩:=S8.out.cells
  simp only [bare]at x0 x1 x2 x3 x4 x5 x6
  go_upto_region 11 with (go_at_call 125;refine cE.out.mono ?_;rintro e w3 ⟨co,cn,cc,cs,S,rfl,hP,hE,hS,hs,hk⟩;have P3:=hid hP;have E3:=hid hE;have N3:=hid hS;have H3:=hid hs;have K3:=hid hk;clear hP hE hS hs hk x0 x1 x2 x3 x4 x5 x6)
  obtain ⟨q9,hq9⟩:∃ q9,q9=w3.heap.size:=⟨_,rfl⟩
  obtain ⟨W4,hW4⟩:∃ W4,W4=w3.alloc (.cells #[.int .i64 (root:Int),.int .i64 (-9223372036854775808),.int .i64 9223372036854775807,.bool true,.int .i64 0,.slice co cn cc,.int .i64 0] 112):=⟨_,rfl⟩
  have B4:=hid (show Below w3.heap.size w3 W4 by rw [hW4];exact ext1 _)
  have S4:=hid (show SB W4 q9 ⟨root,-9223372036854775808,9223372036854775807,true,0,co,cn,cc,0⟩ by rw [hW4,hq9];exact SB.new w3 ⟨root,-9223372036854775808,9223372036854775807,true,0,co,cn,cc,0⟩)
  rw [←hW4,←hq9]
  replace hW4:=hid hW4;replace hq9:=hid hq9
  have hlen:cs.length=cs0.length:=by simpa using congrArg List.length E3.out
  have cc4:=hid (Cel.child_any true 0 co cn cc cs key W4 (P3.out.cs.keep B4.out) (node_few HN.out.has hlen P3.out.len))
  rw [fN_nrm key E3.out]at cc4
  generalize Cel.chN 0 key cs=CH at cc4
  obtain ⟨x0,x1,x2,x3,x4,x5,x6⟩:=S4.out.cells
  simp only at x0 x1 x2 x3 x4 x5 x6
  go_upto_region 12 with (go_at_call 128;refine cc4.out.mono ?_;rintro e w5 ⟨rfl,hb5⟩;have B5:=hid hb5;have S5:=hid (S4.out.keep hb5);clear hb5 x0 x1 x2 x3 x4 x5 x6;obtain ⟨x0,x1,x2,x3,x4,x5,x6⟩:=S5.out.cells;simp only at x0 x1 x2 x3 x4 x5 x6;have fx:=S5.out.fz 6)
  obtain ⟨F,hF⟩:∃ F,F=Cel.fN key cs0:=⟨_,rfl⟩
  rw [←hF]
  have HF:=hid hF
  clear hF
  obtain ⟨W6,hW6⟩:∃ W6,W6=w5.setCell ⟨q9,6,none⟩ (.int .i64 (F:Int)):=⟨_,rfl⟩
  have F6:=hid (show Fr (fun k=>k=q9) w5 W6 by rw [hW6];exact (Fr.of_below (S:=fun k=>k=q9) (Below.refl _ _)).set (Or.inl rfl) _)
  have S6:=hid (show SB W6 q9 ⟨root,-9223372036854775808,9223372036854775807,true,0,co,cn,cc,(F:Int)⟩ by
   have h0:=heap_setCell_same _ q9 6 _ 112 (.int .i64 (F:Int)) S5.out
   rw [hW6];unfold SB;rw [h0];simp)
  rw [←hW6]
  replace hW6:=hid hW6
  clear x0 x1 x2 x3 x4 x5 x6 fx
  obtain ⟨x0,x1,x2,x3,x4,x5,x6⟩:=S6.out.cells
  simp only at x0 x1 x2 x3 x4 x5 x6
  have S7n:=hid (SB.new W6 ⟨root,-9223372036854775808,9223372036854775807,true,0,co,cn,cc,(F:Int)⟩)
  go_upto_region 13 with ((with_reducible refine Cel.here_op 40 ?_);refine wpList_append_own _ rfl (.tmp 37) (.tmp 39) 122 rfl W6.heap.size 112 i57 (.agg #[.int .i64 0,.int .i64 0,.int .i64 0,.bool false,.int .i64 0,.slice none 0 0,.int .i64 0]) 7 72 u122 HI.out HZ0.out HZ1.out HZ2.out rfl (by decide) (.slice none 0 0) 0 [] rfl (World.ownsRow_nil _ _ _ _) ⟨W6.heap.size,0,none⟩ 1 1 (sv ⟨root,-9223372036854775808,9223372036854775807,true,0,co,cn,cc,(F:Int)⟩) rfl rfl (sv_cells S7n.out) (sv_one _) (by unfold maxLen;omega) (by omega) (by simp) ?_;intro v8 w8 ho8 hg8 hnil8;obtain ⟨ao8,cap8,rfl⟩:=Cel.row_form ho8;have O8:=hid ho8;have G8:=hid hg8;clear ho8 hg8 hnil8)
  have B8:=hid (show Below W6.heap.size W6 w8 from gt (ext1 _) ((Below.refl _ _).grown G8.out (Nat.le_refl _) (fun k e=>by cases e)))
  have S8':=hid (S6.out.keep B8.out)
  clear x0 x1 x2 x3 x4 x5 x6
  obtain ⟨x0,x1,x2,x3,x4,x5,x6⟩:=S8'.out.cells
  simp only at x0 x1 x2 x3 x4 x5 x6
  have hg:∃ g,ao8=some ⟨g,0,none⟩∧W6.heap.size≤g∧g<w8.heap.size:=by
   rcases O8.out.2 with ⟨h1,h2⟩ | ⟨g,cap,cur,e,hb,hgg,h2⟩
   ·simp at h2
   ·simp only [Value.slice.injEq]at e
    exact ⟨g,e.1,hb,(Array.getElem?_eq_some_iff.1 hgg).1⟩
  obtain ⟨g8,rfl,hg1,hg2⟩:=hg
  replace hg1:=hid hg1;replace hg2:=hid hg2
  go_wp2
  go_ret2
  have h9:=hq9.out
  have B36:Below w3.heap.size w3 W6:=by rw [hW6.out];exact below_set (gt B4.out B5.out) (by simp;omega) _
  have B38:=gt B36 B8.out
  have H8:=H3.out.news B38
  have s1:=B2.out.size;have s2:=K3.out.size;have s3:=B36.size;have s4:=hg1.out
  rw [HF.out]at O8
  refine ⟨g8,cap8,co,cn,cc,cs,fun b=>S b∨b=g8,rfl,⟨Cel.own_low O8.out (Nat.zero_le _),Or.inr rfl,(P3.out.keep B38).more (fun b h=>Or.inl h)⟩,E3.out,fun b hb=>?_,H8.less (fun b hb=>?_) (Or.inl HH.out.mem),(Rok.after B2.out K3.out (fun b h=>Or.inl h)).below B38⟩
  ·rcases hb with hb |rfl
   ·have:=N3.out b hb;omega
   ·omega
  ·rcases hb with hb |hb |rfl
   ·exact Or.inl (Or.inl (Or.inl hb))
   ·exact Or.inl (Or.inr hb)
   ·exact Or.inr ⟨by omega,hg2.out⟩
end
end Tre
namespace Tre
open Go.RowKit Go.Maps
open Dsk (gt hid undrew keep_old keep_cell lt_cell newD)
open Jrn (Row5)
open Cch (Fr wpAnyK wpAnyK_done wp_region_K hd_cell hd_frozen blk_set)
open Cel (C Cs Cok NB At5 ext1 below_set I64 nrm hasN pageN)
open Spl (Same AllB)
section
variable {arm:Prop} {room croom K:Nat} {p q:Nat} {R:Nat→Prop} {t:RS} {w:World} {hb tb root:Nat} {tr:List (Nat×List Nat)} {ws:List Nat}
theorem wayleaf_one(g cap:Nat)(w:World):Calls Tryz.prog 56 #[.slice (some ⟨g,0,none⟩) 1 cap] w fun e w'=>e=.returned (.pointer (some ⟨g,0,none⟩))∧w'=w:=by
 have t:True:=trivial
 go_enter Tryz.func56,Tryz.ntmps56
 go_wp2
 go_ret
 exact ⟨rfl,rfl⟩
variable {v0 v1 v2 v3 v4:Value} {q:Nat} {W:World}
theorem box5{t:TypeId}{a0 a1 a2 a3 a4:Value}(h:W.heap[q]? = some (.cells #[a0,a1,a2,a3,a4] t (0,0))):(((((W.setCell ⟨q,0,none⟩ v0).setCell ⟨q,1,none⟩ v1).setCell ⟨q,2,none⟩ v2).setCell ⟨q,3,none⟩ v3).setCell ⟨q,4,none⟩ v4).heap[q]? = some (.cells #[v0,v1,v2,v3,v4] t (0,0)):=by
 have h0:=heap_setCell_same _ q 0 _ t v0 h
 have h1:=heap_setCell_same _ q 1 _ t v1 h0
 have h2:=heap_setCell_same _ q 2 _ t v2 h1
 have h3:=heap_setCell_same _ q 3 _ t v3 h2
 have h4:=heap_setCell_same _ q 4 _ t v4 h3
 rw [h4];simp
theorem below5{B:Nat}{w:World}(h:Below B w W)(hq:B≤q):Below B w (((((W.setCell ⟨q,0,none⟩ v0).setCell ⟨q,1,none⟩ v1).setCell ⟨q,2,none⟩ v2).setCell ⟨q,3,none⟩ v3).setCell ⟨q,4,none⟩ v4):=below_set (below_set (below_set (below_set (below_set h hq _) hq _) hq _) hq _) hq _
def noC(key:Int)(F:Nat)(cs:List C):Prop:=F=cs.length∨(F<cs.length∧(cs.getD F default).k≠key)
theorem cell_no(s:St)(cs:List C)(F:Nat)(key:Int)(w:World)(h:Cs w s.co s.cn s.cc cs)(hF:s.pl=(F:Int))(hno:noC key F cs) :
  Calls Tryz.prog 53 #[.agg #[.int .i64 (s).pg,.int .i64 (s).lo,.int .i64 (s).hi,.bool (s).leaf,.int .i64 (s).r,.slice (s).co (s).cn (s).cc,.int .i64 (s).pl],.int .i64 key] w fun e w'=>e=.returned (.tuple #[.agg #[.int .i64 0,.int .i64 0,.int .i64 0,.slice none 0 0,.int .i64 0],.bool false])∧Below w.heap.size w w':=by
 obtain ⟨pg,lo,hi,leaf,r,co,cn,cc,pl⟩:=s
 simp only at *
 subst hF
 have hl:=h.len
 obtain ⟨W1,hW1⟩:∃ W1,W1=(w.alloc (.cells #[.int .i64 pg,.int .i64 lo,.int .i64 hi,.bool leaf,.int .i64 r,.slice co cn cc,.int .i64 (F:Int)] 112)).alloc (.cells #[.int .i64 0,.int .i64 0,.int .i64 0,.slice none 0 0,.int .i64 0] 116):=⟨_,rfl⟩
 have B1:Below w.heap.size w W1:=by rw [hW1];exact gt (ext1 _) (ext1 _)
 have s1:SB W1 w.heap.size ⟨pg,lo,hi,leaf,r,co,cn,cc,F⟩:=by rw [hW1];exact (SB.new w ⟨pg,lo,hi,leaf,r,co,cn,cc,F⟩).keep (ext1 _)
 have b1:W1.heap[w.heap.size+1]? = some (.cells #[.int .i64 0,.int .i64 0,.int .i64 0,.slice none 0 0,.int .i64 0] 116 (0,0)):=by
  have:=heap_alloc_new (w.alloc (.cells #[.int .i64 pg,.int .i64 lo,.int .i64 hi,.bool leaf,.int .i64 r,.slice co cn cc,.int .i64 (F:Int)] 112)) (.cells #[.int .i64 0,.int .i64 0,.int .i64 0,.slice none 0 0,.int .i64 0] 116)
  simp only [World.size_alloc]at this
  rw [hW1];exact this
 obtain ⟨q4,hq4⟩:∃ q4,q4=w.heap.size+1:=⟨_,rfl⟩
 rw [←hq4]at b1
 have HB:=hid b1;have BB:=hid B1
 obtain ⟨x0,x1,x2,x3,x4,x5,x6⟩:=s1.cells
 simp only at x0 x1 x2 x3 x4 x5 x6
 obtain ⟨z0,z1,z2,z3,z4⟩:W1.cell? ⟨q4,0,none⟩=some (.int .i64 0)∧W1.cell? ⟨q4,1,none⟩=some (.int .i64 0)∧W1.cell? ⟨q4,2,none⟩=some (.int .i64 0)∧W1.cell? ⟨q4,3,none⟩=some (.slice none 0 0)∧W1.cell? ⟨q4,4,none⟩=some (.int .i64 0):=by simp [World.cell?,b1]
 have fz:∀ i,W1.frozen? ⟨q4,i,none⟩=false:=fun i=>by simp [World.frozen?,b1]
 have f0:=fz 0;have f1:=fz 1;have f2:=fz 2;have f3:=fz 3;have f4:=fz 4
 have hb5:=hid (box5 (v0:=.int .i64 0) (v1:=.int .i64 0) (v2:=.int .i64 0) (v3:=.slice none 0 0) (v4:=.int .i64 0) b1)
 rcases hno with hFc | ⟨hlt,hne⟩
 ·have e1:((F:Int) == (cn:Int))=true:=by simp;omega
  clear fz s1 b1 h B1 hl hFc
  go_enter Tryz.func53,Tryz.ntmps53
  go_upto_region 1 with fail
  rw [←hW1,←hq4]
  replace hW1:=hid hW1;replace hq4:=hid hq4
  go_wp2
  refine bodyPost_ret (ret_b2 (a:=4) (u:=5) (by kernel_rfl) (by kernel_rfl) (by kernel_rfl) rfl hb5.out) rfl ?_
  have:=hq4.out
  exact ⟨rfl,below5 BB.out (by omega)⟩
 ·have hFn:F<cn:=by omega
  have e1:((F:Int) == (cn:Int))=false:=by simp;omega
  obtain ⟨b,off,rfl,hc⟩:=h.at_ (by omega)
  have k1:=keep_old B1 (hc F hFn).1
  generalize (cs.getD F default).k=kk at *
  have e2:(kk != key)=true:=by simpa using hne
  have n1:(0:Int)≤(F:Int):=by omega
  have n2:(F:Int)<(cn:Int):=by omega
  clear fz s1 b1 h B1 hc hne hl hlt
  go_enter Tryz.func53,Tryz.ntmps53
  go_upto_region 1 with fail
  rw [←hW1,←hq4]
  replace hW1:=hid hW1;replace hq4:=hid hq4
  go_wp2
  refine bodyPost_ret (ret_b2 (a:=4) (u:=5) (by kernel_rfl) (by kernel_rfl) (by kernel_rfl) rfl hb5.out) rfl ?_
  have:=hq4.out
  exact ⟨rfl,below5 BB.out (by omega)⟩
theorem cell_yes(s:St)(cs:List C)(F:Nat)(a:C)(w:World)(h:Cs w s.co s.cn s.cc cs)(hF:s.pl=(F:Int))(hlt:F<cs.length)(ha:cs.getD F default=a) :
  Calls Tryz.prog 53 #[.agg #[.int .i64 (s).pg,.int .i64 (s).lo,.int .i64 (s).hi,.bool (s).leaf,.int .i64 (s).r,.slice (s).co (s).cn (s).cc,.int .i64 (s).pl],.int .i64 a.k] w fun e w'=>e=.returned (.tuple #[.agg #[.int .i64 (a).k,.int .i64 (a).c,.int .i64 (a).l,.slice (a).o (a).n (a).m,.int .i64 (a).x],.bool true])∧Below w.heap.size w w':=by
 obtain ⟨pg,lo,hi,leaf,r,co,cn,cc,pl⟩:=s
 simp only at *
 subst hF
 have hl:=h.len
 obtain ⟨W1,hW1⟩:∃ W1,W1=(w.alloc (.cells #[.int .i64 pg,.int .i64 lo,.int .i64 hi,.bool leaf,.int .i64 r,.slice co cn cc,.int .i64 (F:Int)] 112)).alloc (.cells #[.int .i64 0,.int .i64 0,.int .i64 0,.slice none 0 0,.int .i64 0] 116):=⟨_,rfl⟩
 have B1:Below w.heap.size w W1:=by rw [hW1];exact gt (ext1 _) (ext1 _)
 have s1:SB W1 w.heap.size ⟨pg,lo,hi,leaf,r,co,cn,cc,F⟩:=by rw [hW1];exact (SB.new w ⟨pg,lo,hi,leaf,r,co,cn,cc,F⟩).keep (ext1 _)
 have b1:W1.heap[w.heap.size+1]? = some (.cells #[.int .i64 0,.int .i64 0,.int .i64 0,.slice none 0 0,.int .i64 0] 116 (0,0)):=by
  have:=heap_alloc_new (w.alloc (.cells #[.int .i64 pg,.int .i64 lo,.int .i64 hi,.bool leaf,.int .i64 r,.slice co cn cc,.int .i64 (F:Int)] 112)) (.cells #[.int .i64 0,.int .i64 0,.int .i64 0,.slice none 0 0,.int .i64 0] 116)
  simp only [World.size_alloc]at this
  rw [hW1];exact this
 obtain ⟨q4,hq4⟩:∃ q4,q4=w.heap.size+1:=⟨_,rfl⟩
 rw [←hq4]at b1
 have HB:=hid b1;have BB:=hid B1
 obtain ⟨x0,x1,x2,x3,x4,x5,x6⟩:=s1.cells
 simp only at x0 x1 x2 x3 x4 x5 x6
 obtain ⟨z0,z1,z2,z3,z4⟩:W1.cell? ⟨q4,0,none⟩=some (.int .i64 0)∧W1.cell? ⟨q4,1,none⟩=some (.int .i64 0)∧W1.cell? ⟨q4,2,none⟩=some (.int .i64 0)∧W1.cell? ⟨q4,3,none⟩=some (.slice none 0 0)∧W1.cell? ⟨q4,4,none⟩=some (.int .i64 0):=by simp [World.cell?,b1]
 have fz:∀ i,W1.frozen? ⟨q4,i,none⟩=false:=fun i=>by simp [World.frozen?,b1]
 have f0:=fz 0;have f1:=fz 1;have f2:=fz 2;have f3:=fz 3;have f4:=fz 4
 have hb5:=hid (box5 (v0:=.int .i64 a.k) (v1:=.int .i64 a.c) (v2:=.int .i64 a.l) (v3:=.slice a.o a.n a.m) (v4:=.int .i64 a.x) b1)
 have hFn:F<cn:=by omega
 have e1:((F:Int) == (cn:Int))=false:=by simp;omega
 obtain ⟨b,off,rfl,hc⟩:=h.at_ (by omega)
 obtain ⟨y0,y1,y2,y3,y4⟩:=hc F hFn
 rw [ha]at y0 y1 y2 y3 y4
 have k0:=keep_old B1 y0;have k1:=keep_old B1 y1;have k2:=keep_old B1 y2;have k3:=keep_old B1 y3;have k4:=keep_old B1 y4
 have e2:(a.k != a.k)=false:=by simp
 have n1:(0:Int)≤(F:Int):=by omega
 have n2:(F:Int)<(cn:Int):=by omega
 clear fz s1 b1 h B1 hc hl hlt y0 y1 y2 y3 y4 ha
 go_enter Tryz.func53,Tryz.ntmps53
 go_upto_region 1 with fail
 rw [←hW1,←hq4]
 replace hW1:=hid hW1;replace hq4:=hid hq4
 go_wp2
 refine bodyPost_ret (ret_b2 (a:=4) (u:=5) (by kernel_rfl) (by kernel_rfl) (by kernel_rfl) rfl hb5.out) rfl ?_
 have:=hq4.out
 exact ⟨rfl,below5 BB.out (by omega)⟩
theorem spilt_any(a:C)(w:World)(h1:I64 (a.l - a.n)):Calls Tryz.prog 105 #[.agg #[.int .i64 (a).k,.int .i64 (a).c,.int .i64 (a).l,.slice (a).o (a).n (a).m,.int .i64 (a).x]] w fun e w'=>e=.returned (.int .i64 (a.l - a.n))∧Below w.heap.size w w':=by
 have hw:IntKind.i64.wrap (a.l - (a.n:Int))=a.l - (a.n:Int):=by rw [IntKind.wrap_i64];obtain ⟨x,y⟩:=h1;omega
 clear h1
 go_enter Tryz.func105,Tryz.ntmps105
 go_wp2
 go_ret
 exact ⟨rfl,ext1 _⟩
theorem refusal_yes(h:HeapS arm room croom K w hb p q R t tr ws)(hT:TreeAt w tb hb root) :
  Calls Tryz.prog 50 #[.pointer (some ⟨tb,0,none⟩)] w fun e w'=>e=.returned (.int .i64 0)∧HeapS arm room croom (K+1) w' hb p q R t tr ws∧Rok R w w':=by
 have cf:=hid (fault_yes hT)
 have cp:=hid (Spl.Pager_yes h.heap)
 have cu:=hid (prg_put_range 0 (.slice none 0 0) h.prg h.busy (by simp))
 have HH:=hid h
 obtain ⟨c0,c1⟩:=hT.cells
 clear h hT
 go_enter Tryz.func50,Tryz.ntmps50
 go_wp2_with (first
  | (go_at_call 40;refine cf.out.mono ?_;rintro e w1 ⟨rfl,h1⟩;obtain rfl:=h1.symm;clear h1)
  | (go_at_call 16;refine cp.out.mono ?_;rintro e w1 ⟨rfl,h1⟩;obtain rfl:=h1.symm;clear h1)
  | (go_at_call 87;refine cu.out.mono ?_;rintro e w2 ⟨rfl,hP,hk⟩;have P2:=hid hP;have K2:=hid hk;clear hP hk))
 go_ret
 exact ⟨rfl,HH.out.mv P2.out (HH.out.heap.rok K2.out HH.out.mem) HH.out.mem,K2.out⟩
theorem changing_leaf{cs0:List C}(key:Int)(h:HeapS arm room croom K w hb p q R t tr ws)(hA:AllB t.now)(hT:TreeAt w tb hb root)(hm:R tb)(hN:NodeAt t.now root true 0 cs0)(hKb:K+1≤500000) :
  Calls Tryz.prog 55 #[.pointer (some ⟨tb,0,none⟩),.int .i64 key] w (Gone1 arm room croom (K+1+1) hb p q R t tr ws root key cs0 w):=by
 have cr:=hid (refusal_yes h hT)
 have HM:=hid hm;have HT:=hid hT
 have cd:Hid (∀ W,HeapS arm room croom (K+1) W hb p q R t tr ws→TreeAt W tb hb root→Calls Tryz.prog 73 #[.pointer (some ⟨tb,0,none⟩),.int .i64 key] W (Gone1 arm room croom (K+1+1) hb p q R t tr ws root key cs0 W)):=hid (fun W h' hT'=>down_leaf key h' hA hT' hm hN hKb)
 clear h hA hT hm hN
 go_enter Tryz.func55,Tryz.ntmps55
 go_wp2_with (first
  | (go_at_call 50;refine cr.out.mono ?_;rintro e w1 ⟨rfl,hs,hk⟩;have H1:=hid hs;have K1:=hid hk;clear hs hk)
  | (go_at_call 73;refine (cd.out w1 H1.out (HT.out.rok K1.out HM.out)).mono ?_;rintro e w2 ⟨g,cap,co,cn,cc,cs,S,rfl,hW,hE,hS,hs,hk⟩;have Y:=hid (And.intro hW (And.intro hE (And.intro hS (And.intro hs hk))));clear hW hE hS hs hk))
 go_ret2
 obtain ⟨hW,hE,hS,hs,hk⟩:=Y.out
 exact ⟨g,cap,co,cn,cc,cs,S,rfl,hW,hE,fun b hb=>Nat.le_trans K1.out.size (hS b hb),hs,K1.out.then hk (fun _ h=>h)⟩
end
end Tre
namespace Tre
open Go.RowKit Go.Maps
open Dsk (gt hid undrew keep_old keep_cell lt_cell newD)
open Jrn (Row5)
open Cch (Fr wpAnyK wpAnyK_done wp_region_K hd_cell hd_frozen blk_set)
open Cel (C Cs Cok NB At5 ext1 below_set I64 nrm hasN pageN)
open Spl (Same AllB)
section
variable {arm:Prop} {room croom K:Nat} {p q:Nat} {R:Nat→Prop} {t:RS} {w:World} {hb tb root:Nat} {tr:List (Nat×List Nat)} {ws:List Nat}
theorem al5(w:World)(o:Obj)(W1:World)(v0 v1 v2 v3 v4:Value)(t:TypeId)(h:W1=(w.alloc o).alloc (.cells #[v0,v1,v2,v3,v4] t)):W1.heap[w.heap.size+1]? = some (.cells #[v0,v1,v2,v3,v4] t (0,0)):=by
 have:=heap_alloc_new (w.alloc o) (.cells #[v0,v1,v2,v3,v4] t)
 simp only [World.size_alloc]at this
 rw [h];exact this
variable {t:TypeId} {q:Nat} {W:World}
theorem cells5{v0 v1 v2 v3 v4:Value}(h:W.heap[q]? = some (.cells #[v0,v1,v2,v3,v4] t (0,0))):W.cell? ⟨q,0,none⟩=some v0∧W.cell? ⟨q,1,none⟩=some v1∧W.cell? ⟨q,2,none⟩=some v2∧W.cell? ⟨q,3,none⟩=some v3∧W.cell? ⟨q,4,none⟩=some v4:=by simp [World.cell?,h]
theorem fz5{A:Array Value}(h:W.heap[q]? = some (.cells A t (0,0)))(i:Nat):W.frozen? ⟨q,i,none⟩=false:=by simp [World.frozen?,h]
theorem keep_short(tb:Nat)(key:Int)(ao:Option Addr)(m cap:Nat)(w:World)(hm:m≤96)(hao:∃ g o,ao=some ⟨g,o,none⟩∧m≤cap) :
  Calls Tryz.prog 58 #[.pointer (some ⟨tb,0,none⟩),.int .i64 key,.slice ao m cap] w fun e w'=>e=.returned (.tuple #[.agg #[.int .i64 key,.int .i64 0,.int .i64 (m:Int),.slice ao m cap,.int .i64 0],.int .i64 0])∧Below w.heap.size w w':=by
 have cl:=hid (Cel.local_any (m:Int))
 have hloc:Cel.locN (m:Int)=m:=by unfold Cel.locN;rw [if_neg (by omega),if_neg (by omega)];simp
 rw [hloc]at cl
 have cs':=hid (fun W=>spilt_any ⟨key,0,m,ao,m,cap,0,[]⟩ W (by simp [I64]))
 simp only [Int.sub_self]at cs'
 obtain ⟨W1,hW1⟩:∃ W1,W1=(w.alloc (.cells #[.int .i64 0,.int .i64 0,.int .i64 0,.slice none 0 0,.int .i64 0] 116)).alloc (.cells #[.int .i64 key,.int .i64 0,.int .i64 (m:Int),.slice ao m cap,.int .i64 0] 116):=⟨_,rfl⟩
 have b9:=al5 w _ W1 _ _ _ _ _ 116 hW1
 have b6:W1.heap[w.heap.size]? = some (.cells #[.int .i64 0,.int .i64 0,.int .i64 0,.slice none 0 0,.int .i64 0] 116 (0,0)):=by rw [hW1];exact ((ext1 _).block _ (by simp)).trans (heap_alloc_new w _)
 have B1:Below w.heap.size w W1:=by rw [hW1];exact gt (ext1 _) (ext1 _)
 obtain ⟨q9,hq9⟩:∃ q9,q9=w.heap.size+1:=⟨_,rfl⟩
 obtain ⟨q6,hq6⟩:∃ q6,q6=w.heap.size:=⟨_,rfl⟩
 rw [←hq9]at b9;rw [←hq6]at b6
 have H9:=hid b9;have H6:=hid b6;have BB:=hid B1
 clear hloc B1 b6
 obtain ⟨g,o,rfl,hmc⟩:=hao
 have n1:(m:Int)≤(cap:Int):=by omega
 have n0:(0:Int)≤(m:Int):=by omega
 obtain ⟨x0,x1,x2,x3,x4⟩:=cells5 b9
 clear b9
 go_enter Tryz.func58,Tryz.ntmps58
 go_upto_region 3 with (go_at_call 110;refine (cl.out _).mono ?_;rintro e w1 ⟨rfl,h1⟩;obtain rfl:=h1.symm;clear h1)
 rw [←hW1,←hq9,←hq6]
 replace hW1:=hid hW1;replace hq9:=hid hq9;replace hq6:=hid hq6
 go_upto_region 4 with (go_at_call 105;refine (cs'.out _).mono ?_;rintro e w2 ⟨rfl,hb2⟩;have B2:=hid hb2;have K9:=hid ((hb2.block q9 (Array.getElem?_eq_some_iff.1 H9.out).1).trans H9.out);have K6:=hid ((hb2.block q6 (Array.getElem?_eq_some_iff.1 H6.out).1).trans H6.out);clear hb2 x0 x1 x2 x3 x4)
 obtain ⟨x0,x1,x2,x3,x4⟩:=cells5 K9.out
 obtain ⟨z0,z1,z2,z3,z4⟩:=cells5 K6.out
 have f0:=fz5 K6.out 0;have f1:=fz5 K6.out 1;have f2:=fz5 K6.out 2;have f3:=fz5 K6.out 3;have f4:=fz5 K6.out 4
 go_wp2
 refine bodyPost_ret (ret_b2 (a:=6) (u:=7) (by kernel_rfl) (by kernel_rfl) (by kernel_rfl) rfl (box5 K6.out)) rfl ?_
 exact ⟨rfl,below5 (gt BB.out B2.out) (Nat.le_of_eq hq6.out.symm)⟩
variable {S:Nat→Prop}
theorem remove_no(g cap F:Nat)(s:St)(cs:List C)(key:Int)(h:Way1 S w g cap s cs)(hF:s.pl=(F:Int))(hno:noC key F cs) :
  Calls Tryz.prog 57 #[.pointer (some ⟨tb,0,none⟩),.pointer (some ⟨g,0,none⟩),.int .i64 key] w fun e w'=>e=.returned (.tuple #[.bool false,.int .i64 0])∧Below w.heap.size w w':=by
 have cc:=hid (cell_no s cs F key w h.nod.cs hF hno)
 obtain ⟨x0,x1,x2,x3,x4,x5,x6⟩:=h.cells
 obtain ⟨pg,lo,hi,leaf,r,co,cn,cca,pl⟩:=s
 simp only at *
 clear h hno hF
 go_enter Tryz.func57,Tryz.ntmps57
 go_wp2_with (go_at_call 53;refine cc.out.mono ?_;rintro e w1 ⟨rfl,hb1⟩;have B1:=hid hb1;clear hb1)
 go_ret2
 exact ⟨rfl,gt B1.out (ext1 _)⟩
abbrev SRm(g:Nat)(gc m cc F:Nat)(W:World):Prop:=W.cell? ⟨g,5,none⟩=some (.slice (some ⟨gc,0,none⟩) (m+1) cc)∧W.cell? ⟨g,6,none⟩=some (.int .i64 (F:Int))
variable {xs:List Value} {s:St} {g cap n:Nat}
theorem way_ne{gc cc:Nat}{cs:List C}(h:Way1 S W g cap s cs)(ho:W.ownsRow 0 116 5 (.slice (some ⟨gc,0,none⟩) n cc) n xs):g≠gc:=by
 rintro rfl
 obtain ⟨cur,hg,_⟩:=row_parts h.own
 obtain ⟨cur',hg',_⟩:=row_parts ho
 rw [hg]at hg'
 simp only [Option.some.injEq,Obj.cells.injEq]at hg'
 exact absurd hg'.2.1 (by decide)
theorem sv_set(h:W.ownsRow 0 112 7 (.slice (some ⟨g,0,none⟩) 1 cap) 1 (sv s))(co:Option Addr)(cn cc:Nat):(W.setCell ⟨g,5,none⟩ (.slice co cn cc)).ownsRow 0 112 7 (.slice (some ⟨g,0,none⟩) 1 cap) 1 (sv { s with co:=co,cn:=cn,cc:=cc }):=by
 obtain ⟨cur,hg,h1,h2,h3,h4⟩:=row_parts h
 have h0:=heap_setCell_same _ g 5 _ 112 (.slice co cn cc) hg
 refine ⟨rfl,.inr ⟨g,cap,_,rfl,Nat.zero_le _,h0,h1,h2,by simpa using h3,?_⟩⟩
 have e:(cur.setIfInBounds 5 (.slice co cn cc)).toList.take 7=(cur.toList.take 7).set 5 (.slice co cn cc):=by
  rw [Array.toList_setIfInBounds,List.take_set]
 simp only [Nat.one_mul]at h4 ⊢
 rw [e,h4];rfl
variable {k:Nat}
theorem row_same{W':World}(h:W.ownsRow 0 t k (.slice (some ⟨g,0,none⟩) n cap) n xs)(hf:W'.heap[g]? = W.heap[g]?):W'.ownsRow 0 t k (.slice (some ⟨g,0,none⟩) n cap) n xs:=by
 obtain ⟨cur,hg,h1,h2,h3,h4⟩:=row_parts h
 exact ⟨h.1,.inr ⟨g,cap,cur,rfl,Nat.zero_le _,hf.trans hg,h1,h2,h3,h4⟩⟩
theorem t5_row{b:Nat}(h5:Cel.T5 W b)(h:W.ownsRow 0 t k (.slice (some ⟨g,0,none⟩) n cap) n xs)(ht:t≠5):b≠g:=by
 rintro rfl
 obtain ⟨cur,hg,_⟩:=row_parts h
 obtain ⟨D,m,hx⟩:=h5
 rw [hx]at hg
 simp only [Option.some.injEq,Obj.cells.injEq]at hg
 exact ht hg.2.1.symm
theorem remove_short(g cap F m gc cc:Nat)(pg lo hi:Int)(leaf:Bool)(r:Int)(cs:List C)(a:C)(h:Way1 S w g cap ⟨pg,lo,hi,leaf,r,some ⟨gc,0,none⟩,m+1,cc,F⟩ cs)(hlt:F≤m)(hm:m≤100000)(ha:cs.getD F default=a)(hsp:a.l=(a.n:Int)) :
  Calls Tryz.prog 57 #[.pointer (some ⟨tb,0,none⟩),.pointer (some ⟨g,0,none⟩),.int .i64 a.k] w fun e w'=>e=.returned (.tuple #[.bool true,.int .i64 0])∧Way1 S w' g cap ⟨pg,lo,hi,leaf,r,some ⟨gc,0,none⟩,m,cc,F⟩ (cs.take F++cs.drop (F+1))∧Fr S w w':=by
 have hl:=h.nod.len
 simp only at hl
 have c53:=hid (cell_yes ⟨pg,lo,hi,leaf,r,some ⟨gc,0,none⟩,m+1,cc,F⟩ cs F a w h.nod.cs rfl (by omega) ha)
 have cs':=hid (fun W=>spilt_any a W (by rw [hsp];simp [I64]))
 rw [show a.l - (a.n:Int)=0 by omega]at cs'
 obtain ⟨x0,x1,x2,x3,x4,x5,x6⟩:=h.cells
 simp only at x0 x1 x2 x3 x4 x5 x6
 have HW:=hid h;have HL:=hid hl;have HT:=hid hlt
 have hJ:=hid (show ((F:Int)+1)=((F+1:Nat):Int) by omega)
 have hw1:IntKind.i64.wrap ((F:Int)+1)=(F:Int)+1:=by rw [IntKind.wrap_i64];omega
 clear h hl hsp ha
 simp only at c53
 go_enter Tryz.func57,Tryz.ntmps57
 go_upto_region 4 with (go_at_call 53;refine c53.out.mono ?_;rintro e w1 ⟨rfl,hb1⟩;have B1:=hid hb1;clear hb1)
 obtain ⟨q8,hq8⟩:∃ q8,q8=w1.heap.size:=⟨_,rfl⟩
 obtain ⟨W2,hW2⟩:∃ W2,W2=w1.alloc (.cells #[.int .i64 a.k,.int .i64 a.c,.int .i64 a.l,.slice a.o a.n a.m,.int .i64 a.x] 116):=⟨_,rfl⟩
 have B2:=hid (show Below w.heap.size w W2 by rw [hW2];exact gt B1.out (ext1 _))
 have b8:W2.heap[q8]? = some (.cells #[.int .i64 a.k,.int .i64 a.c,.int .i64 a.l,.slice a.o a.n a.m,.int .i64 a.x] 116 (0,0)):=by rw [hW2,hq8];exact heap_alloc_new w1 _
 rw [←hW2,←hq8]
 replace hW2:=hid hW2;replace hq8:=hid hq8
 clear x0 x1 x2 x3 x4 x5 x6
 obtain ⟨z0,z1,z2,z3,z4⟩:=cells5 b8
 clear b8
 go_upto_region 8 with (go_at_call 105;refine (cs'.out _).mono ?_;rintro e w3 ⟨rfl,hb3⟩;have B3:=hid (gt B2.out hb3);clear hb3 z0 z1 z2 z3 z4)
 have W3:=hid (HW.out.keep (B3.out.drew))
 have g1:SRm g gc m cc F w3.drew:=⟨W3.out.cells.2.2.2.2.2.1,W3.out.cells.2.2.2.2.2.2⟩
 have cd:=hid (delete_one gc m cc F (F+1) cs w3.drew W3.out.nod.own rfl HT.out hm HL.out)
 have hne:=hid (way_ne W3.out W3.out.nod.own)
 refine wp_region_K (S:=SRm g gc m cc F) (fun i=>i == 19) (by kernel_rfl) (g1) (fun hHeld=>?_)
 refine gkp 0 ?_
 refine gkp 1 ?_
 refine gkp 2 ?_
 refine gkp 3 ?_
 refine gkp 4 ?_
 refine gkt 5 ?_ (h:=by intro W hSw;obtain ⟨y0,y1⟩:=hSw;go_simp;first |done |with_reducible rfl)
 refine gkp 6 ?_
 refine gkp 7 ?_
 refine gkp 8 ?_
 refine gkt 9 ?_ (h:=by intro W hSw;obtain ⟨y0,y1⟩:=hSw;go_simp;first |done |with_reducible rfl)
 refine gkp 10 ?_
 refine gkp 11 ?_
 refine gkp 12 ?_
 refine gkt 13 ?_ (h:=by intro W hSw;obtain ⟨y0,y1⟩:=hSw;go_simp;first |done |with_reducible rfl)
 refine gkp 14 ?_
 refine gk1 15 (fun K hK=>?_)
 go_simp
 rw [hJ.out];go_at_call 109;refine cd.out.mono ?_;rintro e w4 ⟨rfl,ho4,hf4⟩;have O4:=hid ho4;have F4:=hid hf4;have hgb:=(hf4.blk g W3.out.lt hne.out);have hR:SRm g gc m cc F w4:=(⟨(World.cell?_of_block hgb).trans hHeld.1,(World.cell?_of_block hgb).trans hHeld.2⟩);have z5:=hR.1;have fz:w4.frozen? ⟨g,5,none⟩=false:=(by obtain ⟨cur,hgc,_⟩:=row_parts W3.out.own;rw [←hgb]at hgc;exact fz5 hgc 5);clear ho4 hf4 hgb
 refine hK.out _ _ hR (fun hHeld=>?_)
 clear hK K
 (try simp only [Act.put,sA,sZ,sS])
 refine gkp 16 ?_
 refine gkp 17 ?_
 refine gkp 18 ?_
 refine gkl 19 (fun K hK=>?_)
 go_simp
 refine hK.out _ _ ?_
 clear hK K
 (try simp only [Act.put,sA,sZ,sS])
 refine wpAnyK_done (by kernel_rfl) ?_ _
 go_wp2
 go_ret2
 obtain ⟨W5,hW5⟩:∃ W5,W5=w4.setCell ⟨g,5,none⟩ (.slice (some ⟨gc,0,none⟩) m cc):=⟨_,rfl⟩
 rw [←hW5]
 have F5:Fr (fun k=>k=g) w4 W5:=by rw [hW5];exact (Fr.of_below (S:=fun k=>k=g) (Below.refl _ _)).set (Or.inl rfl) _
 have FF:Fr (fun k=>k=g∨k=gc) w3.drew W5:=(fr_imp F4.out (fun b e=>Or.inr e)).trans (fr_imp F5 (fun b e=>Or.inl e)) (fun _ _ h=>h)
 have hgS:=W3.out.mem
 have hcS:S gc:=W3.out.nod.cb gc 0 rfl
 refine ⟨rfl,⟨?_,hgS,⟨⟨O4.out.1,?_⟩,fun c hc=>?_,?_,W3.out.nod.cb,fun c hc=>?_,fun c hc hn b o e=>?_⟩⟩,?_⟩
 ·rw [hW5];exact sv_set (s:=⟨pg,lo,hi,leaf,r,some ⟨gc,0,none⟩,m+1,cc,F⟩) (row_same W3.out.own (F4.out.blk g W3.out.lt hne.out)) _ _ _
 ·have hlg:gc<w4.heap.size:=by obtain ⟨cur,hg,_⟩:=row_parts O4.out;exact (Array.getElem?_eq_some_iff.1 hg).1
  exact (row_same O4.out (F5.blk gc hlg (Ne.symm hne.out))).2
 ·have hc':c∈cs:=by
   rcases List.mem_append.1 hc with h |h
   ·exact List.mem_of_mem_take h
   ·exact List.mem_of_mem_drop h
  have k:=W3.out.nod.ck c hc'
  refine { k with rd:=k.rd.same (fun hp b o e hl=>FF.blk b hl ?_) }
  have h5:=W3.out.nod.t5 c hc' hp b o e
  rintro (rfl |rfl)
  ·exact t5_row h5 W3.out.own (by decide) rfl
  ·exact t5_row h5 W3.out.nod.own (by decide) rfl
 ·have:=HL.out;have:=HT.out
  simp;omega
 ·have hc':c∈cs:=by
   rcases List.mem_append.1 hc with h |h
   ·exact List.mem_of_mem_take h
   ·exact List.mem_of_mem_drop h
  exact W3.out.nod.kb c hc'
 ·have hc':c∈cs:=by
   rcases List.mem_append.1 hc with h |h
   ·exact List.mem_of_mem_take h
   ·exact List.mem_of_mem_drop h
  have h5:=W3.out.nod.t5 c hc' hn b o e
  obtain ⟨D,m',hx⟩:=h5
  refine ⟨D,m',(FF.blk b (Array.getElem?_eq_some_iff.1 hx).1 ?_).trans hx⟩
  rintro (rfl |rfl)
  ·exact t5_row ⟨D,m',hx⟩ W3.out.own (by decide) rfl
  ·exact t5_row ⟨D,m',hx⟩ W3.out.nod.own (by decide) rfl
 ·exact (Fr.of_below B3.out.drew).trans (fr_imp FF (fun b e=>by rcases e with rfl |rfl;exact hgS;exact hcS)) (fun _ _ h=>h)
end
end Tre
namespace Tre
open Go.RowKit Go.Maps
open Dsk (gt hid undrew keep_old keep_cell lt_cell newD)
open Jrn (Row5)
open Cch (Fr wpAnyK wpAnyK_done wp_region_K hd_cell hd_frozen blk_set)
open Cel (C Cs Cok NB At5 ext1 below_set I64 nrm hasN pageN)
open Spl (Same AllB)
section
variable {arm:Prop} {room croom K:Nat} {p q:Nat} {R:Nat→Prop} {t:RS} {w:World} {hb tb root:Nat} {tr:List (Nat×List Nat)} {ws:List Nat}
abbrev SRt(tb root q:Nat)(co:Option Addr)(cn cc:Nat)(W:World):Prop:=W.cell? ⟨tb,1,none⟩=some (.int .i64 (root:Int))∧W.cell? ⟨q,0,none⟩=some (.bool true)∧W.cell? ⟨q,1,none⟩=some (.int .i64 0)∧W.cell? ⟨q,2,none⟩=some (.slice co cn cc)
variable {cs:List C} {cn cc:Nat} {co:Option Addr}
theorem root_leaf(h:HeapS arm room croom K w hb p q R t tr ws)(hT:TreeAt w tb hb root)(hm:R tb)(hC:Cs w co cn cc cs)(hf:Cel.Few cs)(hy:hasN true 0 cs=true)(h1:2≤root)(h2:root≤t.now.length)(hnf:root∉flat tr)(hKb:K≤500000) :
  Calls Tryz.prog 118 #[.pointer (some ⟨tb,0,none⟩),.agg #[.bool true,.int .i64 0,.slice co cn cc]] w fun e w'=>e=.returned (.int .i64 0)∧HeapS arm room croom (K+1) w' hb p q R (t.put (root - 1) (pageN true 0 cs)) tr ws∧Same [root] t.now (t.put (root - 1) (pageN true 0 cs)).now∧(AllB t.now→AllB (t.put (root - 1) (pageN true 0 cs)).now)∧(t.put (root - 1) (pageN true 0 cs)).now.getD (root - 1) []=pageN true 0 cs∧Rok R w w':=by
 obtain ⟨W0,hW0⟩:∃ W0,W0=w.alloc (.cells #[.bool true,.int .i64 0,.slice co cn cc] 82):=⟨_,rfl⟩
 have B0:Below w.heap.size w W0:=by rw [hW0];exact ext1 _
 obtain ⟨q0,hq0⟩:∃ q0,q0=w.heap.size:=⟨_,rfl⟩
 have N0:NB 82 W0 q0 true 0 co cn cc:=by rw [hW0,hq0];exact NB.new 82 w true 0 co cn cc
 have H0:=hid (h.news B0)
 have T0:=hid (hT.keep B0)
 have C0:=hid (hC.keep B0)
 have mq:Hid (NewR R w W0 q0):=hid (Or.inr ⟨by omega,N0.lt⟩)
 have hsz:Cel.sizeN true cs≤512:=by unfold hasN at hy;simp at hy;exact hy.2
 have cf:=hid (Cel.fits_any true 0 co cn cc cs W0 C0.out hf)
 rw [decide_eq_true hsz]at cf
 have cw:Hid (∀ W R',HeapS arm room croom K W hb p q R' t tr ws→TreeAt W tb hb root→R' tb→Cs W co cn cc cs→Calls Tryz.prog 39 #[.pointer (some ⟨tb,0,none⟩),.int .i64 (root:Int),.agg #[.bool true,.int .i64 0,.slice co cn cc]] W fun e w'=>e=.returned (.int .i64 0)∧HeapS arm room croom (K+1) w' hb p q R' (t.put (root - 1) (pageN true 0 cs)) tr ws∧Same [root] t.now (t.put (root - 1) (pageN true 0 cs)).now∧(AllB t.now→AllB (t.put (root - 1) (pageN true 0 cs)).now)∧(t.put (root - 1) (pageN true 0 cs)).now.getD (root - 1) []=pageN true 0 cs∧Rok R' W w'):=hid (fun W R' h' hT' hm' hC'=>write_yes h' hT' hm' hC' hf hy h1 h2 hnf hKb)
 have HH:=hid h;have HM:Hid (NewR R w W0 tb):=hid (Or.inl hm)
 have BB:=hid B0;have NN:=hid N0
 obtain ⟨u0,u1,u2⟩:=N0.cells
 clear h hT hm hC B0 N0 hf hy h1 h2 hnf hsz
 generalize pageN true 0 cs=X at *
 go_enter Tryz.func118,Tryz.ntmps118
 go_upto_region 1 with fail
 rw [←hW0,←hq0]
 replace hW0:=hid hW0;replace hq0:=hid hq0
 go_upto_region 8 with (go_at_call 115;refine cf.out.mono ?_;rintro e w1 ⟨rfl,hb1⟩;have B1:=hid hb1;clear u0 u1 u2;have N1:=hid (NN.out.keep hb1);obtain ⟨u0,u1,u2⟩:=N1.out.cells;clear hb1)
 have B1d:=hid (show Below W0.heap.size W0 w1.drew from B1.out.drew)
 have g1:SRt tb root q0 co cn cc w1.drew:=⟨(T0.out.keep B1d.out).cells.2,(NN.out.keep B1d.out).cells⟩
 refine wp_region_K (S:=SRt tb root q0 co cn cc) (fun _=>false) (by kernel_rfl) (g1) (fun hHeld=>?_)
 refine gkp 0 ?_
 refine gkp 1 ?_
 refine gkp 2 ?_
 refine gkp 3 ?_
 refine gkt 4 ?_ (h:=by intro W hSw;obtain ⟨y0,y1,y2,y3⟩:=hSw;go_simp;first |done |with_reducible rfl)
 refine gkt 5 ?_ (h:=by intro W hSw;obtain ⟨y0,y1,y2,y3⟩:=hSw;go_simp;first |done |with_reducible rfl)
 refine gk1 6 (fun K hK=>?_)
 go_simp
 go_at_call 39;refine (cw.out _ _ (H0.out.keep B1d.out) (T0.out.keep B1d.out) HM.out (C0.out.keep B1d.out)).mono ?_;rintro e w3 ⟨rfl,hs3,hsm,hal,hgd,hk3⟩;have HS3:=hid hs3;have E3:=hid (And.intro hsm (And.intro hal hgd));have K3:=hid hk3;have hR:SRt tb root q0 co cn cc w3:=(⟨((T0.out.keep B1d.out).rok hk3 HM.out).cells.2,(show NB 82 w3 q0 true 0 co cn cc from (hk3.at_ mq.out (NN.out.keep B1d.out).lt).trans (NN.out.keep B1d.out)).cells⟩);clear hs3 hsm hal hgd hk3
 refine hK.out _ _ hR (fun hHeld=>?_)
 clear hK K
 (try simp only [Act.put,sA,sZ,sS])
 refine gkp 7 ?_
 refine wpAnyK_done (by kernel_rfl) ?_ _
 go_wp2
 go_ret
 exact ⟨rfl,HS3.out.less (fun b h=>Or.inl h) HH.out.mem,E3.out.1,E3.out.2.1,E3.out.2.2,Rok.after (gt BB.out B1d.out) K3.out (fun b h=>Or.inl h)⟩
theorem settle_one{S:Nat→Prop}{g cap:Nat}{pg lo hi pl:Int}(h:HeapS arm room croom K w hb p q R t tr ws)(hT:TreeAt w tb hb root)(hm:R tb)(hW:Way1 S w g cap ⟨pg,lo,hi,true,0,co,cn,cc,pl⟩ cs)(hf:Cel.Few cs)(hy:hasN true 0 cs=true)(h1:2≤root)(h2:root≤t.now.length)(hnf:root∉flat tr)(hKb:K≤500000) :
  Calls Tryz.prog 60 #[.pointer (some ⟨tb,0,none⟩),.slice (some ⟨g,0,none⟩) 1 cap] w fun e w'=>e=.returned (.int .i64 0)∧HeapS arm room croom (K+1) w' hb p q R (t.put (root - 1) (pageN true 0 cs)) tr ws∧Same [root] t.now (t.put (root - 1) (pageN true 0 cs)).now∧(AllB t.now→AllB (t.put (root - 1) (pageN true 0 cs)).now)∧(t.put (root - 1) (pageN true 0 cs)).now.getD (root - 1) []=pageN true 0 cs∧Rok R w w':=by
 have cr:=hid (root_leaf h hT hm hW.nod.cs hf hy h1 h2 hnf hKb)
 obtain ⟨x0,x1,x2,x3,x4,x5,x6⟩:=hW.cells
 simp only at x0 x1 x2 x3 x4 x5 x6
 clear h hT hm hW hf hy h1 h2 hnf
 generalize pageN true 0 cs=X at *
 go_enter Tryz.func60,Tryz.ntmps60
 go_wp2
 go_loopw [5] (fun c W=>c=.int .i64 0∧Hid (W=w)) (fun _ _=>1)
 case atStart=>exact ⟨rfl,hid rfl⟩
 case round=>
  obtain ⟨rfl,HW⟩:=hrel
  have HWo:=HW.out
  obtain rfl:=HWo.symm
  clear HWo HW
  go_wp2_with (go_at_call 118;refine cr.out.mono ?_;rintro e w1 ⟨rfl,hy⟩;have Y:=hid hy;clear hy)
  (try simp only [Exit.inBlock,Exit.then])
  go_ret
  exact ⟨rfl,Y.out⟩
end
end Tre
end Go.Proofs.YtenajbfeojljdaaGreatDoor
