/- Rows of acts, appended; no statement of the seat is proved here. -/
import Derived.Test.YtadhdedjdgjboaaGreatDoorH46
import Derived.Test.YtadhdedjdgjboaaGreatDoorH47
set_option maxHeartbeats 16000000
set_option maxRecDepth 20000
namespace Go.Proofs.YtadhdedjdgjboaaGreatDoor
section
open Go.RowKit Go.Maps
open Dsk (gt hid undrew keep_old keep_cell lt_cell Rd op_at)
open Cch (Fr)
structure El4 (t e:TypeId) (z:Value) (b:Nat):Prop where
 ht:Tryz.prog.underlying t=some (.slice e)
 hi:∃ i,Tryz.prog.info? e=some i∧i.zero=some z∧i.size=4∧i.bytes=b
 hz:z.cells.size=4
 hb:b≤64
theorem info22:(Tryz.prog.info? 37).map (fun i=>(i.zero,i.size,i.bytes))=some (some (.agg #[.int .i64 0,.int .i64 0,.int .u8 0,.bool false]),4,24):=by kernel_rfl
theorem u22:Tryz.prog.underlying 22=some (.slice 37):=by kernel_rfl
theorem el22:El4 22 37 (.agg #[.int .i64 0,.int .i64 0,.int .u8 0,.bool false]) 24:=⟨u22,by obtain ⟨i,h0,h1,h2,h3⟩:=info_parts info22;exact ⟨i,h0,h1,h2,h3⟩,by decide,by decide⟩
structure Src4 (w:World) (ao:Option Addr) (m c:Nat) (ys:List Value):Prop where
 len:ys.length=m*4
 no:ao=none→m=0∧c=0
 at_:∀ ad,ao=some ad→∀ j u,ys[j]? = some u→w.cell? (ad.add j)=some u
 one:∀ u∈ys,u.oneCell'=true
variable {e:TypeId} {w:World}
theorem row_form4{B n:Nat}{v:Value}{xs:List Value}(h:w.ownsRow B e 4 v n xs):∃ ao cap,v=.slice ao n cap∧(ao=none→n=0∧cap=0)∧∀ a,ao=some a→a=⟨a.block,0,none⟩∧n≤cap∧a.block<w.heap.size:=by
 rcases h.2 with ⟨rfl,rfl⟩ | ⟨g,cap,cur,rfl,_,hg,hnc,_⟩
 ·exact ⟨none,0,rfl,fun _=>⟨rfl,rfl⟩,fun a ha=>by cases ha⟩
 ·exact ⟨_,_,rfl,fun h=>(by cases h),fun a ha=>by cases ha;exact ⟨rfl,hnc,(Array.getElem?_eq_some_iff.1 hg).1⟩⟩
theorem app4_run{t:TypeId}{z:Value}{b:Nat}(E:El4 t e z b)(ty:TypeId)(w:World)(v:Value)(n:Nat)(xs:List Value)(hown:w.ownsRow 0 e 4 v n xs)(ao:Option Addr)(m c:Nat)(ys:List Value)(hs:Src4 w ao m c ys)(hb:n+m≤1000000) :
  ∃ ao' c' w',(Builtin.append_ #[t,t] ty #[v,.slice ao m c]).run Tryz.prog w=.ok (.slice ao' (n+m) c') w'∧w'.ownsRow 0 e 4 (.slice ao' (n+m) c') (n+m) (xs++ys)∧w.grownBy w' v.ownBlock∧∀ a,ao'=some a→(v.ownBlock=some a.block∨a.block=w.heap.size):=by
 obtain ⟨i,hi,hz,hsz,hby⟩:=E.hi
 have hbb:=E.hb
 have key:∃ v' w',(Builtin.append_ #[t,t] ty #[v,.slice ao m c]).run Tryz.prog w=.ok v' w'∧w'.ownsRow 0 e 4 v' (n+m) (xs++ys)∧w.grownBy w' v.ownBlock∧(v'.ownBlock=v.ownBlock∨v'.ownBlock=some w.heap.size):=by
  cases ao with
  | none=>
   obtain ⟨rfl,rfl⟩:=hs.no rfl
   obtain rfl:ys = []:=List.eq_nil_of_length_eq_zero (by rw [hs.len])
   exact ⟨v,w,run_append_owned_none (P:=Tryz.prog) (w:=w) 0 t ty e i 4 E.ht hi v n xs hown,by simpa using hown,⟨rfl,rfl,rfl,Nat.le_refl _,fun _ _ _=>rfl⟩,Or.inl rfl⟩
  | some ad=>
   have hm:(n+m)*b≤1000000*64:=Nat.mul_le_mul hb hbb
   obtain ⟨v',w',h1,h2,h3,_,h5⟩:=run_append_own_at (P:=Tryz.prog) w 0 t ty e i z 4 b E.ht hi hz hsz hby E.hz (by decide) v n xs hown ad m c ys hs.len (hs.at_ ad rfl) hs.one (by unfold maxLen;omega) (by omega) (Nat.zero_le _)
   exact ⟨v',w',h1,h2,h3,h5⟩
 obtain ⟨v',w',h1,h2,h3,h4⟩:=key
 obtain ⟨ao',c',rfl,_⟩:=row_form4 h2
 refine ⟨ao',c',w',h1,h2,h3,fun a ha=>?_⟩
 subst ha
 rcases h4 with h4 |h4
 ·exact Or.inl h4.symm
 ·right;simpa [Value.ownBlock] using h4
theorem wpList_app4{ops:Array Oper}{rest:List Oper}{o:Oper}{a:Act}{Q:Exit→Act→World→Prop}(hgd:o.guard=none)(s x:Operand){t e:TypeId}{z:Value}{b:Nat}(E:El4 t e z b)
  (ho:o.op=.call { callee:=.builtin .append,args:=#[s,x],argTypes:=#[t,t] }) (v:Value) (n:Nat) (xs:List Value) (hs:a.eval s=v) (hown:w.ownsRow 0 e 4 v n xs)
  (ao:Option Addr) (m c:Nat) (ys:List Value) (hx:a.eval x=.slice ao m c) (hsr:Src4 w ao m c ys) (hb:n+m≤1000000)
  (h:∀ ao' c' w',w'.ownsRow 0 e 4 (.slice ao' (n+m) c') (n+m) (xs++ys)→w.grownBy w' v.ownBlock→(∀ a,ao'=some a→(v.ownBlock=some a.block∨a.block=w.heap.size))→wpList Tryz.prog ops Q rest (a.put o.dst (.slice ao' (n+m) c')) w'):wpList Tryz.prog ops Q (o::rest) a w:=by
 refine wpList_plain hgd fun K hK=>?_
 obtain ⟨ao',c',w',hr,h2,h3,h4⟩:=app4_run E o.type w v n xs hown ao m c ys hsr hb
 unfold Oper.wp execOp
 simp only [ho,resolve,invoke,builtin,Sem.run_bind,Sem.run_pure,Result.andThen_ok,List.map_toArray,List.map_cons,List.map_nil,hs,hx,hr]
 exact hK _ _ (h ao' c' w' h2 h3 h4)
def actC(X:Nat→Pv):Nat→List Value
 | 0=>[]
 | n+1=>actC X n++[.int .i64 (X n).k,.int .i64 (X n).n,.int .u8 ((X n).s:Int),.bool (X n).sh]
theorem actC_length(X:Nat→Pv):∀ n,(actC X n).length=n*4
 | 0=>rfl
 | n+1=>by rw [actC,List.length_append,actC_length X n];simp;omega
theorem actC_one(X:Nat→Pv):∀ n,∀ u∈actC X n,u.oneCell'=true
 | 0,u,hu=>by cases hu
 | n+1,u,hu=>by
  rw [actC]at hu
  rcases List.mem_append.1 hu with h |h
  ·exact actC_one X n u h
  ·simp at h;rcases h with rfl |rfl |rfl |rfl<;>rfl
theorem actC_at(X:Nat→Pv):∀ (n i:Nat),i<n→(actC X n)[i*4]? = some (.int .i64 (X i).k)∧(actC X n)[i*4+1]? = some (.int .i64 (X i).n)∧(actC X n)[i*4+2]? = some (.int .u8 ((X i).s:Int))∧(actC X n)[i*4+3]? = some (.bool (X i).sh)
 | 0,i,h=>by omega
 | n+1,i,h=>by
  have hl:=actC_length X n
  rw [actC]
  rcases Nat.lt_or_ge i n with h1 |h1
  ·obtain ⟨a,b,c,d⟩:=actC_at X n i h1
   rw [List.getElem?_append_left (by omega),List.getElem?_append_left (by omega),List.getElem?_append_left (by omega),List.getElem?_append_left (by omega)]
   exact ⟨a,b,c,d⟩
  ·obtain rfl:i=n:=by omega
   rw [List.getElem?_append_right (by omega),List.getElem?_append_right (by omega),List.getElem?_append_right (by omega),List.getElem?_append_right (by omega),hl,Nat.sub_self,show i*4+1 - i*4=1 by omega,show i*4+2 - i*4=2 by omega,show i*4+3 - i*4=3 by omega]
   exact ⟨rfl,rfl,rfl,rfl⟩
def joinX(n:Nat)(X Y:Nat→Pv):Nat→Pv:=fun i=>if i<n then X i else Y (i - n)
theorem actC_congr{X Y:Nat→Pv}:∀ {n:Nat},(∀ i,i<n→X i=Y i)→actC X n=actC Y n
 | 0,_=>rfl
 | n+1,h=>by rw [actC,actC,actC_congr (fun i hi=>h i (by omega)),h n (by omega)]
theorem actC_join(n:Nat)(X Y:Nat→Pv):∀ m,actC (joinX n X Y) (n+m)=actC X n++actC Y m
 | 0=>by rw [Nat.add_zero,actC,List.append_nil];exact actC_congr (fun i hi=>by unfold joinX;rw [if_pos hi])
 | m+1=>by
  have e:joinX n X Y (n+m)=Y m:=by unfold joinX;rw [if_neg (by omega),Nat.add_sub_cancel_left]
  rw [show n+(m+1)=(n+m)+1 by omega,actC,actC_join n X Y m,e,List.append_assoc,actC]
theorem acts_src{lo:Option Addr}{L C:Nat}{X:Nat→Pv}(h:ActsV w lo L X)(hno:lo=none→L=0∧C=0):Src4 w lo L C (actC X L):=by
 refine ⟨actC_length X L,hno,fun ad e j u hu=>?_,actC_one X L⟩
 have hj:j<L*4:=by rw [←actC_length X L];exact (List.getElem?_eq_some_iff.1 hu).1
 obtain ⟨b,off,e2,hA⟩:=h (by omega)
 rw [e]at e2
 obtain rfl:=Option.some.inj e2
 obtain ⟨i,t,hi,ht,rfl⟩:∃ i t,i<L∧t<4∧j=i*4+t:=⟨j/4,j % 4,by omega,by omega,by omega⟩
 obtain ⟨c0,c1,c2,c3,_⟩:=hA i hi
 obtain ⟨a0,a1,a2,a3⟩:=actC_at X L i hi
 rw [Addr.add_lit]
 rcases (show t=0∨t=1∨t=2∨t=3 by omega) with rfl |rfl |rfl |rfl
 ·rw [Nat.add_zero,a0]at hu;cases hu;simpa using c0
 ·rw [a1]at hu;cases hu;simpa [Nat.add_assoc] using c1
 ·rw [a2]at hu;cases hu;simpa [Nat.add_assoc] using c2
 ·rw [a3]at hu;cases hu;simpa [Nat.add_assoc] using c3
end
section
open Go.RowKit Go.Maps
open Dsk (gt hid undrew keep_old keep_cell lt_cell Rd DS FS Sec DiskP DFrame Grew From op_at idx dirtD was secD sureF sureF_ok crashD newD)
open Cch (CS CP Fr)
variable {t:RS} {p q room croom K:Nat} {w:World} {arm:Prop}
theorem act_most{r:Nat}{O:Nat→Prop}(h:Both arm room croom K w p q r O t)(hK:K≤100)(k n:Int)(s:Nat)(sh:Bool)(hs:s<256)(hk7:k≠7) :
  Calls Tryz.prog 11 #[.pointer (some ⟨p,0,none⟩),.pointer (some ⟨r,0,none⟩),.agg #[.int .i64 k,.int .i64 n,.int .u8 (s:Int),.bool sh]] w (Acted arm room croom K w p q r O (t.did ⟨k,n,s,sh⟩)):=by
 unfold RS.did
 by_cases h0:k=0
 ·rw [if_pos h0];subst h0;exact act_begin h hK n s sh
 rw [if_neg h0]
 by_cases h1:k=1
 ·rw [if_pos h1];subst h1;exact act_put h hK n s sh hs
 rw [if_neg h1]
 by_cases h2:k=2
 ·rw [if_pos h2];subst h2;exact act_grow h hK n s sh
 rw [if_neg h2]
 by_cases h3:k=3
 ·rw [if_pos h3];subst h3;exact act_shrink h hK n s sh
 rw [if_neg h3]
 by_cases h4:k=4
 ·rw [if_pos h4];subst h4;exact act_mark h hK n s sh
 rw [if_neg h4]
 by_cases h5:k=5
 ·rw [if_pos h5];subst h5;exact act_undo h hK n s sh
 rw [if_neg h5]
 by_cases h6:k=6
 ·rw [if_pos h6];subst h6;exact act_roll h hK n s sh
 rw [if_neg h6]
 by_cases h7:k=7
 ·exact absurd h7 hk7
 rw [if_neg h7]
 have hk:∀ i:Int,0≤i→i≤7→k≠i:=fun i a b e=>by omega
 by_cases hz:n<1∨(t.pages.length:Int)<n
 ·exact act_get_no h hK n s sh k hk hz
 ·exact act_get_yes h hK n s sh k hk (n - 1).toNat (by omega) (by omega)
variable {R:Nat→Prop}
theorem prg_commit_any(h:PrgAt False room croom K w p q R t)(hT:TB K t)(hK:K≤100) :
  (t.aCommit.1≠3∧Calls Tryz.prog 27 #[.pointer (some ⟨p,0,none⟩)] w (POk False room croom K p q R w (.int .i64 t.aCommit.1) t.aCommit.2))∨(t.busy=true∧Calls Tryz.prog 27 #[.pointer (some ⟨p,0,none⟩)] w (POk False room croom K p q R w (.int .i64 3) t)):=by
 unfold RS.aCommit
 cases hb:t.busy with
 | false=>exact Or.inl ⟨show (6:Int)≠3 by decide,prg_commit_no h hb⟩
 | true=>
  rcases prg_commit_tight h hb hT hK with h1 |h1
  ·exact Or.inl ⟨show (0:Int)≠3 by decide,h1⟩
  ·exact Or.inr ⟨rfl,h1⟩
theorem reopen2(h:PrgAt arm room croom K w p q R t)(hK:K≤400) :
  Calls Tryz.prog 10 #[.pointer (some ⟨q,0,none⟩),.int .i64 8] w fun e w'=>∃ p2,e=.returned (.tuple #[.pointer (some ⟨p2,0,none⟩),.int .i64 0])∧PrgAt arm room 8 K w' p2 q R t.shut∧Rok R w w':=by
 obtain ⟨x,P,C,d,s,n,enc,ms,k⟩:=h
 have hx:=k.live.tx
 have hq:x.q=q:=k.q
 have hdk:DiskP w q P d:=by rw [←hq];exact hx.core.dk
 have hnc:∀ b,DN q P b→NC p x P C b:=fun b hb=>Or.inl (by rw [hq];exact hb)
 have hops:=k.ops
 have hk:K*1000≤400*1000:=Nat.mul_le_mul_right _ hK
 have h8:=open_clean q 8 P d t.sure w hdk ⟨by rw [k.sure.f0];rfl,by rw [k.sure.f1];rfl,k.env.on⟩ hx.ws hx.bs (by omega) (by omega) hx.tab ⟨hx.t0.1,fun hd=>hx.t0.2 (hnc 0 hd)⟩ (by omega)
 refine h8.mono ?_
 rintro e w' ⟨p2,x2,rfl,ho⟩
 have hRB:∀ b,R b→b<w.heap.size∧¬DN q P b∧b≠0:=fun b hb=>⟨k.rl b hb,fun hd=>k.off b (Or.inl (hnc b hd)) hb,fun e=>k.off 0 (Or.inr (Or.inr (Or.inl rfl))) (by rw [←e];exact hb)⟩
 exact ⟨p2,rfl,opened ho k.sure k.env hops hRB,fr_imp ho.fr (fun b hb=>⟨fun hO=>(hRB b hO).2.1 hb,fun e=>hx.t0.2 (hnc 0 (by rw [←e];exact hb))⟩)⟩
end
end Go.Proofs.YtadhdedjdgjboaaGreatDoor
