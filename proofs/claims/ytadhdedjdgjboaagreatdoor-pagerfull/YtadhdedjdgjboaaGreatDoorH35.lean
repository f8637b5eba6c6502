/- Rows whose elements have three cells; no statement of the seat is proved here. -/
import Derived.Test.YtadhdedjdgjboaaGreatDoorH34
import Derived.Test.YtadhdedjdgjboaaGreatDoorH30
import Derived.Test.YtadhdedjdgjboaaGreatDoorH17
set_option maxHeartbeats 16000000
set_option maxRecDepth 20000
namespace Go.Proofs.YtadhdedjdgjboaaGreatDoor
section
open Go.RowKit Go.Maps
open Dsk (gt hid undrew keep_old keep_cell lt_cell Rd bs bs_length bs_one own_lt own_ne own_set own_later El row_form src_row el37 el66 el30 op_at)
open Cch (Fr wpAnyK wpAnyK_take wpAnyK_pure wpAnyK_ready wpAnyK_done wp_region_K AllReadyK.cons AllReadyK.nil AllReadyK.late)
structure El3 (t e:TypeId) (z:Value) (b:Nat):Prop where
 ht:Tryz.prog.underlying t=some (.slice e)
 hi:∃ i,Tryz.prog.info? e=some i∧i.zero=some z∧i.size=3∧i.bytes=b
 hz:z.cells.size=3
 hb:b≤64
theorem info129:(Tryz.prog.info? 129).map (fun i=>(i.zero,i.size,i.bytes))=some (some (.agg #[.int .i64 0,.slice none 0 0,.slice none 0 0]),3,56):=by kernel_rfl
theorem info102:(Tryz.prog.info? 102).map (fun i=>(i.zero,i.size,i.bytes))=some (some (.agg #[.int .i64 0,.int .i64 0,.map none]),3,24):=by kernel_rfl
theorem u33:Tryz.prog.underlying 33=some (.slice 129):=by kernel_rfl
theorem u74:Tryz.prog.underlying 74=some (.slice 102):=by kernel_rfl
theorem el33:El3 33 129 (.agg #[.int .i64 0,.slice none 0 0,.slice none 0 0]) 56:=⟨u33,by obtain ⟨i,h0,h1,h2,h3⟩:=info_parts info129;exact ⟨i,h0,h1,h2,h3⟩,by decide,by decide⟩
theorem el74:El3 74 102 (.agg #[.int .i64 0,.int .i64 0,.map none]) 24:=⟨u74,by obtain ⟨i,h0,h1,h2,h3⟩:=info_parts info102;exact ⟨i,h0,h1,h2,h3⟩,by decide,by decide⟩
structure Src3 (w:World) (ao:Option Addr) (m c:Nat) (ys:List Value):Prop where
 len:ys.length=m*3
 no:ao=none→m=0∧c=0
 at_:∀ ad,ao=some ad→∀ j u,ys[j]? = some u→w.cell? (ad.add j)=some u
 one:∀ u∈ys,u.oneCell'=true
variable {xs:List Value} {e:TypeId} {n:Nat} {w:World}
theorem row_form3{B:Nat}{v:Value}(h:w.ownsRow B e 3 v n xs):∃ ao cap,v=.slice ao n cap∧(ao=none→n=0∧cap=0)∧∀ a,ao=some a→a=⟨a.block,0,none⟩∧n≤cap∧a.block<w.heap.size:=by
 rcases h.2 with ⟨rfl,rfl⟩ | ⟨g,cap,cur,rfl,_,hg,hnc,_⟩
 ·exact ⟨none,0,rfl,fun _=>⟨rfl,rfl⟩,fun a ha=>by cases ha⟩
 ·exact ⟨_,_,rfl,fun h=>(by cases h),fun a ha=>by cases ha;exact ⟨rfl,hnc,(Array.getElem?_eq_some_iff.1 hg).1⟩⟩
theorem app3_run{t:TypeId}{z:Value}{b:Nat}(E:El3 t e z b)(ty:TypeId)(w:World)(v:Value)(n:Nat)(xs:List Value)(hown:w.ownsRow 0 e 3 v n xs)(ao:Option Addr)(m c:Nat)(ys:List Value)(hs:Src3 w ao m c ys)(hb:n+m≤1000000) :
  ∃ ao' c' w',(Builtin.append_ #[t,t] ty #[v,.slice ao m c]).run Tryz.prog w=.ok (.slice ao' (n+m) c') w'∧w'.ownsRow 0 e 3 (.slice ao' (n+m) c') (n+m) (xs++ys)∧w.grownBy w' v.ownBlock∧∀ a,ao'=some a→(v.ownBlock=some a.block∨a.block=w.heap.size):=by
 obtain ⟨i,hi,hz,hsz,hby⟩:=E.hi
 have hbb:=E.hb
 have key:∃ v' w',(Builtin.append_ #[t,t] ty #[v,.slice ao m c]).run Tryz.prog w=.ok v' w'∧w'.ownsRow 0 e 3 v' (n+m) (xs++ys)∧w.grownBy w' v.ownBlock∧(v'.ownBlock=v.ownBlock∨v'.ownBlock=some w.heap.size):=by
  cases ao with
  | none=>
   obtain ⟨rfl,rfl⟩:=hs.no rfl
   obtain rfl:ys = []:=List.eq_nil_of_length_eq_zero (by rw [hs.len])
   exact ⟨v,w,run_append_owned_none (P:=Tryz.prog) (w:=w) 0 t ty e i 3 E.ht hi v n xs hown,by simpa using hown,⟨rfl,rfl,rfl,Nat.le_refl _,fun _ _ _=>rfl⟩,Or.inl rfl⟩
  | some ad=>
   have hm:(n+m)*b≤1000000*64:=Nat.mul_le_mul hb hbb
   obtain ⟨v',w',h1,h2,h3,_,h5⟩:=run_append_own_at (P:=Tryz.prog) w 0 t ty e i z 3 b E.ht hi hz hsz hby E.hz (by decide) v n xs hown ad m c ys hs.len (hs.at_ ad rfl) hs.one (by unfold maxLen;omega) (by omega) (Nat.zero_le _)
   exact ⟨v',w',h1,h2,h3,h5⟩
 obtain ⟨v',w',h1,h2,h3,h4⟩:=key
 obtain ⟨ao',c',rfl,_⟩:=row_form3 h2
 refine ⟨ao',c',w',h1,h2,h3,fun a ha=>?_⟩
 subst ha
 rcases h4 with h4 |h4
 ·exact Or.inl h4.symm
 ·right;simpa [Value.ownBlock] using h4
variable {a:Act} {o:Oper} {ops:Array Oper}
theorem wpList_app3{rest:List Oper}{Q:Exit→Act→World→Prop}(hgd:o.guard=none)(s x:Operand){t e:TypeId}{z:Value}{b:Nat}(E:El3 t e z b)
  (ho:o.op=.call { callee:=.builtin .append,args:=#[s,x],argTypes:=#[t,t] }) (v:Value) (n:Nat) (xs:List Value) (hs:a.eval s=v) (hown:w.ownsRow 0 e 3 v n xs)
  (ao:Option Addr) (m c:Nat) (ys:List Value) (hx:a.eval x=.slice ao m c) (hsr:Src3 w ao m c ys) (hb:n+m≤1000000)
  (h:∀ ao' c' w',w'.ownsRow 0 e 3 (.slice ao' (n+m) c') (n+m) (xs++ys)→w.grownBy w' v.ownBlock→(∀ a,ao'=some a→(v.ownBlock=some a.block∨a.block=w.heap.size))→wpList Tryz.prog ops Q rest (a.put o.dst (.slice ao' (n+m) c')) w'):wpList Tryz.prog ops Q (o::rest) a w:=by
 refine wpList_plain hgd fun K hK=>?_
 obtain ⟨ao',c',w',hr,h2,h3,h4⟩:=app3_run E o.type w v n xs hown ao m c ys hsr hb
 unfold Oper.wp execOp
 simp only [ho,resolve,invoke,builtin,Sem.run_bind,Sem.run_pure,Result.andThen_ok,List.map_toArray,List.map_cons,List.map_nil,hs,hx,hr]
 exact hK _ _ (h ao' c' w' h2 h3 h4)
theorem step_app3{K:Act→World→Prop}{Q:Exit→Act→World→Prop}{E':Prop}(hgd:o.guard=none)(s x:Operand){t e:TypeId}{z:Value}{b:Nat}(E:El3 t e z b)
  (ho:o.op=.call { callee:=.builtin .append,args:=#[s,x],argTypes:=#[t,t] }) (v:Value) (n:Nat) (xs:List Value) (hs:a.eval s=v) (hown:w.ownsRow 0 e 3 v n xs)
  (ao:Option Addr) (m c:Nat) (ys:List Value) (hx:a.eval x=.slice ao m c) (hsr:Src3 w ao m c ys) (hb:n+m≤1000000)
  (h:∀ ao' c' w',w'.ownsRow 0 e 3 (.slice ao' (n+m) c') (n+m) (xs++ys)→w.grownBy w' v.ownBlock→(∀ a,ao'=some a→(v.ownBlock=some a.block∨a.block=w.heap.size))→K (a.put o.dst (.slice ao' (n+m) c')) w') :
  if Region.wanted o (yielded ops a.tmps)=true then Oper.wp Tryz.prog o a w K Q else E':=by
 have hw:Region.wanted o (yielded ops a.tmps)=true:=by simp [Region.wanted,hgd]
 rw [if_pos hw]
 obtain ⟨ao',c',w',hr,h2,h3,h4⟩:=app3_run E o.type w v n xs hown ao m c ys hsr hb
 unfold Oper.wp execOp
 simp only [ho,resolve,invoke,builtin,Sem.run_bind,Sem.run_pure,Result.andThen_ok,List.map_toArray,List.map_cons,List.map_nil,hs,hx,hr]
 exact h ao' c' w' h2 h3 h4
variable {c:Nat} {ao:Option Addr}
theorem src3_row(h:w.ownsRow 0 e 3 (.slice ao n c) n xs)(h1:∀ u∈xs,u.oneCell'=true):Src3 w ao n c xs:=by
 refine ⟨h.1,fun h0=>?_,fun ad ha j u hu=>?_,h1⟩
 ·rcases h.2 with ⟨hv,hz⟩ | ⟨g,cap,cur,hv,_⟩
  ·simp only [Value.slice.injEq]at hv;exact ⟨hz,hv.2.2⟩
  ·simp only [Value.slice.injEq]at hv;rw [h0]at hv;simp at hv
 ·subst ha
  rcases h.2 with ⟨hv,_⟩ | ⟨g,cap,cur,hv,_⟩
  ·simp at hv
  ·simp only [Value.slice.injEq,Option.some.injEq]at hv
   obtain ⟨rfl,_,_⟩:=hv
   exact h.cells (g:=g) rfl j u hu
theorem src3_take{m:Nat}(h:Src3 w ao n c xs)(hm:m≤n):Src3 w ao m c (xs.take (m*3)):=
 ⟨by rw [List.length_take,h.len];omega,fun h0=>⟨by have:=(h.no h0).1;omega,(h.no h0).2⟩,fun ad ha j u hu=>h.at_ ad ha j u (by rw [List.getElem?_take]at hu;split at hu;exact hu;cases hu),fun u hu=>h.one u (List.mem_of_mem_take hu)⟩
theorem lit_row3(W:World)(B:Nat)(a b c:Value)(e:TypeId)(hB:B≤W.heap.size):(W.alloc (.cells #[a,b,c] e)).ownsRow B e 3 (.slice (some ⟨W.heap.size,0,none⟩) 1 1) 1 [a,b,c]:=
 ⟨by simp,.inr ⟨W.heap.size,1,#[a,b,c],rfl,hB,heap_alloc_new _ _,Nat.le_refl _,by unfold maxLen;omega,by simp,by simp⟩⟩
theorem mcells_snoc:∀ (ms:List RM) (vs:List (Value×Value)) (m:RM) (v:Value×Value),vs.length=ms.length→mcells (ms++[m]) (vs++[v])=mcells ms vs++[.int .i64 (m.id:Int),v.1,v.2]
 | [],[],m,v,_=>rfl
 | [],v'::vs,_,_,h=>by simp at h
 | m'::ms,[],_,_,h=>by simp at h
 | m'::ms,v'::vs,m,v,h=>by
  simp only [List.cons_append,mcells,mcells_snoc ms vs m v (by simpa using h)]
theorem mcells_take:∀ (n:Nat) (ms:List RM) (vs:List (Value×Value)),vs.length=ms.length→mcells (ms.take n) (vs.take n)=(mcells ms vs).take (n*3)
 | 0,ms,vs,_=>by simp [mcells]
 | n+1,[],vs,_=>by simp [mcells]
 | n+1,m::ms,[],h=>by simp at h
 | n+1,m::ms,v::vs,h=>by
  have:=mcells_take n ms vs (by simpa using h)
  rw [show (n+1)*3=n*3+1+1+1 by omega]
  simp only [List.take_succ_cons,mcells,this]
theorem mcells_get:∀ (ms:List RM) (vs:List (Value×Value)) (i:Nat) (m:RM) (v:Value×Value),ms[i]? = some m→vs[i]? = some v→(mcells ms vs)[i*3]? = some (.int .i64 (m.id:Int))∧(mcells ms vs)[i*3+1]? = some v.1∧(mcells ms vs)[i*3+2]? = some v.2
 | [],_,i,m,v,h,_=>by simp at h
 | m'::ms,[],i,m,v,_,h=>by simp at h
 | m'::ms,v'::vs,0,m,v,h1,h2=>by
  simp at h1 h2;subst h1;subst h2;simp [mcells]
 | m'::ms,v'::vs,i+1,m,v,h1,h2=>by
  have:=mcells_get ms vs i m v (by simpa using h1) (by simpa using h2)
  rw [show (i+1)*3=i*3+1+1+1 by omega,show i*3+1+1+1+1=(i*3+1)+1+1+1 by omega,show i*3+1+1+1+2=(i*3+2)+1+1+1 by omega]
  simpa [mcells] using this
theorem RefP.one{r:Nat}{S:Nat→Prop}{V:RV}{t:RS}(h:RefP w r S V t):∀ u∈mcells t.marks V.ml,u.oneCell'=true:=by
 have key:∀ (ms:List RM) (vs:List (Value×Value)),vs.length=ms.length→(∀ (i:Nat) (m:RM) (v:Value×Value),ms[i]? = some m→vs[i]? = some v→LAt w S v.1 m.l∧BAt w S v.2 m.c)→∀ u∈mcells ms vs,u.oneCell'=true:=by
  intro ms
  induction ms with
  | nil=>intro vs _ _ u hu;simp [mcells]at hu
  | cons m ms ih=>
   intro vs hl hh u hu
   cases vs with
   | nil=>simp at hl
   | cons v vs=>
    simp only [mcells,List.mem_cons]at hu
    have h0:=hh 0 m v rfl rfl
    rcases hu with rfl |rfl |rfl |hu
    ·rfl
    ·obtain ⟨ao,cap,e,_⟩:=h0.1.form;rw [e];rfl
    ·obtain ⟨ao,cap,e,_⟩:=row_form h0.2.row;rw [e];rfl
    ·exact ih vs (by simpa using hl) (fun i m v h1 h2=>hh (i+1) m v (by simpa using h1) (by simpa using h2)) u hu
 exact key _ _ h.mlen h.each
end
section
open Go.RowKit Go.Maps
open Dsk (gt hid undrew keep_old keep_cell lt_cell Rd DS FS Sec DiskP DFrame Grew From op_at idx dirtD was secD)
open Cch (CS CP Fr wpAnyK wpAnyK_take wpAnyK_pure wpAnyK_ready wpAnyK_done wp_region_K AllReadyK.cons AllReadyK.nil AllReadyK.late)
theorem copied_any(np:Int)(m n:Nat)(D:DataW Unit)(w:World)(h:w.ownsMap Tryz.prog 3 slR m n D) :
  Calls Tryz.prog 71 #[.agg #[.int .i64 np,.map (some m)]] w fun e w'=>∃ m',e=.returned (.agg #[.int .i64 np,.map (some m')])∧w'.ownsMap Tryz.prog 3 slR m' n D∧w.heap.size≤m'∧Below w.heap.size w w':=by
 obtain ⟨w1,hw1⟩:∃ w1,w1=(w.alloc (.cells #[.int .i64 np,.map (some m)] 73)).alloc (.cells #[.int .i64 0,.map none] 73):=⟨_,rfl⟩
 have hb1:Below w.heap.size w w1:=by rw [hw1];exact ((Below.refl _ w).alloc (Nat.le_refl _) _).alloc (by simp) _
 have hs1:w1.heap.size=w.heap.size+2:=by rw [hw1];simp
 have CL:=hid (cloneB_any m n D w1 (map_df h (hb1.block m h.lt)))
 have HB1:=hid hb1;have HS1:=hid hs1
 have x0:w1.heap[w.heap.size]? = some (.cells #[.int .i64 np,.map (some m)] 73 (0,0)):=by rw [hw1,hao _ _ _ (by simp)];exact heap_alloc_new _ _
 have x1:w1.heap[w.heap.size+1]? = some (.cells #[.int .i64 0,.map none] 73 (0,0)):=by rw [hw1];have:=heap_alloc_new (w.alloc (.cells #[.int .i64 np,.map (some m)] 73)) (.cells #[.int .i64 0,.map none] 73);simpa using this
 have X0:=hid x0;have X1:=hid x1;have HW1:=hid hw1
 clear h hb1 hs1 x0 x1 hw1
 go_enter Tryz.func71,Tryz.ntmps71
 go_wp2_with (go_at_call 98;rw [←HW1.out];refine CL.out.mono ?_;rintro e w2 ⟨rfl,hm2,hb2⟩;have M2:=hid hm2;have B2:=hid hb2;have y0:=(hb2.block _ (by have:=HS1.out;omega)).trans X0.out;have y1:=(hb2.block (w.heap.size+1) (by have:=HS1.out;omega)).trans X1.out;have Y0:=hid y0;have Y1:=hid y1;have q0:w2.cell? ⟨w.heap.size,0,none⟩=some (.int .i64 np):=(by rw [World.cell?,y0];rfl);have q1:w2.cell? ⟨w.heap.size,1,none⟩=some (.map (some m)):=(by rw [World.cell?,y0];rfl);have q2:w2.cell? ⟨w.heap.size+1,0,none⟩=some (.int .i64 0):=(by rw [World.cell?,y1];rfl);have q3:w2.cell? ⟨w.heap.size+1,1,none⟩=some (.map none):=(by rw [World.cell?,y1];rfl);have g0:w2.frozen? ⟨w.heap.size,1,none⟩=false:=(by rw [World.frozen?,y0];rfl);have g2:w2.frozen? ⟨w.heap.size+1,0,none⟩=false:=(by rw [World.frozen?,y1];rfl);have g3:w2.frozen? ⟨w.heap.size+1,1,none⟩=false:=(by rw [World.frozen?,y1];rfl);clear hm2 hb2 y0 y1)
 (try simp only [Exit.inBlock,Exit.then])
 obtain ⟨W,hW⟩:∃ W,W=((w2.setCell ⟨w.heap.size,1,none⟩ (.map (some w1.heap.size))).setCell ⟨w.heap.size+1,0,none⟩ (.int .i64 np)).setCell ⟨w.heap.size+1,1,none⟩ (.map (some w1.heap.size)):=⟨_,rfl⟩
 have hbox:W.heap[w.heap.size+1]? = some (.cells #[.int .i64 np,.map (some w1.heap.size)] 73 (0,0)):=by
  have h1:(w2.setCell ⟨w.heap.size,1,none⟩ (.map (some w1.heap.size))).heap[w.heap.size+1]? = some (.cells [Value.int .i64 0,.map none].toArray 73 (0,0)):=by
   rw [heap_setCell_other _ _ _ _ (show w.heap.size+1≠w.heap.size by omega)];exact Y1.out
  rw [hW,Cch.blk_set (Cch.blk_set h1)];rfl
 have hs2:=B2.out.size
 have hbW:Below w.heap.size w W:=by rw [hW];exact (((gt HB1.out B2.out).setCell (Nat.le_refl _) _).setCell (Nat.le_succ _) _).setCell (Nat.le_succ _) _
 rw [←hW]
 refine bodyPost_ret (results_cell_row rfl _ W (w.heap.size+1) 73 _ (0,0) _ rfl hbox Tryz.underlying73 rfl (by kernel_rfl)) rfl ?_
 refine ⟨w1.heap.size,rfl,map_df M2.out ?_,by have:=HS1.out;omega,hbW⟩
 have h3:=HS1.out
 rw [hW,heap_setCell_other _ _ _ _ (show w1.heap.size≠w.heap.size+1 by omega),heap_setCell_other _ _ _ _ (show w1.heap.size≠w.heap.size+1 by omega),heap_setCell_other _ _ _ _ (show w1.heap.size≠w.heap.size by omega)]
structure MK where
 id:Nat
 m:Nat
 n:Nat
 now:List Pg
 c:List Bool
 enc:List Sec
def mkC:List MK→List Value
 | []=>[]
 | k::r=>.int .i64 (k.id:Int)::.int .i64 (k.now.length:Int)::.map (some k.m)::mkC r
theorem mkC_snoc:∀ (ms:List MK) (k:MK),mkC (ms++[k])=mkC ms++[.int .i64 (k.id:Int),.int .i64 (k.now.length:Int),.map (some k.m)]
 | [],k=>rfl
 | a::r,k=>by simp only [List.cons_append,mkC,mkC_snoc r k]
theorem mkC_take:∀ (n:Nat) (ms:List MK),mkC (ms.take n)=(mkC ms).take (n*3)
 | 0,ms=>by simp [mkC]
 | n+1,[]=>by simp [mkC]
 | n+1,k::r=>by
  rw [show (n+1)*3=n*3+1+1+1 by omega]
  simp only [List.take_succ_cons,mkC,mkC_take n r]
theorem mkC_get:∀ (ms:List MK) (i:Nat) (k:MK),ms[i]? = some k→(mkC ms)[i*3]? = some (.int .i64 (k.id:Int))∧(mkC ms)[i*3+1]? = some (.int .i64 (k.now.length:Int))∧(mkC ms)[i*3+2]? = some (.map (some k.m))
 | [],i,k,h=>by simp at h
 | a::r,0,k,h=>by simp at h;subst h;simp [mkC]
 | a::r,i+1,k,h=>by
  have:=mkC_get r i k (by simpa using h)
  rw [show (i+1)*3=i*3+1+1+1 by omega,show i*3+1+1+1+1=(i*3+1)+1+1+1 by omega,show i*3+1+1+1+2=(i*3+2)+1+1+1 by omega]
  simpa [mkC] using this
structure MkAt (w:World) (N:Nat→Prop) (sure:List Pg) (k:MK):Prop where
 chg:Chg w N k.m k.n k.now k.c k.enc
 out:Out w N k.m
 n0:k.m≠0
 wn:Whole k.now
 bn:k.now.length≤4000
 sm:∀ i,i<k.now.length→k.c.getD i false=false→i<sure.length∧k.now.getD i []=sure.getD i []
def PC.mv(x:PC):Value:=.slice x.mo x.ml x.mc
structure Mks (w:World) (p:Nat) (x:PC) (P:Dsk.Parts) (C:Cch.Parts) (sure:List Pg) (ms:List MK):Prop where
 row:w.ownsRow 0 102 3 x.mv ms.length (mkC ms)
 ml:x.ml=ms.length
 out:∀ b,x.mv.ownBlock=some b→Out w (NC p x P C) b
 each:∀ k∈ms,MkAt w (NC p x P C) sure k∧k.m≠x.m
 rise:(ms.map MK.id).Pairwise (· < ·)
 ids:∀ k∈ms,1≤k.id∧k.id≤x.last
theorem Mks.nil(w:World)(p:Nat)(x:PC)(P:Dsk.Parts)(C:Cch.Parts)(sure:List Pg)(h:x.mo=none∧x.ml=0∧x.mc=0):Mks w p x P C sure []:=
 ⟨⟨rfl,Or.inl ⟨by unfold PC.mv;rw [h.1,h.2.1,h.2.2],rfl⟩⟩,h.2.1,(fun b hb=>by unfold PC.mv at hb;rw [h.1]at hb;cases hb),fun k hk=>(by cases hk),List.Pairwise.nil,fun k hk=>(by cases hk)⟩
variable {x:PC} {w:World}
theorem Mks.move{w':World}{p:Nat}{x':PC}{P P':Dsk.Parts}{C C':Cch.Parts}{sure:List Pg}{ms:List MK}(h:Mks w p x P C sure ms)(hx:x'.mo=x.mo∧x'.ml=x.ml∧x'.mc=x.mc∧x'.last=x.last)(hm:∀ k∈ms,k.m≠x'.m)
  (ho:∀ b,Out w (NC p x P C) b→Out w' (NC p x' P' C') b) (hb:∀ b,Out w (NC p x P C) b→(∀ o v,w.cell? ⟨b,o,none⟩=some v→w'.cell? ⟨b,o,none⟩=some v)∧(b≠x.m→w'.heap[b]? = w.heap[b]?)) (hxm:∀ b,x.mv.ownBlock=some b→b≠x.m):Mks w' p x' P' C' sure ms:=by
 have ev:x'.mv=x.mv:=by unfold PC.mv;rw [hx.1,hx.2.1,hx.2.2.1]
 refine ⟨?_,hx.2.1.trans h.ml,fun b hb=>ho b (h.out b (by rw [←ev];exact hb)),fun k hk=>⟨?_,hm k hk⟩,h.rise,fun k hk=>by rw [hx.2.2.2];exact h.ids k hk⟩
 ·rw [ev]
  refine ⟨h.row.1,?_⟩
  rcases h.row.2 with hn | ⟨g,cap,cur,e,hb',hg,hr⟩
  ·exact .inl hn
  ·have hown:x.mv.ownBlock=some g:=by rw [e];rfl
   exact .inr ⟨g,cap,cur,e,hb',((hb g (h.out g hown)).2 (hxm g hown)).trans hg,hr⟩
 ·obtain ⟨⟨h1,h2,h3,h4,h5,h6⟩,h7⟩:=h.each k hk
  exact ⟨h1.turn ((hb k.m h2).2 h7) ho (fun b o v hob hc=>(hb b hob).1 o v hc),ho _ h2,h3,h4,h5,h6⟩
theorem mv_ne{n m N:Nat}{xs:List Value}{D:DataW Unit}(h:w.ownsRow 0 102 3 x.mv n xs)(hm:w.ownsMap Tryz.prog 3 slR m N D):∀ b,x.mv.ownBlock=some b→b≠m:=fun b hb e=>by
 obtain ⟨cur,hc⟩:=rr_kind h hb
 obtain ⟨es,cl,h1,_⟩:=hm
 subst e
 rw [h1]at hc;cases hc
end
section
open Go.RowKit Go.Maps
open Dsk (gt hid undrew keep_old keep_cell lt_cell Rd DS FS Sec DiskP DFrame Grew From op_at idx dirtD was secD)
open Cch (CS CP Fr)
def EncOff(E:Nat→Prop)(enc:List Sec):Prop:=∀ b o l c,[b,o,l,c]∈enc→¬E b
variable {enc:List Sec}
theorem was_mem{i:Nat}(h:i<enc.length):was enc i∈enc:=by
 unfold was;rw [List.getD,List.getElem?_eq_getElem h];exact List.getElem_mem h
variable {c:List Bool} {now:List Pg} {m n:Nat} {E N:Nat→Prop} {w w':World}
theorem Chg.off{N':Nat→Prop}(h:Chg w N m n now c enc)(hf:Fr E w w')(hm:¬E m)(he:EncOff E enc)(ho:∀ b,Out w N b→Out w' N' b):Chg w' N' m n now c enc:=
 ⟨map_df h.map (hf.blk m h.map.lt hm),h.len,h.el,fun i hi=>by
  obtain ⟨b,o,cap,e,hr,hob⟩:=h.at_ i hi
  have hil:i<c.length:=by
   rcases Nat.lt_or_ge i c.length with h1 |h1
   ·exact h1
   ·rw [List.getD,List.getElem?_eq_none h1]at hi;cases hi
  have hb:¬E b:=he b o 512 cap (by rw [←e];exact was_mem (by rw [h.el];omega))
  refine ⟨b,o,cap,e,⟨hr.1,hr.2.1,hr.2.2.1,fun hp=>?_⟩,ho _ hob⟩
  obtain ⟨b',o',e',h2⟩:=hr.2.2.2 hp
  simp only [Option.some.injEq,Addr.mk.injEq,and_true]at e'
  obtain ⟨rfl,rfl⟩:=e'
  exact ⟨b,o,rfl,fun t ht=>fr_cell hf (h2 t ht) hb⟩⟩
variable {s:CS} {d:DS} {x:PC} {p:Nat}
theorem Core.off{P:Dsk.Parts}{C:Cch.Parts}(h:Core w p x P C d s)(hf:Fr E w w')(hN:∀ b,NC p x P C b→¬E b):Core w' p x P C d s:=
 ⟨h.hd.stay (hf.blk p h.hd.lt (hN p (Or.inr (Or.inr rfl)))),h.dk.stay hf.size (fun b hb hd=>hf.blk b hb (hN b (Or.inl (by rcases hd with h1 |h1;exact Or.inr h1;exact Or.inl h1)))),h.ck.stay (fun b hb hS=>hf.blk b hb (hN b (Or.inr (Or.inl hS)))),h.dc,h.dp,h.cp⟩
variable {sure:List Pg}
theorem Tx.off{P:Dsk.Parts}{C:Cch.Parts}(h:Tx w p x P C d s sure n now c enc)(hf:Fr E w w')(hN:∀ b,NC p x P C b→¬E b)(hm:¬E x.m)(h0:¬E 0)(he:EncOff E enc):Tx w' p x P C d s sure n now c enc:=
 ⟨h.core.off hf hN,h.chg.off hf hm he (fun _ ho=>ho.later hf.size),h.mo.later hf.size,h.fits,h.pages,h.np,h.ws,h.wn,h.bs,h.bn,tab_of h.tab (hf.blk 0 h.t0.1 h0),h.t0.later hf.size,h.tm,h.sm⟩
variable {x':PC}
theorem Tx.reset{P:Dsk.Parts}{C:Cch.Parts}(h:Tx w p x P C d s sure n now c enc)(hP:PgAt w' p x')(e:x'.q=x.q∧x'.k=x.k∧x'.pages=x.pages∧x'.np=x.np∧x'.m=x.m)(hf:Fr (fun b=>b=p) w w'):Tx w' p x' P C d s sure n now c enc:=by
 obtain ⟨e1,e2,e3,e4,e5⟩:=e
 have hnc:∀ b,NC p x' P C b↔NC p x P C b:=fun b=>by unfold NC;rw [e1,e2]
 have ho:∀ b,Out w (NC p x P C) b→Out w' (NC p x' P C) b:=fun b hb=>⟨Nat.lt_of_lt_of_le hb.1 hf.size,fun h1=>hb.2 ((hnc b).1 h1)⟩
 have hop:∀ b,Out w (NC p x P C) b→b≠p:=fun b hb e=>hb.2 (Or.inr (Or.inr e))
 refine ⟨⟨hP,by rw [e1];exact h.core.dk.stay hf.size (fun b hb hd=>hf.blk b hb (fun e=>h.core.dp (by rcases hd with h1 |h1;exact Or.inr (e▸h1);exact Or.inl (e▸h1)))),by rw [e2];exact h.core.ck.stay (fun b hb hS=>hf.blk b hb (fun e=>h.core.cp (e▸hS))),by rw [e1,e2];exact h.core.dc,by rw [e1];exact h.core.dp,by rw [e2];exact h.core.cp⟩,?_,?_,h.fits,e3.trans h.pages,e4.trans h.np,h.ws,h.wn,h.bs,h.bn,tab_of h.tab (hf.blk 0 h.t0.1 (hop 0 h.t0)),ho 0 h.t0,by rw [e5];exact h.tm,h.sm⟩
 ·rw [e5];exact h.chg.turn (hf.blk _ h.mo.1 (hop _ h.mo)) ho (fun b o v hb hc=>fr_cell hf hc (hop b hb))
 ·rw [e5];exact ho _ h.mo
def Sup(p:Nat)(x:PC)(P:Dsk.Parts)(C:Cch.Parts)(enc:List Sec)(ms:List MK):Nat→Prop:=fun b=>NC p x P C b∨b=x.m∨b=0∨x.mv.ownBlock=some b∨(∃ o l c,[b,o,l,c]∈enc)∨∃ k∈ms,b=k.m∨∃ o l c,[b,o,l,c]∈k.enc
structure Live (w:World) (p:Nat) (x:PC) (P:Dsk.Parts) (C:Cch.Parts) (d:DS) (s:CS) (sure:List Pg) (n:Nat) (now:List Pg) (c:List Bool) (enc:List Sec) (ms:List MK):Prop where
 tx:Tx w p x P C d s sure n now c enc
 mks:Mks w p x P C sure ms
 sep:∀ b,x.mv.ownBlock=some b→EncOff (fun k=>k=b) enc∧(∀ k∈ms,EncOff (fun k=>k=b) k.enc)∧b≠0
 eb:∀ b o l cc,[b,o,l,cc]∈enc→Out w (NC p x P C) b
 ek:∀ k∈ms,∀ b o l cc,[b,o,l,cc]∈k.enc→Out w (NC p x P C) b
variable {ms:List MK}
theorem Live.lt{P:Dsk.Parts}{C:Cch.Parts}(h:Live w p x P C d s sure n now c enc ms):∀ b,Sup p x P C enc ms b→b<w.heap.size:=fun b hb=>by
 rcases hb with hb |rfl |rfl |hb | ⟨o,l,cc,hb⟩ | ⟨k,hk,rfl | ⟨o,l,cc,hb⟩⟩
 ·exact h.tx.core.lt hb
 ·exact h.tx.mo.1
 ·exact h.tx.t0.1
 ·exact (h.mks.out b hb).1
 ·exact (h.eb b o l cc hb).1
 ·exact (h.mks.each k hk).1.out.1
 ·exact (h.ek k hk b o l cc hb).1
theorem Live.off{P:Dsk.Parts}{C:Cch.Parts}(h:Live w p x P C d s sure n now c enc ms)(hf:Fr E w w')(hE:∀ b,Sup p x P C enc ms b→¬E b):Live w' p x P C d s sure n now c enc ms:=by
 have hN:∀ b,NC p x P C b→¬E b:=fun b hb=>hE b (Or.inl hb)
 refine ⟨h.tx.off hf hN (hE _ (Or.inr (Or.inl rfl))) (hE _ (Or.inr (Or.inr (Or.inl rfl)))) (fun b o l cc hb=>hE b (Or.inr (Or.inr (Or.inr (Or.inr (Or.inl ⟨o,l,cc,hb⟩)))))),⟨rr_fr h.mks.row hf (fun k hk=>hE k (Or.inr (Or.inr (Or.inr (Or.inl hk))))),h.mks.ml,fun b hb=>(h.mks.out b hb).later hf.size,fun k hk=>?_,h.mks.rise,h.mks.ids⟩,h.sep,fun b o l cc hb=>(h.eb b o l cc hb).later hf.size,fun k hk b o l cc hb=>(h.ek k hk b o l cc hb).later hf.size⟩
 obtain ⟨⟨h1,h2,h3,h4,h5,h6⟩,h7⟩:=h.mks.each k hk
 exact ⟨⟨h1.off hf (hE _ (Or.inr (Or.inr (Or.inr (Or.inr (Or.inr ⟨k,hk,Or.inl rfl⟩)))))) (fun b o l cc hb=>hE b (Or.inr (Or.inr (Or.inr (Or.inr (Or.inr ⟨k,hk,Or.inr ⟨o,l,cc,hb⟩⟩)))))) (fun _ ho=>ho.later hf.size),h2.later hf.size,h3,h4,h5,h6⟩,h7⟩
theorem Live.later{P:Dsk.Parts}{C:Cch.Parts}(h:Live w p x P C d s sure n now c enc ms)(hb:Below w.heap.size w w'):Live w' p x P C d s sure n now c enc ms:=
 h.off (fr_below (S:=fun _=>False) hb) (fun _ _ h=>h)
def Own(p:Nat)(x:PC)(P:Dsk.Parts)(C:Cch.Parts):Nat→Prop:=fun b=>NC p x P C b∨b=x.m∨x.mv.ownBlock=some b
theorem Own.sup{P:Dsk.Parts}{C:Cch.Parts}{b:Nat}(h:Own p x P C b):Sup p x P C enc ms b:=by
 rcases h with h |h |h
 ·exact Or.inl h
 ·exact Or.inr (Or.inl h)
 ·exact Or.inr (Or.inr (Or.inr (Or.inl h)))
theorem Live.own0{P:Dsk.Parts}{C:Cch.Parts}(h:Live w p x P C d s sure n now c enc ms):¬Own p x P C 0:=fun hb=>by
 rcases hb with hb |hb |hb
 ·exact h.tx.t0.2 hb
 ·exact h.tx.tm hb.symm
 ·exact (h.sep 0 hb).2.2 rfl
structure LTo (w w':World) (p:Nat) (x x':PC) (P:Dsk.Parts) (C:Cch.Parts) (d d':DS) (s:CS) (sure sure':List Pg) (N n':Nat) (now':List Pg) (c':List Bool) (enc:List Sec) (ms:List MK) (ms':List MK):Prop where
 is:∃ P' C' s' enc',Live w' p x' P' C' d' s' sure' n' now' c' enc' ms'∧(∀ b,Sup p x' P' C' enc' ms' b→Sup p x P C enc ms b∨w.heap.size≤b)∧s'.hit+s'.miss≤s.hit+s.miss+N∧s'.room=s.room
 fr:Fr (Own p x P C) w w'
theorem enc_nil(n:Nat):∀ b o l c,[b,o,l,c]∈List.replicate n ([]:Sec)→False:=fun b o l c h=>by
 have:=List.eq_of_mem_replicate h;cases this
theorem Rest.live{P:Dsk.Parts}{C:Cch.Parts}(h:Rest w p x P C d s sure)(hx:x.mo=none∧x.ml=0∧x.mc=0):Live w p x P C d s sure 0 sure (List.replicate sure.length false) (List.replicate (sure.length+1) []) []:=
 ⟨h,Mks.nil w p x P C sure hx,(fun b hb=>by unfold PC.mv at hb;rw [hx.1]at hb;cases hb),fun b o l cc hb=>(enc_nil _ b o l cc hb).elim,(fun k hk=>by cases hk)⟩
theorem rest_lto{P P':Dsk.Parts}{C C':Cch.Parts}{d':DS}{s':CS}{sure':List Pg}{N:Nat}(hr:Rest w' p x' P' C' d' s' sure')(hx:x'.mo=none∧x'.ml=0∧x'.mc=0)(hq:x'.q=x.q∧x'.k=x.k)(hm:w.heap.size≤x'.m)(hM:More p x P P' C C' w)(hf:Fr (NC p x P C) w w')(hs:s'.hit+s'.miss≤s.hit+s.miss+N)(hrm:s'.room=s.room) :
  LTo w w' p x x' P C d d' s sure sure' N 0 sure' (List.replicate sure'.length false) enc ms []:=by
 refine ⟨⟨P',C',s',_,hr.live hx,fun b hb=>?_,hs,hrm⟩,fr_imp hf (fun b hb=>Or.inl hb)⟩
 rcases hb with hb |rfl |rfl |hb | ⟨o,l,cc,hb⟩ | ⟨k,hk,_⟩
 ·have:NC p x P' C' b:=by unfold NC at hb ⊢;rw [hq.1,hq.2]at hb;exact hb
  rcases hM b this with h1 |h1
  ·exact Or.inl (Or.inl h1)
  ·exact Or.inr h1
 ·exact Or.inr hm
 ·exact Or.inl (Or.inr (Or.inr (Or.inl rfl)))
 ·unfold PC.mv at hb;rw [hx.1]at hb;cases hb
 ·exact (enc_nil _ _ o l cc hb).elim
 ·cases hk
def clean(c:List Bool)(enc:List Sec):List Sec:=(List.range (c.length+1)).map fun j=>if (false::c).getD j false=true then was enc j else []
theorem clean_was{j:Nat}(h:(false::c).getD j false=true):was (clean c enc) j=was enc j:=by
 have hj:j<c.length+1:=by
  rcases Nat.lt_or_ge j (false::c).length with h1 |h1
  ·simpa using h1
  ·rw [List.getD,List.getElem?_eq_none h1]at h;cases h
 unfold was clean
 rw [List.getD,List.getElem?_map,List.getElem?_range hj]
 simp only [Option.map_some,Option.getD_some,h,if_true]
 rfl
theorem clean_dirt(c:List Bool)(enc:List Sec):dirtD (false::c) (clean c enc)=dirtD (false::c) enc:=by
 unfold dirtD
 congr 1
 apply List.map_congr_left
 intro i hi
 unfold Dsk.entry
 rw [clean_was (Dsk.mem_idx.1 hi)]
theorem Tx.clean{P:Dsk.Parts}{C:Cch.Parts}(h:Tx w p x P C d s sure n now c enc):Tx w p x P C d s sure n now c (clean c enc):=
 ⟨h.core,⟨by rw [clean_dirt];exact h.chg.map,h.chg.len,by unfold YtadhdedjdgjboaaGreatDoor.clean;simp,fun i hi=>by
  obtain ⟨b,o,cap,e,r⟩:=h.chg.at_ i hi
  exact ⟨b,o,cap,by rw [clean_was (by simpa using hi)];exact e,r⟩⟩,h.mo,h.fits,h.pages,h.np,h.ws,h.wn,h.bs,h.bn,h.tab,h.t0,h.tm,h.sm⟩
theorem clean_mem(h:Chg w N m n now c enc){b o l cc:Nat}(hb:[b,o,l,cc]∈clean c enc):[b,o,l,cc]∈enc∧Out w N b:=by
 obtain ⟨j,hj,e⟩:=List.mem_map.1 hb
 split at e
 ·rename_i hc
  cases j with
  | zero=>simp at hc
  | succ i=>
   have hci:c.getD i false=true:=by simpa using hc
   obtain ⟨b',o',cap,e2,_,h3⟩:=h.at_ i hci
   rw [e2]at e
   simp only [List.cons.injEq,and_true]at e
   have:=List.mem_range.1 hj
   refine ⟨?_,by rw [←e.1];exact h3⟩
   rw [show [b,o,l,cc]=was enc (i+1) by rw [e2,e.1,e.2.1,e.2.2.1,e.2.2.2]]
   exact was_mem (by rw [h.el];omega)
 ·cases e
theorem Live.put{P:Dsk.Parts}{C:Cch.Parts}{n':Nat}{now':List Pg}{c':List Bool}(h:Live w p x P C d s sure n now c enc ms)(hx:x'.q=x.q∧x'.k=x.k∧x'.m=x.m∧x'.mo=x.mo∧x'.ml=x.ml∧x'.mc=x.mc∧x'.last=x.last)(k:PutE w w' p x x' P C d s sure n' now' c' enc):LTo w w' p x x' P C d d s sure sure 0 n' now' c' enc ms ms:=by
 obtain ⟨enc',hT,hE⟩:=k.is
 have hf:=k.fr
 obtain ⟨e1,e2,e3,e4,e5,e6,e7⟩:=hx
 have ev:x'.mv=x.mv:=by unfold PC.mv;rw [e4,e5,e6]
 have hnc:∀ b,NC p x' P C b↔NC p x P C b:=fun b=>by unfold NC;rw [e1,e2]
 have hxm:=mv_ne h.mks.row h.tx.chg.map
 have hmk:Mks w' p x' P C sure ms:=h.mks.move ⟨e4,e5,e6,e7⟩ (fun k hk=>by rw [e3];exact (h.mks.each k hk).2) (fun b ho=>⟨Nat.lt_of_lt_of_le ho.1 hf.size,fun h1=>ho.2 ((hnc b).1 h1)⟩) (fun b ho=>⟨fun o v hc=>fr_cell hf hc (fun e=>by
  rcases e with e |e
  ·exact ho.2 (Or.inr (Or.inr e))
  ·subst e;exact cell_no_map h.tx.chg.map hc),fun hb=>hf.blk b ho.1 (fun e=>by
  rcases e with e |e
  ·exact ho.2 (Or.inr (Or.inr e))
  ·exact hb e)⟩) hxm
 have key:∀ b o l cc,[b,o,l,cc]∈clean c' enc'→[b,o,l,cc]∈enc∨w.heap.size≤b:=fun b o l cc hb=>by
  rcases hE _ (clean_mem hT.chg hb).1 with h1 | ⟨g,l',c2,e,h1⟩
  ·exact Or.inl h1
  ·simp only [List.cons.injEq,and_true]at e
   rw [e.1];exact Or.inr h1
 have hlt:∀ b o l cc,[b,o,l,cc]∈clean c' enc'→Out w' (NC p x' P C) b:=fun b o l cc hb=>(clean_mem hT.chg hb).2
 refine ⟨⟨P,C,s,clean c' enc',⟨hT.clean,hmk,fun b hb=>?_,hlt,fun k hk b o l cc hb=>⟨Nat.lt_of_lt_of_le (h.ek k hk b o l cc hb).1 hf.size,fun h1=>(h.ek k hk b o l cc hb).2 ((hnc b).1 h1)⟩⟩,fun b hb=>?_,by omega,rfl⟩,fr_imp hf (fun b hb=>by rcases hb with rfl |rfl;exact Or.inl (Or.inr (Or.inr rfl));exact Or.inr (Or.inl rfl))⟩
 ·rw [ev]at hb
  refine ⟨fun b2 o l cc h2 e=>?_,(h.sep b hb).2⟩
  subst e
  rcases key _ o l cc h2 with h1 |h1
  ·exact (h.sep _ hb).1 _ o l cc h1 rfl
  ·have:=(h.mks.out _ hb).1;omega
 ·rcases hb with hb |hb |rfl |hb | ⟨o,l,cc,hb⟩ |hb
  ·exact Or.inl (Or.inl ((hnc b).1 hb))
  ·rw [e3]at hb;exact Or.inl (Or.inr (Or.inl hb))
  ·exact Or.inl (Or.inr (Or.inr (Or.inl rfl)))
  ·rw [ev]at hb;exact Or.inl (Or.inr (Or.inr (Or.inr (Or.inl hb))))
  ·rcases key b o l cc hb with h1 |h1
   ·exact Or.inl (Or.inr (Or.inr (Or.inr (Or.inr (Or.inl ⟨o,l,cc,h1⟩)))))
   ·exact Or.inr h1
  ·exact Or.inl (Or.inr (Or.inr (Or.inr (Or.inr (Or.inr hb)))))
end
section
open Go.RowKit Go.Maps
open Dsk (gt hid undrew keep_old keep_cell lt_cell Rd DS FS Sec DiskP DFrame Grew From op_at idx dirtD was secD)
open Cch (CS CP Fr wpAnyK wpAnyK_take wpAnyK_pure wpAnyK_ready wpAnyK_done wp_region_K AllReadyK.cons AllReadyK.nil AllReadyK.late)
def PC.marked(x:PC)(mo:Option Addr)(ml mc:Nat):PC:={ x with mo:=mo,ml:=ml,mc:=mc,last:=x.last+1 }
theorem pairwise_snoc{l:List Nat}{a:Nat}(h:l.Pairwise (· < ·))(ha:∀ b∈l,b<a):(l++[a]).Pairwise (· < ·):=
 List.pairwise_append.2 ⟨h,List.pairwise_singleton _ _,fun x hx y hy=>by simp at hy;subst hy;exact ha x hx⟩
variable {enc:List Sec} {c:List Bool} {now sure:List Pg} {n p:Nat} {s:CS} {d:DS} {x x':PC} {w w':World}
theorem Tx.reset2{E:Nat→Prop}{P:Dsk.Parts}{C:Cch.Parts}(h:Tx w p x P C d s sure n now c enc)(hP:PgAt w' p x')(e:x'.q=x.q∧x'.k=x.k∧x'.pages=x.pages∧x'.np=x.np∧x'.m=x.m)(hf:Fr E w w')(hN:∀ b,NC p x P C b→b≠p→¬E b)(hm:¬E x.m)(h0:¬E 0)(he:EncOff E enc):Tx w' p x' P C d s sure n now c enc:=by
 obtain ⟨e1,e2,e3,e4,e5⟩:=e
 have hnc:∀ b,NC p x' P C b↔NC p x P C b:=fun b=>by unfold NC;rw [e1,e2]
 have ho:∀ b,Out w (NC p x P C) b→Out w' (NC p x' P C) b:=fun b hb=>⟨Nat.lt_of_lt_of_le hb.1 hf.size,fun h1=>hb.2 ((hnc b).1 h1)⟩
 refine ⟨⟨hP,by rw [e1];exact h.core.dk.stay hf.size (fun b hb hd=>hf.blk b hb (hN b (Or.inl (by rcases hd with h1 |h1;exact Or.inr h1;exact Or.inl h1)) (fun e=>h.core.dp (by rcases hd with h1 |h1;exact Or.inr (e▸h1);exact Or.inl (e▸h1))))),by rw [e2];exact h.core.ck.stay (fun b hb hS=>hf.blk b hb (hN b (Or.inr (Or.inl hS)) (fun e=>h.core.cp (e▸hS)))),by rw [e1,e2];exact h.core.dc,by rw [e1];exact h.core.dp,by rw [e2];exact h.core.cp⟩,?_,?_,h.fits,e3.trans h.pages,e4.trans h.np,h.ws,h.wn,h.bs,h.bn,tab_of h.tab (hf.blk 0 h.t0.1 h0),ho 0 h.t0,by rw [e5];exact h.tm,h.sm⟩
 ·rw [e5];exact h.chg.off hf hm he ho
 ·rw [e5];exact ho _ h.mo
variable {ms:List MK}
theorem mark_done{w0 w3 w5 W:World}{l1 m3:Nat}{P:Dsk.Parts}{C:Cch.Parts}{a5:Option Addr}{c5:Nat}(h:Live w p x P C d s sure n now c enc ms)(hl1:l1=x.last+1)
  (h0:w0=w.setCell ⟨p,9,none⟩ (.int .i64 (l1:Int))) (b3:Below w0.heap.size w0 w3) (hm3:w3.ownsMap Tryz.prog 3 slR m3 n (dirtD (false::c) enc)) (hn3:w.heap.size≤m3)
  (g5:(w3.alloc (.cells #[.int .i64 (l1:Int),.int .i64 (x.np:Int),.map (some m3)] 102)).grownBy w5 x.mv.ownBlock) (R:w5.ownsRow 0 102 3 (.slice a5 (ms.length+1) c5) (ms.length+1) (mkC ms++[.int .i64 (l1:Int),.int .i64 (x.np:Int),.map (some m3)]))
  (ha5:∀ a,a5=some a→(x.mv.ownBlock=some a.block∨w.heap.size≤a.block)) (hW:W=w5.setCell ⟨p,8,none⟩ (.slice a5 (ms.length+1) c5)) :
  LTo w W p x (x.marked a5 (ms.length+1) c5) P C d d s sure sure 0 n now c enc ms (ms++[⟨l1,m3,n,now,c,enc⟩]):=by
 have hnp:=h.tx.np
 have f0:Fr (fun b=>b=p) w w0:=by rw [h0];exact set_frame (Fr.refl _ _)
 have hs0:w0.heap.size=w.heap.size:=by rw [h0];simp
 obtain ⟨w4,hw4⟩:∃ w4,w4=w3.alloc (.cells #[.int .i64 (l1:Int),.int .i64 (x.np:Int),.map (some m3)] 102):=⟨_,rfl⟩
 rw [←hw4]at g5
 have b4:Below w0.heap.size w0 w4:=by rw [hw4];exact b3.alloc (b3.size) _
 have f5:Fr (fun b=>x.mv.ownBlock=some b) w4 w5:=fr_grown g5
 have fW:Fr (fun b=>b=p) w5 W:=by rw [hW];exact set_frame (Fr.refl _ _)
 have f0':Fr (fun b=>b=p∨x.mv.ownBlock=some b) w w0:=fr_imp f0 (fun _ h=>Or.inl h)
 have f04:=f0'.trans (fr_below (S:=fun _=>False) b4) (fun _ _ h=>h.elim)
 have f05:=f04.trans f5 (fun _ _ h=>Or.inr h)
 have ff:Fr (fun b=>b=p∨x.mv.ownBlock=some b) w W:=f05.trans fW (fun _ _ h=>Or.inl h)
 have hxm:=mv_ne h.mks.row h.tx.chg.map
 have hpo:∀ b,Out w (NC p x P C) b→b≠p:=fun b hb e=>hb.2 (Or.inr (Or.inr e))
 have hpl:=h.tx.core.hd.lt
 have hmvp:∀ b,x.mv.ownBlock=some b→b≠p:=fun b hb=>hpo b (h.mks.out b hb)
 have hP0:PgAt w0 p { x with last:=l1 }:=by
  have:=Cch.blk_set h.tx.core.hd (i:=9) (v:=.int .i64 (l1:Int))
  unfold PgAt;rw [h0,this];rfl
 have hP5:PgAt w5 p { x with last:=l1 }:=(hP0.later b4).stay (f5.blk p (by have:=b4.size;omega) (fun e=>hmvp p e rfl))
 have hPW:PgAt W p (x.marked a5 (ms.length+1) c5):=by
  have:=Cch.blk_set hP5 (i:=8) (v:=.slice a5 (ms.length+1) c5)
  unfold PgAt;rw [hW,this,hl1];rfl
 have hEe:∀ {e:List Sec},(∀ b o l cc,[b,o,l,cc]∈e→Out w (NC p x P C) b)→(∀ b,x.mv.ownBlock=some b→EncOff (fun k=>k=b) e)→EncOff (fun b=>b=p∨x.mv.ownBlock=some b) e:=fun {e} h1 h2 b o l cc hb he=>by
  rcases he with he |he
  ·exact hpo b (h1 b o l cc hb) he
  ·exact h2 b he b o l cc hb rfl
 have hnc:∀ b,NC p (x.marked a5 (ms.length+1) c5) P C b↔NC p x P C b:=fun b=>Iff.rfl
 have hoo:∀ b,Out w (NC p x P C) b→Out W (NC p (x.marked a5 (ms.length+1) c5) P C) b:=fun b hb=>⟨Nat.lt_of_lt_of_le hb.1 ff.size,hb.2⟩
 have hTx:Tx W p (x.marked a5 (ms.length+1) c5) P C d s sure n now c enc:=h.tx.reset2 hPW ⟨rfl,rfl,rfl,rfl,rfl⟩ ff (fun b hb hbp e=>by
  rcases e with e |e
  ·exact hbp e
  ·exact (h.mks.out b e).2 hb) (fun e=>by
  rcases e with e |e
  ·exact hpo _ h.tx.mo e
  ·exact hxm _ e rfl) (fun e=>by
  rcases e with e |e
  ·exact hpo _ h.tx.t0 e
  ·exact (h.sep 0 e).2.2 rfl) (hEe h.eb (fun b hb=>(h.sep b hb).1))
 have hmlt:m3<w3.heap.size:=hm3.lt
 have hmW:W.ownsMap Tryz.prog 3 slR m3 n (dirtD (false::c) enc):=by
  refine map_df hm3 ?_
  have e4:w4.heap[m3]? = w3.heap[m3]?:=by rw [hw4];exact hao _ _ _ hmlt
  have h4l:m3<w4.heap.size:=by rw [hw4];simp;omega
  have e5:=f5.blk m3 h4l (fun e=>by have:=(h.mks.out m3 e).1;omega)
  have eW:=fW.blk m3 (Nat.lt_of_lt_of_le h4l f5.size) (fun e=>by omega)
  exact eW.trans (e5.trans e4)
 have hbnd:∀ b,(Value.slice a5 (ms.length+1) c5).ownBlock=some b→x.mv.ownBlock=some b∨w.heap.size≤b:=fun b hb=>by
  cases a5 with
  | none=>cases hb
  | some a=>cases hb;exact ha5 a rfl
 have hRW:W.ownsRow 0 102 3 (.slice a5 (ms.length+1) c5) (ms.length+1) (mkC ms++[.int .i64 (l1:Int),.int .i64 (x.np:Int),.map (some m3)]):=rr_fr R fW (fun b hb e=>by
  rcases hbnd b hb with h1 |h1
  ·exact hmvp b h1 e
  ·omega)
 have hmo3:Out W (NC p x P C) m3:=⟨hmW.lt,fun h1=>by have:=h.tx.core.lt h1;omega⟩
 have hmk:Mks W p (x.marked a5 (ms.length+1) c5) P C sure (ms++[⟨l1,m3,n,now,c,enc⟩]):=by
  refine ⟨?_,by simp [PC.marked],fun b hb=>?_,fun k hk=>?_,?_,fun k hk=>?_⟩
  ·rw [List.length_append,mkC_snoc]
   have:=hRW
   rw [hnp]at this;exact this
  ·rcases hbnd b hb with h1 |h1
   ·exact hoo b (h.mks.out b h1)
   ·exact ⟨(rr_blk hRW hb).2,fun h2=>by have:=h.tx.core.lt h2;omega⟩
  ·rcases List.mem_append.1 hk with hk |hk
   ·obtain ⟨⟨h1,h2,h3,h4,h5,h6⟩,h7⟩:=h.mks.each k hk
    have hkm:=mv_ne h.mks.row h1.map
    exact ⟨⟨h1.off ff (fun e=>by rcases e with e |e;exact hpo _ h2 e;exact hkm _ e rfl) (hEe (h.ek k hk) (fun b hb=>(h.sep b hb).2.1 k hk)) hoo,hoo _ h2,h3,h4,h5,h6⟩,h7⟩
   ·simp at hk;subst hk
    exact ⟨⟨⟨hmW,h.tx.chg.len,h.tx.chg.el,fun i hi=>hTx.chg.at_ i hi⟩,hmo3,by show m3≠0;have:=h.tx.t0.1;omega,h.tx.wn,h.tx.bn,h.tx.sm⟩,by show m3≠x.m;have:=h.tx.mo.1;omega⟩
  ·rw [List.map_append]
   exact pairwise_snoc h.mks.rise (fun b hb=>by
    obtain ⟨k,hk,rfl⟩:=List.mem_map.1 hb
    have:=(h.mks.ids k hk).2;show k.id<l1;omega)
  ·rcases List.mem_append.1 hk with hk |hk
   ·have:=h.mks.ids k hk
    exact ⟨this.1,by show k.id≤x.last+1;omega⟩
   ·simp at hk;subst hk
    exact ⟨by show 1≤l1;omega,by show l1≤x.last+1;omega⟩
 refine ⟨⟨P,C,s,enc,⟨hTx,hmk,fun b hb=>?_,fun b o l cc hb=>hoo b (h.eb b o l cc hb),fun k hk b o l cc hb=>?_⟩,fun b hb=>?_,by omega,rfl⟩,fr_imp ff (fun b hb=>by
  rcases hb with rfl |hb
  ·exact Or.inl (Or.inr (Or.inr rfl))
  ·exact Or.inr (Or.inr hb))⟩
 ·have hall:∀ e:List Sec,(∀ b o l cc,[b,o,l,cc]∈e→Out w (NC p x P C) b)→(∀ b,x.mv.ownBlock=some b→EncOff (fun k=>k=b) e)→EncOff (fun k=>k=b) e:=fun e h1 h2 b2 o l cc h3 e2=>by
   subst e2
   rcases hbnd _ hb with h4 |h4
   ·exact h2 _ h4 _ o l cc h3 rfl
   ·have:=(h1 _ o l cc h3).1;omega
  refine ⟨hall enc h.eb (fun b hb=>(h.sep b hb).1),fun k hk=>?_,?_⟩
  ·rcases List.mem_append.1 hk with hk |hk
   ·exact hall k.enc (h.ek k hk) (fun b hb=>(h.sep b hb).2.1 k hk)
   ·simp at hk;subst hk;exact hall enc h.eb (fun b hb=>(h.sep b hb).1)
  ·rcases hbnd b hb with h4 |h4
   ·exact (h.sep b h4).2.2
   ·have:=h.tx.t0.1;omega
 ·rcases List.mem_append.1 hk with hk |hk
  ·exact hoo b (h.ek k hk b o l cc hb)
  ·simp at hk;subst hk;exact hoo b (h.eb b o l cc hb)
 ·rcases hb with hb |hb |rfl |hb |hb | ⟨k,hk,hb⟩
  ·exact Or.inl (Or.inl hb)
  ·exact Or.inl (Or.inr (Or.inl hb))
  ·exact Or.inl (Or.inr (Or.inr (Or.inl rfl)))
  ·rcases hbnd b hb with h4 |h4
   ·exact Or.inl (Or.inr (Or.inr (Or.inr (Or.inl h4))))
   ·exact Or.inr h4
  ·exact Or.inl (Or.inr (Or.inr (Or.inr (Or.inr (Or.inl hb)))))
  ·rcases List.mem_append.1 hk with hk |hk
   ·exact Or.inl (Or.inr (Or.inr (Or.inr (Or.inr (Or.inr ⟨k,hk,hb⟩)))))
   ·simp at hk;subst hk
    rcases hb with rfl |hb
    ·exact Or.inr hn3
    ·exact Or.inl (Or.inr (Or.inr (Or.inr (Or.inr (Or.inl hb)))))
theorem LTo.first{w1:World}{P:Dsk.Parts}{C:Cch.Parts}{d':DS}{sure':List Pg}{N n':Nat}{now':List Pg}{c':List Bool}{ms':List MK}(hb:Below w.heap.size w w1)(h:LTo w1 w' p x x' P C d d' s sure sure' N n' now' c' enc ms ms'):LTo w w' p x x' P C d d' s sure sure' N n' now' c' enc ms ms':=by
 obtain ⟨P',C',s',enc',h1,h2,h3,h4⟩:=h.is
 exact ⟨⟨P',C',s',enc',h1,fun b hb'=>(h2 b hb').imp id (fun h=>Nat.le_trans hb.size h),h3,h4⟩,fr_trans (fr_below (S:=Own p x P C) hb) h.fr (fun _ h=>Or.inl h)⟩
theorem mark_yes(p:Nat)(x:PC)(P:Dsk.Parts)(C:Cch.Parts)(d:DS)(s:CS)(sure:List Pg)(n:Nat)(now:List Pg)(c:List Bool)(enc:List Sec)(ms:List MK)(w:World)(h:Live w p x P C d s sure n now c enc ms)(hb:x.busy=true)(hm:ms.length≤1000)(hla:x.last≤1000000) :
  Calls Tryz.prog 35 #[.pointer (some ⟨p,0,none⟩)] w fun e w'=>e=.returned (.tuple #[.int .i64 ((x.last+1:Nat):Int),.int .i64 0])∧∃ mo mc m3,LTo w w' p x (x.marked mo (ms.length+1) mc) P C d d s sure sure 0 n now c enc ms (ms++[⟨x.last+1,m3,n,now,c,enc⟩]):=by
 have cw:=within_live p x w h.tx.core.hd
 rw [hb]at cw
 have CW:=hid cw
 obtain ⟨l1,hl1⟩:∃ l1,l1=x.last+1:=⟨_,rfl⟩
 have e1:IntKind.i64.wrap ((x.last:Int)+1)=(l1:Int):=by rw [IntWalk.i64_in _ ⟨by omega,by omega⟩];omega
 have H:=hid h
 have HL1:=hid hl1
 clear h hb cw
 go_enter Tryz.func35,Tryz.ntmps35
 go_upto_region 5 with (go_at_call 55;refine CW.out.mono ?_;rintro e w1 ⟨rfl,hb1⟩;have B1:=hid hb1;have H1:=hid (H.out.later hb1);obtain ⟨a0,a1,a2,a3,a4,a5,a6,a7,a8,a9,a10,a11⟩:=H1.out.tx.core.hd.cells;have f9:=H1.out.tx.core.hd.frozen 9;clear hb1)
 (try rw [e1])
 rw [show (x.last:Int)+1=(l1:Int) by omega]
 obtain ⟨w0,hw0⟩:∃ w0,w0=w1.setCell ⟨p,9,none⟩ (.int .i64 (l1:Int)):=⟨_,rfl⟩
 obtain ⟨X,hX⟩:∃ X:PC,X = { x with last:=l1 }:=⟨_,rfl⟩
 have hs0:w0.heap.size=w1.heap.size:=by rw [hw0];simp
 have hP0:PgAt w0 p X:=by
  have:=Cch.blk_set H1.out.tx.core.hd (i:=9) (v:=.int .i64 (l1:Int))
  unfold PgAt;rw [hw0,this,hX];rfl
 have f0:Fr (fun b=>b=p) w1 w0:=by rw [hw0];exact set_frame (Fr.refl _ _)
 have hop:∀ b,Out w1 (NC p x P C) b→b≠p:=fun b hb e=>hb.2 (Or.inr (Or.inr e))
 have MP:Hid (w0.drew.ownsMap Tryz.prog 3 slR x.m n (dirtD (false::c) enc)):=hid (map_df (map_df H1.out.tx.chg.map (f0.blk _ H1.out.tx.mo.1 (hop _ H1.out.tx.mo))) rfl)
 have HMR:Hid (∀ (w3:World) (m3:Nat),Below w0.heap.size w0 w3→(w3.alloc (.cells #[.int .i64 (l1:Int),.int .i64 (x.np:Int),.map (some m3)] 102)).ownsRow 0 102 3 (Value.slice x.mo x.ml x.mc) ms.length (mkC ms)):=hid (fun w3 m3 b3=>rr_fr (rr_fr (rr_fr H1.out.mks.row f0 (fun b hb=>hop b (H1.out.mks.out b hb))) (fr_below (S:=fun _=>False) b3) (fun _ _ h=>h)) (fr_alloc (fun _=>False) _ _) (fun _ _ h=>h))
 have HPM:Hid (¬(Value.slice x.mo x.ml x.mc).ownBlock=some p):=hid (fun e=>hop p (H1.out.mks.out p e) rfl)
 have FIN:=hid (fun w3 m3 w5 a5 c5 W b3 hm3 hn3 g5 R ha5 hW=>mark_done (W:=W) (w3:=w3) (w5:=w5) (m3:=m3) (a5:=a5) (c5:=c5) H1.out hl1 hw0 b3 hm3 hn3 g5 R ha5 hW)
 have HX6:Hid (X.np=x.np):=hid (by rw [hX]);have HX7:Hid (X.m=x.m):=hid (by rw [hX]);have HX8:Hid (X.mo=x.mo∧X.ml=x.ml∧X.mc=x.mc):=hid (by rw [hX];exact ⟨rfl,rfl,rfl⟩);have HX9:Hid (X.last=l1):=hid (by rw [hX])
 have HP0:=hid hP0;have HS0:=hid hs0
 rw [←hw0]
 clear hw0 hX hs0 hP0 f0 hop a0 a1 a2 a3 a4 a5 a6 a7 a8 a9 a10 a11 f9 hl1
 refine wp_region_K (S:=fun W=>PgAt W p X) (fun i=>i == 19) (by kernel_rfl) (HP0.out.later (Below.refl _ _).drew) (fun hHeld=>?_)
 refine gkp 0 ?_
 refine gkp 1 ?_
 refine gkp 2 ?_
 refine gkp 3 ?_
 refine gkt 4 ?_ (h:=by intro W hSw;have hh:=PgAt.cells (show PgAt W p X from hSw);obtain ⟨a0,a1,a2,a3,a4,a5,a6,a7,a8,a9,a10,a11⟩:=hh;rw [HX6.out]at a6;rw [HX7.out]at a7;rw [HX8.out.1,HX8.out.2.1,HX8.out.2.2]at a8;rw [HX9.out]at a9;go_simp;first |done |with_reducible rfl)
 refine gkp 5 ?_
 refine gkp 6 ?_
 refine gkp 7 ?_
 refine gkt 8 ?_ (h:=by intro W hSw;have hh:=PgAt.cells (show PgAt W p X from hSw);obtain ⟨a0,a1,a2,a3,a4,a5,a6,a7,a8,a9,a10,a11⟩:=hh;rw [HX6.out]at a6;rw [HX7.out]at a7;rw [HX8.out.1,HX8.out.2.1,HX8.out.2.2]at a8;rw [HX9.out]at a9;go_simp;first |done |with_reducible rfl)
 refine gkp 9 ?_
 refine gkp 10 ?_
 refine gkp 11 ?_
 refine gkt 12 ?_ (h:=by intro W hSw;have hh:=PgAt.cells (show PgAt W p X from hSw);obtain ⟨a0,a1,a2,a3,a4,a5,a6,a7,a8,a9,a10,a11⟩:=hh;rw [HX6.out]at a6;rw [HX7.out]at a7;rw [HX8.out.1,HX8.out.2.1,HX8.out.2.2]at a8;rw [HX9.out]at a9;go_simp;first |done |with_reducible rfl)
 refine gk1 13 (fun K hK=>?_)
 go_simp
 go_at_call 71;refine (copied_any (x.np:Int) x.m n (dirtD (false::c) enc) w0.drew MP.out).mono ?_;rintro e w3 ⟨m3,rfl,hm3,hl3,hb3⟩;have M3:=hid hm3;have L3:=hid hl3;have B3:=hid (undrew hb3);have hR:PgAt w3 p X:=(hHeld).later hb3;clear hm3 hl3 hb3
 refine hK.out _ _ hR (fun hHeld=>?_)
 clear hK K
 (try simp only [Act.put,sA,sZ,sS])
 refine gkp 14 ?_
 refine gk1 15 (fun K hK=>?_)
 go_simp
 have hR:PgAt (w3.alloc (.cells #[.int .i64 (l1:Int),.int .i64 (x.np:Int),.map (some m3)] 102)) p X:=hHeld.later (Below.alloc (Below.refl _ _) (Nat.le_refl _) _)
 refine hK.out _ _ hR (fun hHeld=>?_)
 clear hK K
 (try simp only [Act.put,sA,sZ,sS])
 refine gk1 16 (fun K hK=>?_)
 refine step_app3 rfl (.tmp 21) (.tmp 32) el74 rfl (Value.slice x.mo x.ml x.mc) ms.length (mkC ms) rfl (HMR.out w3 m3 B3.out) (some ⟨w3.heap.size,0,none⟩) 1 1 [.int .i64 (l1:Int),.int .i64 (x.np:Int),.map (some m3)] rfl (src3_row (lit_row3 w3 0 _ _ _ 102 (Nat.zero_le _)) (by intro u hu;simp at hu;rcases hu with rfl |rfl |rfl<;>rfl)) (by omega) ?_;intro a5 c5 w5 ho hg ha;have N5:=hid ho;have G5:=hid hg;have A5:=hid ha;have hR:PgAt w5 p X:=(hHeld).stay (hg.block p hHeld.lt (fun e=>HPM.out e.symm));have P5:=hid hR;clear ho hg ha
 refine hK.out _ _ hR (fun hHeld=>?_)
 clear hK K
 (try simp only [Act.put,sA,sZ,sS])
 refine gkp 17 ?_
 refine gkp 18 ?_
 have hh:=PgAt.cells P5.out
 obtain ⟨a0,a1,a2,a3,a4,a5q,a6,a7,a8,a9,a10,a11⟩:=hh
 rw [HX9.out]at a9
 have f8:=P5.out.frozen 8
 clear hR
 refine gkl 19 (fun K hK=>?_)
 go_simp
 refine hK.out _ _ ?_
 clear hK K
 (try simp only [Act.put,sA,sZ,sS])
 refine wpAnyK_done (by kernel_rfl) ?_ _
 clear hHeld
 go_wp2
 go_ret2
 exact ⟨by rw [←HL1.out];rfl,_,_,m3,LTo.first B1.out (by rw [←HL1.out];exact FIN.out w3 m3 w5 a5 c5 _ B3.out M3.out (by have h8:=L3.out;have h9:=HS0.out;have h7:w0.drew.heap.size=w0.heap.size:=rfl;omega) G5.out N5.out (fun a e=>(by rcases A5.out a e with h |h;exact Or.inl h;(right;rw [h];have h8:=B3.out.size;have h9:=HS0.out;simp;omega))) rfl)⟩
end
end Go.Proofs.YtadhdedjdgjboaaGreatDoor
