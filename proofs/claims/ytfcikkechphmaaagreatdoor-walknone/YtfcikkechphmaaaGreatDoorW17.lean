/- How a cache lies in memory, and the small calls; no statement of the seat is proved here. -/
import Derived.Test.YtfcikkechphmaaaGreatDoorW11
import Derived.Test.YtfcikkechphmaaaGreatDoorW16
import Derived.Deep.DeepCutAuto
import Derived.Laws.EntriesVeiled
import Derived.Test.YtfcikkechphmaaaGreatDoorW13
import Derived.Test.YtfcikkechphmaaaGreatDoorW14
import Derived.Lib.BufferWrite
set_option maxHeartbeats 16000000
set_option maxRecDepth 20000
namespace Go.Proofs.YtfcikkechphmaaaGreatDoor
namespace Cch
open Go.RowKit Go.Maps
structure CS where
 room:Nat
 l:List Row
 hit:Nat
 miss:Nat
structure Parts where
 m:Nat
 h:Nat
 ks:List Nat
 E:Nat→Ent
def hdC(m h room hit miss:Nat):List Value:=[.int .i64 (room:Int),.map (some m),.pointer (some ⟨h,0,none⟩),.int .i64 (hit:Int),.int .i64 (miss:Int)]
def lk(ks:List Nat)(E:Nat→Ent)(k:Int):Option Nat:=ks.find? (fun b=>(E b).row.page == k)
structure CP (w:World) (c:Nat) (C:Parts) (s:CS):Prop where
 hd:w.heap[c]? = some (.cells (hdC C.m C.h s.room s.hit s.miss).toArray 242 (0,0))
 mp:MapAt w C.m (lk C.ks C.E) C.ks.length
 rg:RingAt w C.h C.ks C.E
 ls:s.l=C.ks.map (fun b=>(C.E b).row)
 pg:(s.l.map Row.page).Nodup
 wf:∀ r∈s.l,(Lit.int .i64 r.page).wf=true∧1≤r.page
 rm:1≤s.room∧s.room≤4096
def Parts.S(C:Parts)(c:Nat):Nat→Prop:=fun k=>k=c∨k=C.m∨k∈C.h::C.ks
variable {s:CS} {C:Parts} {c:Nat} {w:World}
theorem CP.clt(h:CP w c C s):c<w.heap.size:=(Array.getElem?_eq_some_iff.1 h.hd).1
theorem CP.lt(h:CP w c C s){k:Nat}(hk:C.S c k):k<w.heap.size:=by
 rcases hk with rfl |rfl |hk
 ·exact h.clt
 ·exact h.mp.lt
 ·exact (h.rg.en k hk).lt
theorem CP.nc(h:CP w c C s):c∉C.h::C.ks:=fun hm=>by
 have:=(h.rg.en c hm).blk
 rw [h.hd]at this
 simp at this
theorem CP.mc(h:CP w c C s):C.m≠c:=fun hm=>by
 obtain ⟨es,cl,ho⟩:=h.mp.obj
 rw [hm,h.hd]at ho
 simp at ho
theorem CP.nm(h:CP w c C s):C.m∉C.h::C.ks:=fun hm=>by
 obtain ⟨es,cl,ho⟩:=h.mp.obj
 rw [(h.rg.en _ hm).blk]at ho
 simp at ho
variable {w':World}
theorem CP.stay(h:CP w c C s)(hb:∀ k,k<w.heap.size→C.S c k→w'.heap[k]? = w.heap[k]?):CP w' c C s:=
 ⟨(hb c h.clt (Or.inl rfl)).trans h.hd,h.mp.stay (hb _ h.mp.lt (Or.inr (Or.inl rfl))),h.rg.stay (fun b hm=>hb b (h.rg.en b hm).lt (Or.inr (Or.inr hm))),h.ls,h.pg,h.wf,h.rm⟩
theorem CP.later(h:CP w c C s)(hb:Below w.heap.size w w'):CP w' c C s:=h.stay (fun k hk _=>hb.block k hk)
variable {t:TypeId} {cs:List Value}
theorem hd_cell(h:w.heap[c]? = some (.cells cs.toArray t (0,0)))(i:Nat):w.cell? ⟨c,i,none⟩=cs[i]?:=by simp [World.cell?,h]
theorem hd_frozen(h:w.heap[c]? = some (.cells cs.toArray t (0,0)))(i:Nat):w.frozen? ⟨c,i,none⟩=false:=by simp [World.frozen?,h]
theorem CP.c0(h:CP w c C s):w.cell? ⟨c,0,none⟩=some (.int .i64 (s.room:Int)):=hd_cell h.hd 0
theorem CP.c1(h:CP w c C s):w.cell? ⟨c,1,none⟩=some (.map (some C.m)):=hd_cell h.hd 1
theorem CP.c2(h:CP w c C s):w.cell? ⟨c,2,none⟩=some (.pointer (some ⟨C.h,0,none⟩)):=hd_cell h.hd 2
theorem CP.c3(h:CP w c C s):w.cell? ⟨c,3,none⟩=some (.int .i64 (s.hit:Int)):=hd_cell h.hd 3
theorem CP.c4(h:CP w c C s):w.cell? ⟨c,4,none⟩=some (.int .i64 (s.miss:Int)):=hd_cell h.hd 4
theorem CP.idx(h:CP w c C s){k:Int}{b:Nat}(hb:lk C.ks C.E k=some b):∃ xs ys,C.ks=xs++b::ys∧(C.E b).row.page=k∧(∀ x∈xs,(C.E x).row.page≠k)∧(∀ x∈ys,(C.E x).row.page≠k):=by
 obtain ⟨h1,xs,ys,e,h2⟩:=List.find?_eq_some_iff_append.1 hb
 refine ⟨xs,ys,e,by simpa using h1,fun x hx=>by simpa using h2 x hx,fun x hx hxk=>?_⟩
 have h3:=h.pg
 rw [h.ls,e]at h3
 simp only [List.map_append,List.map_cons,List.map_map]at h3
 have h4:=(List.nodup_cons.1 (List.nodup_append.1 h3).2.1).1
 refine h4 (List.mem_map.2 ⟨x,hx,?_⟩)
 simp at h1
 simp [hxk,h1]
theorem lk_none{ks:List Nat}{E:Nat→Ent}{k:Int}(hb:lk ks E k=none):∀ x∈ks,(E x).row.page≠k:=fun x hx=>by
 have:=List.find?_eq_none.1 hb x hx
 simpa using this
theorem made_yes(c:Nat)(r:Nat)(w:World)(c0:w.cell? ⟨c,0,none⟩=some (.int .i64 (r:Int)))(hr:1≤r) :
  Calls Tryz.prog 286 #[.pointer (some ⟨c,0,none⟩)] w fun e w'=>e=.returned (.bool true)∧w'=w:=by
 have hr':0<r:=hr
 go_enter Tryz.func286,Tryz.ntmps286
 go_wp2
 go_ret
 exact ⟨rfl,rfl⟩
variable {m:Nat}
theorem turned_cell(h:w.mapTurned w' m){b:Nat}(hb:b≠m)(hl:b<w.heap.size):w'.heap[b]? = w.heap[b]?:=h.grown.block b hl (by intro e;cases e;exact hb rfl)
theorem mapped_drew{n:Nat}{f:Int→Option Nat}(h:MapAt w m f n):MapAt w.drew m f n:=h.stay rfl
theorem add_raw(c m e:Nat)(k:Int)(w w1:World)(R:World→Prop)(c1:w.cell? ⟨c,1,none⟩=some (.map (some m)))(ce:w.cell? ⟨e,0,none⟩=some (.int .i64 k))
  (hput:(Instr.mapUpdate 238 (.map (some m)) (.int .i64 k) (.pointer (some ⟨e,0,none⟩))).run Tryz.prog w.drew=.ok () w1)
  (hl:Calls Tryz.prog 323 #[.pointer (some ⟨c,0,none⟩),.pointer (some ⟨e,0,none⟩)] w1 fun r w'=>r=.returned (.tuple #[])∧R w') :
  Calls Tryz.prog 288 #[.pointer (some ⟨c,0,none⟩),.pointer (some ⟨e,0,none⟩)] w fun r w'=>r=.returned (.tuple #[])∧R w':=by
 have k1:=hid hl
 clear hl
 go_enter Tryz.func288,Tryz.ntmps288
 go_wp2_with fail
 go_region
 go_wp2_with (go_at_call 323;refine k1.out.mono ?_;rintro e w2 ⟨rfl,hR⟩;replace hR:=hid hR)
 go_end0
 exact ⟨rfl,hR.out⟩
theorem remove_raw(c m e:Nat)(k:Int)(w w1:World)(R:World→Prop)(c1:w.cell? ⟨c,1,none⟩=some (.map (some m)))(ce:w.cell? ⟨e,0,none⟩=some (.int .i64 k))
  (hdel:∀ ty,(Builtin.delete_ #[238,3] ty #[.map (some m),.int .i64 k]).run Tryz.prog w.drew=.ok (.tuple #[]) w1)
  (hl:Calls Tryz.prog 322 #[.pointer (some ⟨e,0,none⟩)] w1 fun r w'=>r=.returned (.tuple #[])∧R w') :
  Calls Tryz.prog 325 #[.pointer (some ⟨c,0,none⟩),.pointer (some ⟨e,0,none⟩)] w fun r w'=>r=.returned (.tuple #[])∧R w':=by
 have k1:=hid hl
 clear hl
 go_enter Tryz.func325,Tryz.ntmps325
 go_wp2_with fail
 go_region
 go_wp2_with (go_at_call 322;refine k1.out.mono ?_;rintro e w2 ⟨rfl,hR⟩;replace hR:=hid hR)
 go_end0
 exact ⟨rfl,hR.out⟩
end Cch
namespace Spl
open Go.RowKit
open Jrn (gt hid keep_old keep_cell lt_cell Rd bs bs_length bs_one bs_get bs_get' rd_own make_any Row5 putN putN_length)
open Cch (Fr wpAnyK wpAnyK_done wp_region_K hd_cell hd_frozen blk_set)
end Spl
namespace Spl
open Go.RowKit
open Jrn (gt hid keep_old keep_cell lt_cell Rd bs bs_length bs_one bs_get bs_get' bs_append rd_own make_any Row5 putN putN_length own_of_row own_zeros nul make512)
open Cch (Fr wpAnyK wpAnyK_done wp_region_K hd_cell hd_frozen blk_set)
end Spl
namespace Jrn
open Go.RowKit
open Cch (Fr)
def rowC(P:Value)(f s c:Int):List Value:=[.func (.func 182) #[P] #[],.func (.func 183) #[P] #[],.int .i64 f,.int .i64 s,.int .i64 c]
def rowV(P:Value)(f s c:Int):Value:=.agg (rowC P f s c).toArray
def RowB(W:World)(q:Nat)(P:Value)(f s c:Int):Prop:=W.heap[q]? = some (.cells (rowC P f s c).toArray 211 (0,0))
variable {f s c:Int} {P:Value} {q:Nat} {W:World}
theorem RowB.cells(h:RowB W q P f s c):W.cell? ⟨q,0,none⟩=some (.func (.func 182) #[P] #[])∧W.cell? ⟨q,1,none⟩=some (.func (.func 183) #[P] #[])∧W.cell? ⟨q,2,none⟩=some (.int .i64 f)∧W.cell? ⟨q,3,none⟩=some (.int .i64 s)∧W.cell? ⟨q,4,none⟩=some (.int .i64 c):=by
 unfold RowB rowC at h
 simp [World.cell?,h]
theorem load_row(h:RowB W q P f s c) :
  (loadVar 211 ⟨q,0,none⟩).run Tryz.prog W=.ok (rowV P f s c) W:=by
 have hs:∀ W,(Go.sizeOf 211).run Tryz.prog W=.ok 5 W:=fun W=>by kernel_rfl
 have ha:∀ W,(isAgg 211).run Tryz.prog W=.ok true W:=fun W=>by kernel_rfl
 have hl:=run_loadCells_list (P:=Tryz.prog) W ⟨q,0,none⟩ (rowC P f s c) (by
  intro j v hj
  obtain ⟨h0,h1,h2,h3,h4⟩:=h.cells
  unfold rowC at hj
  match j,hj with
  | 0,hj=>simp at hj;subst hj;simpa [Addr.add] using h0
  | 1,hj=>simp at hj;subst hj;simpa [Addr.add] using h1
  | 2,hj=>simp at hj;subst hj;simpa [Addr.add] using h2
  | 3,hj=>simp at hj;subst hj;simpa [Addr.add] using h3
  | 4,hj=>simp at hj;subst hj;simpa [Addr.add] using h4
  | j+5,hj=>simp at hj)
 have e:(rowC P f s c).length=5:=rfl
 rw [e]at hl
 simp [loadVar,ha,hs,hl,rowV]
theorem ret_row{fn:Func}{a:Tmp}(h:fn.results = #[.cell a 211]){tmps:Array Value}{W:World}{q:Nat}{P:Value}{f s c:Int}
  (hp:tmps.getD a undef=.pointer (some ⟨q,0,none⟩)) (hb:RowB W q P f s c):(results fn tmps).run Tryz.prog W=.ok (rowV P f s c) W:=by
 rw [results_cell1 h,hp]
 simp [asAddr,load_row hb]
theorem leaves_any(num:Int)(g cap:Nat)(w:World) :
  Calls Tryz.prog 127 #[Pv2 num g 0 cap] w fun e w'=>e=.returned (rowV (Pv2 num g 0 cap) 8 4 126)∧Below w.heap.size w w':=by
 have t:True:=trivial
 obtain ⟨V,hV⟩:∃ V,V=rowV (Pv2 num g 0 cap) 8 4 126:=⟨_,rfl⟩
 rw [←hV]
 unfold Pv2
 go_enter Tryz.func127,Tryz.ntmps127
 go_wp2
 refine bodyPost_ret (ret_row rfl rfl (P:=Pv2 num g 0 cap) (f:=8) (s:=4) (c:=126) (q:=w.heap.size+1) (by have:=heap_alloc_new (w.alloc (.cells #[.int .i64 num,.slice (some ⟨g,0,none⟩) 512 cap] 205)) (.cells (rowC (Pv2 num g 0 cap) 8 4 126).toArray 211);have e:(w.alloc (.cells #[.int .i64 num,.slice (some ⟨g,0,none⟩) 512 cap] 205)).heap.size=w.heap.size+1:=(by simp);rw [e]at this;exact this)) rfl ?_
 exact ⟨by rw [hV],Below.alloc (Below.alloc (Below.refl _ _) (Nat.le_refl _) _) (by simp) _⟩
theorem rget_yes(num:Int)(g cap:Nat)(xs:List Nat)(f s c i:Nat)(w:World)(h:Rd w (some ⟨g,0,none⟩) 512 cap xs)(hx:∀ x∈xs,x<256)(h1:1≤s)(h8:s≤8)(hi:i<c)(hc:f+c*s≤512) :
  Calls Tryz.prog 129 #[rowV (Pv2 num g 0 cap) f s c,.int .i64 (i:Int)] w fun e w'=>e=.returned (.tuple #[.int .i64 (wrap64 (numAt xs (f+i*s) s:Int)),.int .i64 0])∧Below w.heap.size w w':=by
 have hm:(i+1)*s≤c*s:=Nat.mul_le_mul_right s hi
 have hm2:(i+1)*s=i*s+s:=by rw [Nat.add_mul,Nat.one_mul]
 have hm3:((i*s:Nat):Int)=(i:Int)*(s:Int):=by simp
 have HB:=hid (show Below w.heap.size w (w.alloc (.cells (rowC (Pv2 num g 0 cap) f s c).toArray 211)) from Below.alloc (Below.refl _ _) (Nat.le_refl _) _)
 have C:=hid (tell_any num g 0 cap xs (f+i*s) s _ (h.keep HB.out) hx h1 h8 (by omega))
 obtain ⟨A,hA⟩:∃ A,A=f+i*s:=⟨_,rfl⟩
 have e1:(f:Int)+(i:Int)*(s:Int)=(A:Int):=by rw [←hm3];omega
 have e2:IntKind.i64.wrap ((i:Int)*(s:Int))=(i:Int)*(s:Int):=IntWalk.i64_in _ ⟨by omega,by omega⟩
 have e3:IntKind.i64.wrap (A:Int)=(A:Int):=IntWalk.i64_in _ ⟨by omega,by omega⟩
 rw [←hA]at C ⊢
 clear hA
 have i0:¬(i:Int)<0:=by omega
 have i1:¬(c:Int)≤(i:Int):=by omega
 generalize Pv2 num g 0 cap=P at *
 generalize wrap64 (numAt xs A s:Int)=R at *
 clear h hx hm hm2 hm3 hc
 unfold rowV rowC
 unfold rowC at C HB
 go_enter Tryz.func129,Tryz.ntmps129
 go_wp2_with (go_at_call 182;refine C.out.mono ?_;rintro e w1 ⟨rfl,hb1⟩;have B1:=hid hb1;clear hb1)
 go_ret2
 exact ⟨rfl,gt HB.out B1.out⟩
end Jrn
namespace Jrn
open Go.RowKit
open Cch (Fr)
theorem below_fr{w w':World}(h:Fr (fun k=>w.heap.size≤k) w w'):Below w.heap.size w w':=⟨h.os,h.tape,h.output,h.size,fun k hk=>h.blk k hk (by omega)⟩
theorem fr_two(W:World)(q:Nat)(a b:Value):Fr (fun k=>k=q) W ((W.setCell ⟨q,0,none⟩ a).setCell ⟨q,1,none⟩ b):=⟨rfl,rfl,rfl,by simp,fun k _ hk=>(heap_setCell_other _ _ _ _ hk).trans (heap_setCell_other _ _ _ _ hk)⟩
theorem RB.fr{E:Nat→Prop}{t:TypeId}{W W':World}{q:Nat}{p:Int}{ao:Option Addr}{n cap:Nat}(h:RB t W q p ao n cap)(hf:Fr E W W')(hE:¬E q):RB t W' q p ao n cap:=(hf.blk q h.lt hE).trans h
end Jrn
namespace Jrn
open Go.RowKit
def wsN(s:Nat)(l:List Nat):List Nat:=l.flatMap fun v=>putN v s false
theorem wsN_length(s:Nat)(l:List Nat):(wsN s l).length=l.length*s:=by
 induction l with
 | nil=>simp [wsN]
 | cons a l ih=>simp only [wsN,List.flatMap_cons,List.length_append,putN_length,List.length_cons]at ih ⊢;rw [ih,Nat.add_mul];omega
theorem wsN_append(s:Nat)(l m:List Nat):wsN s (l++m)=wsN s l++wsN s m:=by simp [wsN]
theorem wsN_one(s v:Nat):wsN s [v]=putN v s false:=by simp [wsN]
theorem wsN_bytes(s:Nat)(l:List Nat):∀ x∈wsN s l,x<256:=by
 intro x h
 simp only [wsN,List.mem_flatMap]at h
 obtain ⟨v,_,h⟩:=h
 exact putN_bytes v s false x h
theorem numAt_app4(a b:List Nat)(v i:Nat)(hi:a.length=i)(hv:v<4294967296):numAt (a++(putN v 4 false++b)) i 4=v:=by
 unfold numAt
 rw [List.drop_left' hi,psum_put4 v hv b]
variable {i:Nat} {l:List Nat}
theorem split_at(hi:i<l.length):l=l.take i++(l.getD i 0::l.drop (i+1)):=by
 conv=>lhs;rw [←List.take_append_drop i l]
 congr 1
 rw [drop_getD l i hi]
theorem wsN_split(s:Nat)(hi:i<l.length):wsN s l=wsN s (l.take i)++(putN (l.getD i 0) s false++wsN s (l.drop (i+1))):=by
 conv=>lhs;rw [split_at hi]
 rw [wsN_append]
 simp [wsN]
def trunkN(nx:Nat)(ls:List Nat):List Nat:=putN nx 4 false++(putN ls.length 4 false++(wsN 4 ls++List.replicate (504 - ls.length*4) 0))
def nameN:List Nat:=[104,97,99,104,117,114,101,49]
def rootN(f c:Nat)(ws:List Nat):List Nat:=nameN++(putN f 4 false++(putN c 4 false++(wsN 8 ws++List.replicate 16 0)))
theorem rootN_length(f c:Nat)(ws:List Nat)(h:ws.length=60):(rootN f c ws).length=512:=by
 simp [rootN,putN_length,wsN_length,nameN,h]
theorem trunkN_bytes(nx:Nat)(ls:List Nat):∀ x∈trunkN nx ls,x<256:=app_bytes (putN_bytes _ _ _) (app_bytes (putN_bytes _ _ _) (app_bytes (wsN_bytes _ _) (zero_bytes _)))
theorem rootN_bytes(f c:Nat)(ws:List Nat):∀ x∈rootN f c ws,x<256:=app_bytes (by decide) (app_bytes (putN_bytes _ _ _) (app_bytes (putN_bytes _ _ _) (app_bytes (wsN_bytes _ _) (zero_bytes _))))
theorem trunk_next(nx:Nat)(ls:List Nat)(h:nx<4294967296):numAt (trunkN nx ls) 0 4=nx:=numAt_app4 [] _ nx 0 rfl h
theorem trunk_size(nx:Nat)(ls:List Nat)(h:ls.length<4294967296):numAt (trunkN nx ls) 4 4=ls.length:=numAt_app4 (putN nx 4 false) _ _ 4 (putN_length _ _ _) h
theorem trunk_leaf(nx:Nat)(ls:List Nat)(i:Nat)(hi:i<ls.length)(h:ls.getD i 0<4294967296):numAt (trunkN nx ls) (8+i*4) 4=ls.getD i 0:=by
 have e:trunkN nx ls=(putN nx 4 false++(putN ls.length 4 false++wsN 4 (ls.take i)))++(putN (ls.getD i 0) 4 false++(wsN 4 (ls.drop (i+1))++List.replicate (504 - ls.length*4) 0)):=by
  rw [trunkN,wsN_split 4 hi];simp only [List.append_assoc]
 rw [e]
 exact numAt_app4 _ _ _ _ (by simp [putN_length,wsN_length];omega) h
theorem root_first(f c:Nat)(ws:List Nat)(h:f<4294967296):numAt (rootN f c ws) 8 4=f:=numAt_app4 nameN _ f 8 rfl h
theorem root_count(f c:Nat)(ws:List Nat)(h:c<4294967296):numAt (rootN f c ws) 12 4=c:=by
 have e:rootN f c ws=(nameN++putN f 4 false)++(putN c 4 false++(wsN 8 ws++List.replicate 16 0)):=by rw [rootN,List.append_assoc]
 rw [e]
 exact numAt_app4 _ _ _ _ (by simp [putN_length,nameN]) h
end Jrn
namespace Jrn
open Go.RowKit
open Cch (Fr)
theorem Row5.keep{w w':World}{B g cap:Nat}{xs:List Nat}(h:Row5 w B g cap xs)(hb:Below w.heap.size w w'):Row5 w' B g cap xs:=h.fr (E:=fun _=>False) (Fr.of_below hb) (fun h=>h)
end Jrn
namespace Jrn
open Go.RowKit
open Cch (Fr)
end Jrn
namespace Jrn
open Go.RowKit
open Cch (Fr)
theorem wpList_copy_str{w:World}{ops:Array Oper}{rest:List Oper}{o:Oper}{a:Act}{Q:Exit→Act→World→Prop}(hgd:o.guard=none)(d:Operand)(s:ByteArray)
  (ho:o.op=.call { callee:=.builtin .copy,args:=#[d,.const (.string s)],argTypes:=#[48,9] }) (g dLen dCap:Nat) (hd:a.eval d=.slice (some ⟨g,0,none⟩) dLen dCap)
  (cur:Array Value) (hg:w.heap[g]? = some (.cells cur 5 (0,0))) (hle:s.size≤dLen) (hfit:0+s.size≤cur.size)
  (h:wpList Tryz.prog ops Q rest (a.put o.dst (goInt s.size)) (w.setRow g (cur.toList.take 0++Go.Lib.byteCells s.data.toList++cur.toList.drop (0+s.size)).toArray)):wpList Tryz.prog ops Q (o::rest) a w:=by
 refine wpList_plain hgd fun K hK=>?_
 have hrun:=Go.Lib.run_copy_row_string (P:=Tryz.prog) w 48 9 o.type 5 g 0 dLen dCap s cur 5 Tryz.underlying48 (by kernel_rfl) hg hle hfit
 have he:a.eval (.const (.string s))=.string s:=rfl
 unfold Oper.wp execOp
 simp only [ho,resolve,invoke,builtin,Sem.run_bind,Sem.run_pure,Result.andThen_ok,List.map_toArray,List.map_cons,List.map_nil,hd,he,hrun]
 exact hK _ _ h
theorem root_new:(nameN++List.replicate 504 0)=rootN 0 0 (List.replicate 60 0):=by
 have e1:∀ k,wsN 8 (List.replicate k 0)=List.replicate (k*8) 0:=fun k=>by
  induction k with
  | zero=>rfl
  | succ k ih=>rw [List.replicate_succ,←List.singleton_append,wsN_append,ih,wsN_one,show putN 0 8 false=List.replicate 8 0 by decide,List.replicate_append_replicate];congr 1;omega
 rw [rootN,e1]
 have e2:putN 0 4 false=List.replicate 4 0:=by decide
 rw [e2]
 simp only [List.replicate_append_replicate]
theorem copy_name{W:World}{B g:Nat}(h:Row5 W B g 512 nul):∃ cur:Array Value,W.heap[g]? = some (.cells cur 5 (0,0))∧cur.size=512∧∃ w2,w2=W.setRow g (cur.toList.take 0++Go.Lib.byteCells (ByteArray.mk #[104,97,99,104,117,114,101,49]).data.toList++cur.toList.drop (0+(ByteArray.mk #[104,97,99,104,117,114,101,49]).size)).toArray ∧
  Row5 w2 B g 512 (rootN 0 0 (List.replicate 60 0))∧Fr (fun k=>k=g) W w2:=by
 obtain ⟨hB,cur,hcur,hcs,hcm,hct⟩:=h.parts
 have hlc:cur.toList=bs nul:=by rw [←hct];exact (List.take_of_length_le (by simp [hcs])).symm
 refine ⟨cur,hcur,hcs,_,rfl,?_,⟨rfl,rfl,rfl,by simp,fun k _ hk=>setRow_other _ _ _ _ hk⟩⟩
 have e:(cur.toList.take 0++Go.Lib.byteCells (ByteArray.mk #[104,97,99,104,117,114,101,49]).data.toList++cur.toList.drop (0+(ByteArray.mk #[104,97,99,104,117,114,101,49]).size))=bs (rootN 0 0 (List.replicate 60 0)):=by
  rw [hlc,←root_new,bs_append]
  have e1:Go.Lib.byteCells (ByteArray.mk #[104,97,99,104,117,114,101,49]).data.toList=bs nameN:=rfl
  have e2:(0+(ByteArray.mk #[104,97,99,104,117,114,101,49]).size)=8:=rfl
  rw [e1,e2,List.take_zero,List.nil_append]
  congr 1
 refine Row5.of (cur:=bs (rootN 0 0 (List.replicate 60 0))) hB ?_ (by rw [bs_length,rootN_length _ _ _ (by simp)]) hcm (List.take_of_length_le (by rw [bs_length,rootN_length _ _ _ (by simp)];omega)) (rootN_length _ _ _ (by simp)) (by omega)
 rw [←e]
 exact setRow_heap _ _ _ _ _ _ hcur
theorem newRoot_any(w:World):Calls Tryz.prog 110 #[] w fun e w'=>∃ g,e=.returned (Pv2 1 g 0 512)∧w.heap.size≤g∧Row5 w' w.heap.size g 512 (rootN 0 0 (List.replicate 60 0))∧Below w.heap.size w w':=by
 have HB:=hid (show Below w.heap.size w (w.alloc (.cells #[.int .i64 0,.slice none 0 0] 133)) from Below.alloc (Below.refl _ _) (Nat.le_refl _) _)
 have C1:=hid (blank_any 1 (w.alloc (.cells #[.int .i64 0,.slice none 0 0] 133)))
 have HX:=hid (RB.new 133 w 0 none 0 0)
 unfold Pv2 at *
 go_enter Tryz.func110,Tryz.ntmps110
 go_wp2_with (first
  | (go_at_call 169;refine C1.out.mono ?_;rintro e w1 ⟨g,rfl,hg,hr1,hb1⟩;have R1:=hid hr1;have B1:=hid (gt HB.out hb1);have HG:=hid hg;have HX1:=hid (HX.out.keep hb1);clear hr1 hb1 hg)
  | ((with_reducible refine Cch.here_op 5 ?_);obtain ⟨cur,hcur,hcs,w2,hw2,hr2,hf2⟩:=copy_name (R1.out.keep (Below.alloc (Below.refl _ _) (Nat.le_refl _) (.cells #[.int .i64 1,.slice (some ⟨g,0,none⟩) 512 512] 131)));refine wpList_copy_str rfl (.tmp 4) _ rfl g 512 512 rfl cur hcur (by decide) (by rw [hcs];decide) ?_;rw [←hw2];clear hw2 hcur hcs;have R2:=hid hr2;have F2:=hid hf2;have HL:=hid R1.out.lt;have Y5:=hid ((RB.new 131 w1 1 (some ⟨g,0,none⟩) 512 512).fr hf2 (fun e=>by have:=HL.out;omega));have Y4:=hid ((HX1.out.keep (Below.alloc (Below.refl _ _) (Nat.le_refl _) _)).fr hf2 (fun e=>by have:=HG.out;simp at this;omega));obtain ⟨y0,y1,y2,y3⟩:=Y5.out.cells;obtain ⟨z0,z1,z2,z3⟩:=Y4.out.cells;clear hr2 hf2))
 refine bodyPost_ret (ret_pg rfl (by intro W;kernel_rfl) (by intro W;kernel_rfl) rfl (RB.set Y4.out _ _ _ _)) rfl ?_
 have hz:w.heap.size+1≤g:=by have:=HG.out;simpa using this
 refine ⟨g,rfl,by omega,?_,below_fr ?_⟩
 ·exact (R2.out.fr (fr_two _ _ _ _) (by omega)).base (by simp)
 ·refine (Fr.of_below B1.out).trans ?_ (T:=fun k=>w.heap.size≤k) (fun j hj hk=>hk)
  refine (Fr.of_below (Below.alloc (Below.refl _ _) (Nat.le_refl _) (.cells #[.int .i64 1,.slice (some ⟨g,0,none⟩) 512 512] 131))).trans ?_ (T:=fun k=>w.heap.size≤k) (fun j hj hk=>hk)
  exact (⟨F2.out.os,F2.out.tape,F2.out.output,F2.out.size,fun k hk hn=>F2.out.blk k hk (by omega)⟩:Fr (fun k=>w.heap.size≤k) _ w2).trans (fr_two w2 w.heap.size _ _) (fun j hj hk=>by omega)
end Jrn
end Go.Proofs.YtfcikkechphmaaaGreatDoor
