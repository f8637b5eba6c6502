/- How the document's pager lies in memory; no statement of the seat is proved here. -/
import Derived.Test.YtadhdedjdgjboaaGreatDoorH30
import Derived.Test.YtadhdedjdgjboaaGreatDoorH18
import Derived.Test.YtadhdedjdgjboaaGreatDoorH11
set_option maxHeartbeats 16000000
set_option maxRecDepth 20000
namespace Go.Proofs.YtadhdedjdgjboaaGreatDoor
section
open Go.RowKit Go.Maps
open Dsk (gt hid undrew keep_old keep_cell lt_cell Rd bs bs_length own_stay own_lt own_later own_ne own_set El Src)
def PageAt(w:World)(S:Nat→Prop)(v:Value)(x:Pg):Prop:=w.ownsRow 0 5 1 v 512 (bs x)∧∀ k,v.ownBlock=some k→S k
structure PagesAt (w:World) (S:Nat→Prop) (vs:List Value) (l:List Pg):Prop where
 len:vs.length=l.length
 at_:∀ (i:Nat) (v:Value) (x:Pg),vs[i]? = some v→l[i]? = some x→PageAt w S v x
variable {x:Pg} {v:Value} {S:Nat→Prop} {w:World}
theorem PageAt.form(h:PageAt w S v x):∃ g cap,v=.slice (some ⟨g,0,none⟩) 512 cap∧512≤cap∧g<w.heap.size∧S g:=by
 rcases h.1.2 with ⟨_,h0⟩ | ⟨g,cap,cur,rfl,_,hg,hnc,_⟩
 ·cases h0
 ·exact ⟨g,cap,rfl,hnc,(Array.getElem?_eq_some_iff.1 hg).1,h.2 g rfl⟩
theorem PageAt.one(h:PageAt w S v x):v.oneCell'=true:=by
 obtain ⟨g,cap,rfl,_⟩:=h.form;rfl
variable {S':Nat→Prop} {w':World}
theorem PageAt.stay(h:PageAt w S v x)(hb:∀ k,v.ownBlock=some k→w'.heap[k]? = w.heap[k]?)(hs:∀ k,S k→S' k):PageAt w' S' v x:=
 ⟨own_stay h.1 hb,fun k hk=>hs k (h.2 k hk)⟩
variable {l:List Pg} {vs:List Value}
theorem PagesAt.stay(h:PagesAt w S vs l)(hb:∀ (i:Nat) (v:Value) (x:Pg),vs[i]? = some v→PageAt w S v x→∀ k,v.ownBlock=some k→w'.heap[k]? = w.heap[k]?)(hs:∀ k,S k→S' k):PagesAt w' S' vs l:=
 ⟨h.len,fun i v x hv hx=>(h.at_ i v x hv hx).stay (hb i v x hv (h.at_ i v x hv hx)) hs⟩
theorem PagesAt.one(h:PagesAt w S vs l):∀ u∈vs,u.oneCell'=true:=by
 intro u hu
 obtain ⟨i,hi,rfl⟩:=List.mem_iff_getElem.1 hu
 exact (h.at_ i vs[i] (l[i]'(by rw [←h.len];exact hi)) (List.getElem?_eq_getElem hi) (List.getElem?_eq_getElem _)).one
theorem PagesAt.get(h:PagesAt w S vs l){i:Nat}(hi:i<l.length):∃ v,vs[i]? = some v∧PageAt w S v (l.getD i []):=by
 have hi':i<vs.length:=by rw [h.len];exact hi
 refine ⟨vs[i],List.getElem?_eq_getElem hi',?_⟩
 rw [List.getD,List.getElem?_eq_getElem hi]
 exact h.at_ i _ _ (List.getElem?_eq_getElem hi') (List.getElem?_eq_getElem hi)
theorem PagesAt.set(h:PagesAt w S vs l)(i:Nat){v:Value}{x:Pg}(hv:PageAt w S v x):PagesAt w S (vs.set i v) (l.set i x):=by
 refine ⟨by simp [h.len],fun j u y hu hy=>?_⟩
 rw [List.getElem?_set]at hu hy
 by_cases hij:i=j
 ·subst hij
  rw [if_pos rfl]at hu hy
  split at hu<;>simp at hu
  split at hy<;>simp at hy
  subst hu;subst hy;exact hv
 ·rw [if_neg hij]at hu hy;exact h.at_ j u y hu hy
theorem PagesAt.snoc(h:PagesAt w S vs l){v:Value}{x:Pg}(hv:PageAt w S v x):PagesAt w S (vs++[v]) (l++[x]):=by
 refine ⟨by simp [h.len],fun j u y hu hy=>?_⟩
 have hl:=h.len
 rcases Nat.lt_trichotomy j vs.length with h1 |h1 |h1
 ·rw [List.getElem?_append_left h1]at hu;rw [List.getElem?_append_left (by omega)]at hy;exact h.at_ j u y hu hy
 ·subst h1
  rw [List.getElem?_append_right (Nat.le_refl _)]at hu;rw [List.getElem?_append_right (by omega)]at hy
  simp at hu;rw [hl]at hy;simp at hy
  subst hu;subst hy;exact hv
 ·rw [List.getElem?_eq_none (by simp;omega)]at hu;cases hu
theorem PagesAt.take(h:PagesAt w S vs l)(n:Nat):PagesAt w S (vs.take n) (l.take n):=by
 refine ⟨by simp [h.len],fun j u y hu hy=>?_⟩
 rw [List.getElem?_take]at hu hy
 split at hu
 ·rename_i hj;rw [if_pos hj]at hy;exact h.at_ j u y hu hy
 ·cases hu
def bv(c:List Bool):List Value:=c.map Value.bool
theorem bv_one(c:List Bool):∀ u∈bv c,u.oneCell'=true:=by
 intro u hu
 obtain ⟨b,_,rfl⟩:=List.mem_map.1 hu
 rfl
structure LAt (w:World) (S:Nat→Prop) (v:Value) (l:List Pg):Prop where
 row:∃ vs,w.ownsRow 0 60 1 v l.length vs∧PagesAt w S vs l
 own:∀ k,v.ownBlock=some k→S k
structure BAt (w:World) (S:Nat→Prop) (v:Value) (c:List Bool):Prop where
 row:w.ownsRow 0 4 1 v c.length (bv c)
 own:∀ k,v.ownBlock=some k→S k
theorem LAt.stay(h:LAt w S v l)(hb:∀ k,k<w.heap.size→S k→w'.heap[k]? = w.heap[k]?)(hs:∀ k,S k→S' k):LAt w' S' v l:=by
 obtain ⟨vs,hr,hp⟩:=h.row
 exact ⟨⟨vs,own_stay hr (fun k hk=>hb k (own_lt hr hk) (h.own k hk)),hp.stay (fun i u x _ hx k hk=>hb k (own_lt hx.1 hk) (hx.2 k hk)) hs⟩,fun k hk=>hs k (h.own k hk)⟩
theorem BAt.stay{c:List Bool}(h:BAt w S v c)(hb:∀ k,k<w.heap.size→S k→w'.heap[k]? = w.heap[k]?)(hs:∀ k,S k→S' k):BAt w' S' v c:=
 ⟨own_stay h.row (fun k hk=>hb k (own_lt h.row hk) (h.own k hk)),fun k hk=>hs k (h.own k hk)⟩
structure RM where
 id:Nat
 l:List Pg
 c:List Bool
structure RS where
 sure:List Pg
 now:List Pg
 c:List Bool
 busy:Bool
 marks:List RM
 last:Nat
 n:Nat
structure RV where
 sv:Value
 nv:Value
 cv:Value
 mv:Value
 ml:List (Value×Value)
def mcells:List RM→List (Value×Value)→List Value
 | m::ms,v::vs=>.int .i64 (m.id:Int)::v.1::v.2::mcells ms vs
 | _,_=>[]
structure RefP (w:World) (r:Nat) (S:Nat→Prop) (V:RV) (t:RS):Prop where
 box:w.heap[r]? = some (.cells #[V.sv,V.nv,V.cv,.bool t.busy,V.mv,.int .i64 (t.last:Int),.int .i64 (t.n:Int)] 35 (0,0))
 nr:¬S r
 lt:∀ k,S k→k<w.heap.size
 sure:LAt w S V.sv t.sure
 now:LAt w S V.nv t.now
 c:BAt w S V.cv t.c
 cn:t.c.length=t.now.length
 mrow:w.ownsRow 0 129 3 V.mv t.marks.length (mcells t.marks V.ml)
 mown:∀ k,V.mv.ownBlock=some k→S k
 mlen:V.ml.length=t.marks.length
 each:∀ (i:Nat) (m:RM) (v:Value×Value),t.marks[i]? = some m→V.ml[i]? = some v→LAt w S v.1 m.l∧BAt w S v.2 m.c
 ap:t.busy=true→(∀ k,V.nv.ownBlock=some k→V.sv.ownBlock≠some k∧∀ v∈V.ml,v.1.ownBlock≠some k)∧∀ k,V.cv.ownBlock=some k→∀ v∈V.ml,v.2.ownBlock≠some k
variable {t:RS} {V:RV} {r:Nat}
theorem RefP.cells(h:RefP w r S V t):w.cell? ⟨r,0,none⟩=some V.sv∧w.cell? ⟨r,1,none⟩=some V.nv∧w.cell? ⟨r,2,none⟩=some V.cv∧w.cell? ⟨r,3,none⟩=some (.bool t.busy)∧w.cell? ⟨r,4,none⟩=some V.mv∧w.cell? ⟨r,5,none⟩=some (.int .i64 (t.last:Int))∧w.cell? ⟨r,6,none⟩=some (.int .i64 (t.n:Int)):=by
 refine ⟨?_,?_,?_,?_,?_,?_,?_⟩<;>(rw [World.cell?,h.box];rfl)
theorem RefP.rlt(h:RefP w r S V t):r<w.heap.size:=lt_cell h.cells.1
theorem own3_stay{e:TypeId}{sz n:Nat}{xs:List Value}(h:w.ownsRow 0 e sz v n xs)(hb:∀ k,v.ownBlock=some k→w'.heap[k]? = w.heap[k]?):w'.ownsRow 0 e sz v n xs:=by
 refine ⟨h.1,?_⟩
 rcases h.2 with hn | ⟨g,cap,cur,rfl,hb',hg,hr⟩
 ·exact .inl hn
 ·exact .inr ⟨g,cap,cur,rfl,hb',(hb g rfl).trans hg,hr⟩
theorem RefP.stay(h:RefP w r S V t)(hs:w.heap.size≤w'.heap.size)(hb:∀ k,k<w.heap.size→(S k∨k=r)→w'.heap[k]? = w.heap[k]?):RefP w' r S V t:=
 ⟨(hb r h.rlt (Or.inr rfl)).trans h.box,h.nr,fun k hk=>Nat.lt_of_lt_of_le (h.lt k hk) hs,h.sure.stay (fun k hk hS=>hb k hk (Or.inl hS)) (fun _ h=>h),h.now.stay (fun k hk hS=>hb k hk (Or.inl hS)) (fun _ h=>h),h.c.stay (fun k hk hS=>hb k hk (Or.inl hS)) (fun _ h=>h),h.cn,
  own3_stay h.mrow (fun k hk=>hb k (h.lt k (h.mown k hk)) (Or.inl (h.mown k hk))),h.mown,h.mlen,fun i m v hm hv=>⟨(h.each i m v hm hv).1.stay (fun k hk hS=>hb k hk (Or.inl hS)) (fun _ h=>h),(h.each i m v hm hv).2.stay (fun k hk hS=>hb k hk (Or.inl hS)) (fun _ h=>h)⟩,h.ap⟩
theorem RefP.later(h:RefP w r S V t)(hb:Below w.heap.size w w'):RefP w' r S V t:=h.stay hb.size (fun k hk _=>hb.block k hk)
end
section
open Go.RowKit Go.Maps
open Dsk (gt hid undrew keep_old keep_cell lt_cell Rd bs bs_length own_stay own_lt own_later own_ne own_set El Src row_form)
variable {S:Nat→Prop} {w:World}
theorem LAt.form{v:Value}{l:List Pg}(h:LAt w S v l):∃ ao cap,v=.slice ao l.length cap∧(ao=none→l.length=0∧cap=0)∧∀ a,ao=some a→a=⟨a.block,0,none⟩∧l.length≤cap∧a.block<w.heap.size:=by
 obtain ⟨vs,hr,_⟩:=h.row
 exact row_form hr
def RS.pages(t:RS):List Pg:=if t.busy then t.now else t.sure
def RV.pages(V:RV)(t:RS):Value:=if t.busy then V.nv else V.sv
variable {t:RS} {V:RV} {r:Nat}
theorem RefP.pages(h:RefP w r S V t):LAt w S (V.pages t) t.pages:=by
 unfold RV.pages RS.pages
 split
 ·exact h.now
 ·exact h.sure
theorem rpages_any(r:Nat)(S:Nat→Prop)(V:RV)(t:RS)(w:World)(h:RefP w r S V t):Calls Tryz.prog 54 #[.pointer (some ⟨r,0,none⟩)] w fun e w'=>e=.returned (V.pages t)∧w'=w:=by
 obtain ⟨c0,c1,_,c3,_⟩:=h.cells
 unfold RV.pages
 clear h
 generalize hb:t.busy=b at *
 clear hb
 obtain ⟨sv,hsv⟩:∃ sv,V.sv=sv:=⟨_,rfl⟩
 obtain ⟨nv,hnv⟩:∃ nv,V.nv=nv:=⟨_,rfl⟩
 rw [hsv]at c0 ⊢;rw [hnv]at c1 ⊢
 clear hsv hnv
 cases b
 ·go_enter Tryz.func54,Tryz.ntmps54
  go_wp2
  go_ret
  exact ⟨rfl,rfl⟩
 ·go_enter Tryz.func54,Tryz.ntmps54
  go_wp2
  go_ret
  exact ⟨rfl,rfl⟩
structure BoxTo (w w':World) (r:Nat) (cs:Array Value):Prop where
 box:w'.heap[r]? = some (.cells cs 35 (0,0))
 size:w'.heap.size=w.heap.size
 other:∀ k,k≠r→w'.heap[k]? = w.heap[k]?
 os:w'.os=w.os
 tape:w'.tape=w.tape
 output:w'.output=w.output
theorem RefP.boxed{w':World}{V':RV}{t':RS}(h:RefP w r S V t)(hb:BoxTo w w' r #[V'.sv,V'.nv,V'.cv,.bool t'.busy,V'.mv,.int .i64 (t'.last:Int),.int .i64 (t'.n:Int)])
  (hs:LAt w S V'.sv t'.sure) (hn:LAt w S V'.nv t'.now) (hc:BAt w S V'.cv t'.c) (hcn:t'.c.length=t'.now.length) (hm:V'.mv=V.mv∧V'.ml=V.ml∧t'.marks=t.marks)
  (ha:t'.busy=true→(∀ k,V'.nv.ownBlock=some k→V'.sv.ownBlock≠some k∧∀ v∈V'.ml,v.1.ownBlock≠some k)∧∀ k,V'.cv.ownBlock=some k→∀ v∈V'.ml,v.2.ownBlock≠some k):RefP w' r S V' t':=by
 have ho:∀ k,k<w.heap.size→S k→w'.heap[k]? = w.heap[k]?:=fun k _ hS=>hb.other k (fun e=>h.nr (e▸hS))
 refine ⟨hb.box,h.nr,fun k hk=>by rw [hb.size];exact h.lt k hk,hs.stay ho (fun _ h=>h),hn.stay ho (fun _ h=>h),hc.stay ho (fun _ h=>h),hcn,?_,?_,?_,?_,ha⟩
 ·rw [hm.1,hm.2.1,hm.2.2];exact own3_stay h.mrow (fun k hk=>ho k (h.lt k (h.mown k hk)) (h.mown k hk))
 ·rw [hm.1];exact h.mown
 ·rw [hm.2.1,hm.2.2];exact h.mlen
 ·rw [hm.2.1,hm.2.2];exact fun i m v hm hv=>⟨(h.each i m v hm hv).1.stay ho (fun _ h=>h),(h.each i m v hm hv).2.stay ho (fun _ h=>h)⟩
end
section
open Go.RowKit Go.Maps
open Dsk (gt hid undrew keep_old keep_cell lt_cell Rd bs bs_length bs_one own_stay own_lt own_later own_ne own_set El Src row_form src_row el37 el66 el30 wpList_app here_op)
variable {S:Nat→Prop} {r:Nat} {w:World}
theorem RefP.frozen{V:RV}{t:RS}(h:RefP w r S V t)(i:Nat):w.frozen? ⟨r,i,none⟩=false:=by
 rw [World.frozen?,h.box];rfl
theorem BoxTo.set{i:Nat}{cs:List Value}{v:Value}(h:w.heap[r]? = some (.cells cs.toArray 35 (0,0))):BoxTo w (w.setCell ⟨r,i,none⟩ v) r (cs.set i v).toArray:=
 ⟨Cch.blk_set h,by simp,fun k hk=>heap_setCell_other _ _ _ _ hk,rfl,rfl,rfl⟩
theorem rrollback_no(r:Nat)(S:Nat→Prop)(V:RV)(t:RS)(w:World)(h:RefP w r S V t)(hb:t.busy=false):Calls Tryz.prog 51 #[.pointer (some ⟨r,0,none⟩)] w fun e w'=>e=.returned (.int .i64 6)∧w'=w:=by
 obtain ⟨_,_,_,c3,_⟩:=h.cells
 rw [hb]at c3
 clear h
 go_enter Tryz.func51,Tryz.ntmps51
 go_wp2
 go_ret
 exact ⟨rfl,rfl⟩
theorem rrollback_yes(r:Nat)(S:Nat→Prop)(V:RV)(t:RS)(w:World)(h:RefP w r S V t)(hb:t.busy=true):Calls Tryz.prog 51 #[.pointer (some ⟨r,0,none⟩)] w fun e w'=>e=.returned (.int .i64 0)∧RefP w' r S V { t with busy:=false }∧Cch.Fr (fun b=>b=r) w w':=by
 obtain ⟨_,_,_,c3,_⟩:=h.cells
 rw [hb]at c3
 have f3:=h.frozen 3
 have H:=hid h
 clear h
 go_enter Tryz.func51,Tryz.ntmps51
 go_wp2
 go_ret
 have B:=BoxTo.set (i:=3) (v:=.bool false) H.out.box
 exact ⟨rfl,H.out.boxed (V':=V) (t':={ t with busy:=false }) B H.out.sure H.out.now H.out.c H.out.cn ⟨rfl,rfl,rfl⟩ (fun h=>by cases h),⟨rfl,rfl,rfl,by simp,fun k _ hk=>B.other k hk⟩⟩
theorem rget_no(r:Nat)(S:Nat→Prop)(V:RV)(t:RS)(n:Int)(w:World)(h:RefP w r S V t)(hn:n<1∨(t.pages.length:Int)<n):Calls Tryz.prog 52 #[.pointer (some ⟨r,0,none⟩),.int .i64 n] w fun e w'=>e=.returned (.tuple #[.slice none 0 0,.int .i64 11])∧w'=w:=by
 have c:=rpages_any r S V t w h
 obtain ⟨ao,cap,hv,_,_⟩:=h.pages.form
 rw [hv]at c
 have C:=hid c
 clear c h hv
 generalize t.pages.length=L at *
 by_cases h1:n<1
 ·go_enter Tryz.func52,Tryz.ntmps52
  go_wp2_with (go_at_call 54;refine C.out.mono ?_;rintro e w1 ⟨rfl,hw1⟩;obtain rfl:=hw1.symm)
  go_ret2
  exact ⟨rfl,rfl⟩
 ·have h2:(L:Int)<n:=by omega
  go_enter Tryz.func52,Tryz.ntmps52
  go_wp2_with (go_at_call 54;refine C.out.mono ?_;rintro e w1 ⟨rfl,hw1⟩;obtain rfl:=hw1.symm)
  go_ret2
  exact ⟨rfl,rfl⟩
theorem LAt.at{ao:Option Addr}{n cap:Nat}{l:List Pg}(h:LAt w S (.slice ao n cap) l){i:Nat}(hi:i<l.length):∃ b v,ao=some ⟨b,0,none⟩∧w.cell? ⟨b,i,none⟩=some v∧PageAt w S v (l.getD i []):=by
 obtain ⟨vs,hr,hp⟩:=h.row
 obtain ⟨v,hv,hpv⟩:=hp.get hi
 obtain ⟨ao',cap',he,hn,ha⟩:=row_form hr
 simp only [Value.slice.injEq]at he
 obtain ⟨rfl,rfl,rfl⟩:=he
 cases ao with
 | none=>have:=(hn rfl).1;omega
 | some a=>
  obtain ⟨e1,_,_⟩:=ha a rfl
  rw [e1]at hr ⊢
  exact ⟨a.block,v,rfl,by have h9:=hr.cells (g:=a.block) rfl i v hv;rw [Addr.add_lit]at h9;simpa using h9,hpv⟩
theorem rget_yes(r:Nat)(S:Nat→Prop)(V:RV)(t:RS)(i:Nat)(w:World)(h:RefP w r S V t)(hi:i<t.pages.length)(hl:t.pages.length≤4000):Calls Tryz.prog 52 #[.pointer (some ⟨r,0,none⟩),.int .i64 ((i+1:Nat):Int)] w fun e w'=>∃ v,e=.returned (.tuple #[v,.int .i64 0])∧w'.ownsRow 0 5 1 v 512 (bs (t.pages.getD i []))∧Below w.heap.size w w':=by
 have c:=rpages_any r S V t w h
 have hL:=h.pages
 obtain ⟨ao,cap,hv,_,_⟩:=h.pages.form
 rw [hv]at c hL
 obtain ⟨b,v,rfl,hc,hp⟩:=hL.at hi
 obtain ⟨g,gc,rfl,hgc,hgl,_⟩:=hp.form
 have hb1:Below w.heap.size w (w.alloc (.cells #[] 5)):=(Below.refl _ _).alloc (Nat.le_refl _) _
 have sr:=hid (src_row (own_later hp.1 hb1) (bs_one _))
 have C:=hid c
 have hc1:=keep_old hb1 hc
 clear c h hv hL hp hb1
 obtain ⟨x,hx⟩:∃ x,x=t.pages.getD i []:=⟨_,rfl⟩
 rw [←hx]at sr ⊢
 clear hx
 generalize t.pages.length=L at *
 obtain ⟨N,hN⟩:∃ N:Int,N=((i+1:Nat):Int):=⟨_,rfl⟩
 rw [←hN]
 have n1:¬N<1:=by omega
 have n2:¬(L:Int)<N:=by omega
 have n3:N - 1=(i:Int):=by omega
 have n4:IntKind.i64.wrap (N - 1)=(i:Int):=by rw [IntWalk.i64_in _ ⟨by omega,by omega⟩];exact n3
 clear hN
 go_enter Tryz.func52,Tryz.ntmps52
 go_wp2_with (first
  | (go_at_call 54;refine C.out.mono ?_;rintro e w1 ⟨rfl,hw1⟩;obtain rfl:=hw1.symm)
  | ((with_reducible refine here_op 23 ?_);refine wpList_app rfl (.tmp 17) (.tmp 22) el37 rfl (.slice (some ⟨w.heap.size,0,none⟩) 0 0) 0 [] rfl (World.ownsRow_made w #[] 0 (Nat.zero_le _) (by decide) rfl) (some ⟨g,0,none⟩) 512 gc _ rfl sr.out (by omega) ?_;simp only [Nat.zero_add,List.nil_append];intro a2 n2' w2 ho2 hg2 hat2;have hb2:Hid (Below w.heap.size w w2):=hid (((Below.refl _ w).alloc (Nat.le_refl _) _).grown hg2 (by simp) (fun k hk=>by simp [Value.ownBlock]at hk;omega));have HO2:=hid ho2;clear ho2 hg2 hat2))
 go_ret2
 exact ⟨_,rfl,HO2.out,hb2.out⟩
end
end Go.Proofs.YtadhdedjdgjboaaGreatDoor
