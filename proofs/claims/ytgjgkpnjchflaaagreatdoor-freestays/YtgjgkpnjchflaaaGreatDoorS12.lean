/- How a cache lies in memory, and the small calls; no statement of the seat is proved here. -/
import Derived.Test.YtgjgkpnjchflaaaGreatDoorS11
import Derived.RangeFuncNested
import Derived.RangeFuncBound
import Derived.RangeFuncCalls
import Derived.RangeFuncLeaves
import Derived.Shelf.Abstract
import Derived.Shelf.RegionOpen
import Derived.OwnWalkIn
import Derived.TacticsInMore
import Derived.LoopNIn
import Derived.LoopIn
import Derived.LaidEql
import Derived.RangeFuncBox
import Derived.Maps.AppendAt
set_option maxHeartbeats 16000000
set_option maxRecDepth 20000
namespace Go.Proofs.YtgjgkpnjchflaaaGreatDoor
namespace Cch
open Go.RowKit Go.Maps
structure CS where
 room:Nat
 l:List Row
 hit:Nat
 miss:Nat
structure Parts where
 m:Nat
 h:Nat
 ks:List Nat
 E:Nat→Ent
def hdC(m h room hit miss:Nat):List Value:=[.int .i64 (room:Int),.map (some m),.pointer (some ⟨h,0,none⟩),.int .i64 (hit:Int),.int .i64 (miss:Int)]
def lk(ks:List Nat)(E:Nat→Ent)(k:Int):Option Nat:=ks.find? (fun b=>(E b).row.page == k)
structure CP (w:World) (c:Nat) (C:Parts) (s:CS):Prop where
 hd:w.heap[c]? = some (.cells (hdC C.m C.h s.room s.hit s.miss).toArray 130 (0,0))
 mp:MapAt w C.m (lk C.ks C.E) C.ks.length
 rg:RingAt w C.h C.ks C.E
 ls:s.l=C.ks.map (fun b=>(C.E b).row)
 pg:(s.l.map Row.page).Nodup
 wf:∀ r∈s.l,(Lit.int .i64 r.page).wf=true∧1≤r.page
 rm:1≤s.room∧s.room≤4096
def Parts.S(C:Parts)(c:Nat):Nat→Prop:=fun k=>k=c∨k=C.m∨k∈C.h::C.ks
variable {s:CS} {C:Parts} {c:Nat} {w:World}
theorem CP.clt(h:CP w c C s):c<w.heap.size:=(Array.getElem?_eq_some_iff.1 h.hd).1
theorem CP.lt(h:CP w c C s){k:Nat}(hk:C.S c k):k<w.heap.size:=by
 rcases hk with rfl |rfl |hk
 ·exact h.clt
 ·exact h.mp.lt
 ·exact (h.rg.en k hk).lt
theorem CP.nc(h:CP w c C s):c∉C.h::C.ks:=fun hm=>by
 have:=(h.rg.en c hm).blk
 rw [h.hd]at this
 simp at this
theorem CP.mc(h:CP w c C s):C.m≠c:=fun hm=>by
 obtain ⟨es,cl,ho⟩:=h.mp.obj
 rw [hm,h.hd]at ho
 simp at ho
theorem CP.nm(h:CP w c C s):C.m∉C.h::C.ks:=fun hm=>by
 obtain ⟨es,cl,ho⟩:=h.mp.obj
 rw [(h.rg.en _ hm).blk]at ho
 simp at ho
variable {w':World}
theorem CP.stay(h:CP w c C s)(hb:∀ k,k<w.heap.size→C.S c k→w'.heap[k]? = w.heap[k]?):CP w' c C s:=
 ⟨(hb c h.clt (Or.inl rfl)).trans h.hd,h.mp.stay (hb _ h.mp.lt (Or.inr (Or.inl rfl))),h.rg.stay (fun b hm=>hb b (h.rg.en b hm).lt (Or.inr (Or.inr hm))),h.ls,h.pg,h.wf,h.rm⟩
theorem CP.later(h:CP w c C s)(hb:Below w.heap.size w w'):CP w' c C s:=h.stay (fun k hk _=>hb.block k hk)
variable {t:TypeId} {cs:List Value}
theorem hd_cell(h:w.heap[c]? = some (.cells cs.toArray t (0,0)))(i:Nat):w.cell? ⟨c,i,none⟩=cs[i]?:=by simp [World.cell?,h]
theorem hd_frozen(h:w.heap[c]? = some (.cells cs.toArray t (0,0)))(i:Nat):w.frozen? ⟨c,i,none⟩=false:=by simp [World.frozen?,h]
theorem CP.c0(h:CP w c C s):w.cell? ⟨c,0,none⟩=some (.int .i64 (s.room:Int)):=hd_cell h.hd 0
theorem CP.c1(h:CP w c C s):w.cell? ⟨c,1,none⟩=some (.map (some C.m)):=hd_cell h.hd 1
theorem CP.c2(h:CP w c C s):w.cell? ⟨c,2,none⟩=some (.pointer (some ⟨C.h,0,none⟩)):=hd_cell h.hd 2
theorem CP.c3(h:CP w c C s):w.cell? ⟨c,3,none⟩=some (.int .i64 (s.hit:Int)):=hd_cell h.hd 3
theorem CP.c4(h:CP w c C s):w.cell? ⟨c,4,none⟩=some (.int .i64 (s.miss:Int)):=hd_cell h.hd 4
theorem CP.idx(h:CP w c C s){k:Int}{b:Nat}(hb:lk C.ks C.E k=some b):∃ xs ys,C.ks=xs++b::ys∧(C.E b).row.page=k∧(∀ x∈xs,(C.E x).row.page≠k)∧(∀ x∈ys,(C.E x).row.page≠k):=by
 obtain ⟨h1,xs,ys,e,h2⟩:=List.find?_eq_some_iff_append.1 hb
 refine ⟨xs,ys,e,by simpa using h1,fun x hx=>by simpa using h2 x hx,fun x hx hxk=>?_⟩
 have h3:=h.pg
 rw [h.ls,e]at h3
 simp only [List.map_append,List.map_cons,List.map_map]at h3
 have h4:=(List.nodup_cons.1 (List.nodup_append.1 h3).2.1).1
 refine h4 (List.mem_map.2 ⟨x,hx,?_⟩)
 simp at h1
 simp [hxk,h1]
theorem lk_none{ks:List Nat}{E:Nat→Ent}{k:Int}(hb:lk ks E k=none):∀ x∈ks,(E x).row.page≠k:=fun x hx=>by
 have:=List.find?_eq_none.1 hb x hx
 simpa using this
theorem made_yes(c:Nat)(r:Nat)(w:World)(c0:w.cell? ⟨c,0,none⟩=some (.int .i64 (r:Int)))(hr:1≤r) :
  Calls Tryz.prog 124 #[.pointer (some ⟨c,0,none⟩)] w fun e w'=>e=.returned (.bool true)∧w'=w:=by
 have hr':0<r:=hr
 go_enter Tryz.func124,Tryz.ntmps124
 go_wp2
 go_ret
 exact ⟨rfl,rfl⟩
def lkE:Option Nat→Int
 | some _=>0
 | none=>5
theorem find_at(c:Nat)(C:Parts)(s:CS)(k:Int)(w:World)(h:CP w c C s)(hk:(Lit.int .i64 k).wf=true)(o:Option Nat)(ho:lk C.ks C.E k=o) :
  Calls Tryz.prog 120 #[.pointer (some ⟨c,0,none⟩),.int .i64 k] w fun e w'=>e=.returned (.tuple #[ptr o,.int .i64 (lkE o)])∧w'=w:=by
 have k1:=hid (made_yes c s.room w h.c0 h.rm.1)
 have c1:=h.c1
 have hl:=h.mp.look hk
 rw [ho]at hl
 clear h ho hk
 cases o with
 | none=>
  rw [show ptr none=.pointer none from rfl]at hl ⊢
  go_enter Tryz.func120,Tryz.ntmps120
  go_wp2_with (go_at_call 124;refine k1.out.mono ?_;rintro e w1 ⟨rfl,rfl⟩)
  go_ret2
  exact ⟨rfl,rfl⟩
 | some b=>
  rw [show ptr (some b)=.pointer (some ⟨b,0,none⟩) from rfl]at hl ⊢
  go_enter Tryz.func120,Tryz.ntmps120
  go_wp2_with (go_at_call 124;refine k1.out.mono ?_;rintro e w1 ⟨rfl,rfl⟩)
  go_ret2
  exact ⟨rfl,rfl⟩
variable {m:Nat}
theorem turned_cell(h:w.mapTurned w' m){b:Nat}(hb:b≠m)(hl:b<w.heap.size):w'.heap[b]? = w.heap[b]?:=h.grown.block b hl (by intro e;cases e;exact hb rfl)
theorem mapped_drew{n:Nat}{f:Int→Option Nat}(h:MapAt w m f n):MapAt w.drew m f n:=h.stay rfl
theorem add_raw(c m e:Nat)(k:Int)(w w1:World)(R:World→Prop)(c1:w.cell? ⟨c,1,none⟩=some (.map (some m)))(ce:w.cell? ⟨e,0,none⟩=some (.int .i64 k))
  (hput:(Instr.mapUpdate 126 (.map (some m)) (.int .i64 k) (.pointer (some ⟨e,0,none⟩))).run Tryz.prog w.drew=.ok () w1)
  (hl:Calls Tryz.prog 167 #[.pointer (some ⟨c,0,none⟩),.pointer (some ⟨e,0,none⟩)] w1 fun r w'=>r=.returned (.tuple #[])∧R w') :
  Calls Tryz.prog 125 #[.pointer (some ⟨c,0,none⟩),.pointer (some ⟨e,0,none⟩)] w fun r w'=>r=.returned (.tuple #[])∧R w':=by
 have k1:=hid hl
 clear hl
 go_enter Tryz.func125,Tryz.ntmps125
 go_wp2_with fail
 go_region
 go_wp2_with (go_at_call 167;refine k1.out.mono ?_;rintro e w2 ⟨rfl,hR⟩;replace hR:=hid hR)
 go_end0
 exact ⟨rfl,hR.out⟩
theorem remove_raw(c m e:Nat)(k:Int)(w w1:World)(R:World→Prop)(c1:w.cell? ⟨c,1,none⟩=some (.map (some m)))(ce:w.cell? ⟨e,0,none⟩=some (.int .i64 k))
  (hdel:∀ ty,(Builtin.delete_ #[126,3] ty #[.map (some m),.int .i64 k]).run Tryz.prog w.drew=.ok (.tuple #[]) w1)
  (hl:Calls Tryz.prog 164 #[.pointer (some ⟨e,0,none⟩)] w1 fun r w'=>r=.returned (.tuple #[])∧R w') :
  Calls Tryz.prog 121 #[.pointer (some ⟨c,0,none⟩),.pointer (some ⟨e,0,none⟩)] w fun r w'=>r=.returned (.tuple #[])∧R w':=by
 have k1:=hid hl
 clear hl
 go_enter Tryz.func121,Tryz.ntmps121
 go_wp2_with fail
 go_region
 go_wp2_with (go_at_call 164;refine k1.out.mono ?_;rintro e w2 ⟨rfl,hR⟩;replace hR:=hid hR)
 go_end0
 exact ⟨rfl,hR.out⟩
end Cch
namespace Cch
open Go.RowKit Go.Maps
def rowsOf(ks:List Nat)(E:Nat→Ent):List Row:=ks.map (fun b=>(E b).row)
def pagesOf(ks:List Nat)(E:Nat→Ent):List Int:=ks.map (fun b=>(E b).row.page)
theorem pages_rows(ks:List Nat)(E:Nat→Ent):(rowsOf ks E).map Row.page=pagesOf ks E:=by simp [rowsOf,pagesOf,Function.comp_def]
variable {ks:List Nat}
theorem rowsOf_congr{E E':Nat→Ent}(h:∀ b∈ks,(E' b).row=(E b).row):rowsOf ks E'=rowsOf ks E:=List.map_congr_left h
theorem pagesOf_congr{E E':Nat→Ent}(h:∀ b∈ks,(E' b).row=(E b).row):pagesOf ks E'=pagesOf ks E:=List.map_congr_left (fun b hb=>by rw [h b hb])
theorem lk_iff{E:Nat→Ent}(hn:(pagesOf ks E).Nodup){k:Int}{b:Nat}:lk ks E k=some b↔b∈ks∧(E b).row.page=k:=by
 constructor
 ·intro h
  exact ⟨List.mem_of_find?_eq_some h,by have:=List.find?_some h;simpa using this⟩
 ·rintro ⟨hb,hp⟩
  induction ks with
  | nil=>cases hb
  | cons x ks ih=>
   have hn2:=List.nodup_cons.1 hn
   unfold lk
   rw [List.find?_cons]
   rcases List.mem_cons.1 hb with rfl |hb
   ·simp [hp]
   ·have hxk:(E x).row.page≠k:=fun hx=>hn2.1 (by dsimp only;rw [hx,←hp];exact List.mem_map.2 ⟨b,hb,rfl⟩)
    have:((E x).row.page == k)=false:=by simpa using hxk
    rw [this]
    exact ih hn2.2 hb
theorem lk_ext{ks':List Nat}{E E':Nat→Ent}(hn:(pagesOf ks E).Nodup)(hn':(pagesOf ks' E').Nodup)(hm:∀ b,b∈ks↔b∈ks')(hr:∀ b∈ks,(E' b).row=(E b).row)(k:Int):lk ks E k=lk ks' E' k:=by
 refine Option.ext fun b=>?_
 rw [lk_iff hn,lk_iff hn']
 constructor
 ·rintro ⟨h1,h2⟩;exact ⟨(hm b).1 h1,by rw [hr b h1];exact h2⟩
 ·rintro ⟨h1,h2⟩;have h3:=(hm b).2 h1;exact ⟨h3,by rw [←hr b h3];exact h2⟩
variable {s:CS} {C:Parts} {c:Nat} {w:World}
theorem CP.pn(h:CP w c C s):(pagesOf C.ks C.E).Nodup:=by
 have:=h.pg;rwa [h.ls,show (C.ks.map fun b=>(C.E b).row)=rowsOf C.ks C.E from rfl,pages_rows]at this
theorem CP.mk'(hd:w.heap[c]? = some (.cells (hdC C.m C.h s.room s.hit s.miss).toArray 130 (0,0)))(mp:MapAt w C.m (lk C.ks C.E) C.ks.length)(rg:RingAt w C.h C.ks C.E)(ls:s.l=rowsOf C.ks C.E)
  (pn:(pagesOf C.ks C.E).Nodup) (wf:∀ r∈s.l,(Lit.int .i64 r.page).wf=true∧1≤r.page) (rm:1≤s.room∧s.room≤4096):CP w c C s:=
 ⟨hd,mp,rg,ls,by rw [ls,pages_rows];exact pn,wf,rm⟩
structure Came (w:World) (c e:Nat) (C C':Parts) (x:Row) (w':World):Prop where
 m:C'.m=C.m
 h:C'.h=C.h
 ks:C'.ks=C.ks++[e]
 row:(C'.E e).row=x
 rows:∀ b,b≠e→(C'.E b).row=(C.E b).row
 fr:Fr (fun k=>C.S c k∨k=e) w w'
theorem add_cp(c e:Nat)(C:Parts)(s:CS)(x:Ent)(w:World)(h:CP w c C s)(hx:EntAt w e x)(he:¬C.S c e)(hk:lk C.ks C.E x.row.page=none)(hwf:(Lit.int .i64 x.row.page).wf=true)(h1:1≤x.row.page)(hn:C.ks.length<1000000) :
  Calls Tryz.prog 125 #[.pointer (some ⟨c,0,none⟩),.pointer (some ⟨e,0,none⟩)] w fun r w'=>r=.returned (.tuple #[])∧∃ C',CP w' c C' { s with l:=s.l++[x.row] }∧Came w c e C C' x.row w':=by
 obtain ⟨w1,hput,hm1,ht⟩:=(mapped_drew h.mp).put hwf hn e
 rw [hk]at hm1
 have hec:e≠c:=fun h0=>he (Or.inl h0)
 have hem:e≠C.m:=fun h0=>he (Or.inr (Or.inl h0))
 have her:e∉C.h::C.ks:=fun h0=>he (Or.inr (Or.inr h0))
 have hb:∀ k,k≠C.m→k<w.heap.size→w1.heap[k]? = w.heap[k]?:=fun k hk hl=>turned_cell ht hk hl
 have hr1:RingAt w1 C.h C.ks C.E:=h.rg.stay (fun b hbm=>hb b (fun h0=>h.nm (h0▸hbm)) (h.rg.en b hbm).lt)
 have hx1:EntAt w1 e x:=hx.stay (hb e hem hx.lt)
 have hc1:w1.cell? ⟨c,2,none⟩=some (.pointer (some ⟨C.h,0,none⟩)):=(World.cell?_of_block (hb c h.mc.symm h.clt)).trans h.c2
 refine add_raw c C.m e x.row.page w w1 _ h.c1 hx.page hput ((link_ring c C.h e C.ks C.E w1 hr1 her x hx1 hc1).mono ?_)
 rintro r w' ⟨rfl,E',g1,g2,g3,g4⟩
 have hrows:∀ b∈C.ks,(E' b).row=(C.E b).row:=fun b hb=>g3 b (fun h0=>her (by rw [←h0];simp [hb]))
 have hpn:(pagesOf (C.ks++[e]) E').Nodup:=by
  have e1:pagesOf (C.ks++[e]) E'=pagesOf C.ks C.E++[x.row.page]:=by
   have:=pagesOf_congr hrows
   simp only [pagesOf]at this ⊢
   simp [this,g2]
  rw [e1]
  refine List.nodup_append.2 ⟨h.pn,by simp,fun a ha b hb=>?_⟩
  simp at hb;subst hb
  rintro rfl
  obtain ⟨y,hy,hyp⟩:=List.mem_map.1 ha
  exact lk_none hk y hy hyp
 have hfr:Fr (fun k=>C.S c k∨k=e) w w':=by
  refine (((Fr.refl _ w).drew).turned ht (Or.inl (Or.inr (Or.inl rfl)))).trans g4 ?_
  intro j _ hj
  simp only [List.mem_cons,List.mem_append,List.not_mem_nil,or_false]at hj
  rcases hj with h |h |h
  ·exact Or.inl (Or.inr (Or.inr (by simp [h])))
  ·exact Or.inl (Or.inr (Or.inr (by simp [h])))
  ·exact Or.inr h
 have hsz1:w.heap.size≤w1.heap.size:=ht.grown.size
 have hcn:c∉C.h::(C.ks++[e]):=by
  intro hm
  simp only [List.mem_cons,List.mem_append,List.not_mem_nil,or_false]at hm
  rcases hm with h0 |h0 |h0
  ·exact h.nc (by simp [h0])
  ·exact h.nc (by simp [h0])
  ·exact hec h0.symm
 have hmn:C.m∉C.h::(C.ks++[e]):=by
  intro hm
  simp only [List.mem_cons,List.mem_append,List.not_mem_nil,or_false]at hm
  rcases hm with h0 |h0 |h0
  ·exact h.nm (by simp [h0])
  ·exact h.nm (by simp [h0])
  ·exact hem h0.symm
 refine ⟨rfl,⟨C.m,C.h,C.ks++[e],E'⟩,CP.mk' ?_ ?_ g1 ?_ hpn ?_ h.rm,⟨rfl,rfl,rfl,g2,g3,hfr⟩⟩
 ·exact (g4.blk c (Nat.lt_of_lt_of_le h.clt hsz1) hcn).trans ((hb c h.mc.symm h.clt).trans h.hd)
 ·refine MapAt.imp (hm1.stay (g4.blk C.m (Nat.lt_of_lt_of_le h.mp.lt hsz1) hmn)) (by simp) (fun k _=>?_)
  refine Option.ext fun b=>?_
  rw [lk_iff hpn]
  by_cases hkk:k=x.row.page
  ·subst hkk
   rw [if_pos rfl]
   simp only [Option.some.injEq,List.mem_append,List.mem_singleton]
   constructor
   ·rintro rfl;exact ⟨Or.inr rfl,by rw [g2]⟩
   ·rintro ⟨h1 |h1,h2⟩
    ·exfalso;rw [hrows b h1]at h2;exact lk_none hk b h1 h2
    ·exact h1.symm
  ·rw [if_neg hkk,lk_iff h.pn]
   simp only [List.mem_append,List.mem_singleton]
   constructor
   ·rintro ⟨h1,h2⟩;exact ⟨Or.inl h1,by rw [hrows b h1];exact h2⟩
   ·rintro ⟨h1 |h1,h2⟩
    ·exact ⟨h1,by rw [←hrows b h1];exact h2⟩
    ·exfalso;subst h1;rw [g2]at h2;exact hkk h2.symm
 ·have:=rowsOf_congr hrows
  simp only [rowsOf]at this ⊢
  simp [this,g2,h.ls]
 ·intro r hr
  rcases List.mem_append.1 hr with hr |hr
  ·exact h.wf r hr
  ·simp at hr;subst hr;exact ⟨hwf,h1⟩
structure Went (w:World) (c e:Nat) (xs ys:List Nat) (C C':Parts) (w':World):Prop where
 m:C'.m=C.m
 h:C'.h=C.h
 ks:C'.ks=xs++ys
 rows:∀ b,(C'.E b).row=(C.E b).row
 aft:∀ b∈ys,(C'.E b).aft=(C.E b).aft
 en:EntAt w' e (C.E e)
 fr:Fr (C.S c) w w'
theorem remove_cp(c e:Nat)(xs ys:List Nat)(C:Parts)(s:CS)(w:World)(h:CP w c C s)(hks:C.ks=xs++e::ys) :
  Calls Tryz.prog 121 #[.pointer (some ⟨c,0,none⟩),.pointer (some ⟨e,0,none⟩)] w fun r w'=>r=.returned (.tuple #[])∧∃ C',CP w' c C' { s with l:=rowsOf (xs++ys) C.E }∧Went w c e xs ys C C' w':=by
 have hem:e∈C.h::C.ks:=by rw [hks];simp
 have hee:=h.rg.en e hem
 have hwe:=h.wf (C.E e).row (by rw [h.ls];exact List.mem_map.2 ⟨e,by rw [hks];simp,rfl⟩)
 obtain ⟨w1,hdel,hm1,ht⟩:=(mapped_drew h.mp).del hwe.1 4
 have hdel':∀ ty,(Builtin.delete_ #[126,3] ty #[.map (some C.m),.int .i64 (C.E e).row.page]).run Tryz.prog w.drew=.ok (.tuple #[]) w1:=fun ty=>hdel
 have hlk:lk C.ks C.E (C.E e).row.page=some e:=(lk_iff h.pn).2 ⟨by rw [hks];simp,rfl⟩
 rw [hlk]at hm1
 have hb:∀ k,k≠C.m→k<w.heap.size→w1.heap[k]? = w.heap[k]?:=fun k hk hl=>turned_cell ht hk hl
 have hr1:RingAt w1 C.h C.ks C.E:=h.rg.stay (fun b hbm=>hb b (fun h0=>h.nm (h0▸hbm)) (h.rg.en b hbm).lt)
 rw [hks]at hr1
 refine remove_raw c C.m e (C.E e).row.page w w1 _ h.c1 hee.page hdel' ((unlink_ring C.h e xs ys C.E w1 hr1).mono ?_)
 rintro r w' ⟨rfl,E',g1,g2,g3,g4,g5⟩
 have hsz1:w.heap.size≤w1.heap.size:=ht.grown.size
 have hsub:∀ b,b∈C.h::(xs++ys)→b∈C.h::C.ks:=by
  intro b hb
  rw [hks]
  simp only [List.mem_cons,List.mem_append]at hb ⊢
  rcases hb with h |h |h<;>simp [h]
 have hpn:(pagesOf (xs++ys) E').Nodup:=by
  rw [pagesOf_congr (fun b _=>g3 b)]
  have:=h.pn
  rw [hks]at this
  simp only [pagesOf,List.map_append,List.map_cons]at this ⊢
  have n1:=List.nodup_append.1 this
  exact List.nodup_append.2 ⟨n1.1,(List.nodup_cons.1 n1.2.1).2,fun a ha b hb=>n1.2.2 a ha b (by simp [hb])⟩
 have hfr:Fr (C.S c) w w':=(((Fr.refl _ w).drew).turned ht (Or.inr (Or.inl rfl))).trans g5 (fun j _ hj=>Or.inr (Or.inr (hsub j hj)))
 refine ⟨rfl,⟨C.m,C.h,xs++ys,E'⟩,CP.mk' ?_ ?_ g1 ?_ hpn ?_ h.rm,⟨rfl,rfl,rfl,g3,g4,g2,hfr⟩⟩
 ·exact (g5.blk c (Nat.lt_of_lt_of_le h.clt hsz1) (fun hm=>h.nc (hsub c hm))).trans ((hb c h.mc.symm h.clt).trans h.hd)
 ·refine MapAt.imp (hm1.stay (g5.blk C.m (Nat.lt_of_lt_of_le h.mp.lt hsz1) (fun hm=>h.nm (hsub _ hm)))) (by rw [hks];simp) (fun k _=>?_)
  refine Option.ext fun b=>?_
  rw [lk_iff hpn]
  have hne:e∉xs++ys:=by
   have:=(List.nodup_cons.1 h.rg.nd).2
   rw [hks]at this
   have n1:=List.nodup_append.1 this
   intro hm
   rcases List.mem_append.1 hm with h0 |h0
   ·exact n1.2.2 e h0 e (by simp) rfl
   ·exact (List.nodup_cons.1 n1.2.1).1 h0
  by_cases hkk:k=(C.E e).row.page
  ·subst hkk
   rw [if_pos rfl]
   constructor
   ·intro h0;cases h0
   ·rintro ⟨h1,h2⟩
    exfalso
    rw [g3 b]at h2
    have:lk C.ks C.E (C.E e).row.page=some b:=(lk_iff h.pn).2 ⟨by
     have:=hsub b (List.mem_cons_of_mem _ h1)
     rcases List.mem_cons.1 this with h3 |h3
     ·exfalso
      have n2:=(List.nodup_cons.1 g1.nd).1
      exact n2 (h3▸h1)
     ·exact h3,h2⟩
    rw [hlk]at this
    cases this
    exact hne h1
  ·rw [if_neg hkk,lk_iff h.pn,hks]
   constructor
   ·rintro ⟨h1,h2⟩
    refine ⟨?_,by rw [g3 b];exact h2⟩
    simp only [List.mem_append,List.mem_cons]at h1 ⊢
    rcases h1 with h0 |h0 |h0
    ·exact Or.inl h0
    ·exfalso;subst h0;exact hkk h2.symm
    ·exact Or.inr h0
   ·rintro ⟨h1,h2⟩
    refine ⟨?_,by rw [←g3 b];exact h2⟩
    simp only [List.mem_append,List.mem_cons]at h1 ⊢
    rcases h1 with h0 |h0<;>simp [h0]
 ·exact (rowsOf_congr (fun b _=>g3 b)).symm
 ·intro r hr
  refine h.wf r ?_
  rw [h.ls,hks]
  obtain ⟨b,hb,rfl⟩:=List.mem_map.1 hr
  refine List.mem_map.2 ⟨b,?_,rfl⟩
  simp only [List.mem_append,List.mem_cons]at hb ⊢
  rcases hb with h0 |h0<;>simp [h0]
theorem use_cp(c e:Nat)(xs ys:List Nat)(C:Parts)(s:CS)(w:World)(h:CP w c C s)(hks:C.ks=xs++e::ys) :
  Calls Tryz.prog 126 #[.pointer (some ⟨c,0,none⟩),.pointer (some ⟨e,0,none⟩)] w fun r w'=>r=.returned (.tuple #[])∧∃ C',CP w' c C' { s with l:=rowsOf (xs++ys++[e]) C.E }∧C'.m=C.m∧C'.h=C.h∧C'.ks=xs++ys++[e]∧(∀ b,(C'.E b).row=(C.E b).row)∧Fr (C.S c) w w':=by
 have hr1:=h.rg
 have hcn:=h.nc
 rw [hks]at hr1 hcn
 refine (use_ring c C.h e xs ys C.E w hr1 (by rw [h.hd];rfl) hcn h.c2).mono ?_
 rintro r w' ⟨rfl,E',g1,g3,g5⟩
 have hmem:∀ b,b∈C.ks↔b∈xs++ys++[e]:=fun b=>by
  rw [hks];simp only [List.mem_append,List.mem_cons,List.not_mem_nil,or_false]
  constructor
  ·rintro (h |h |h)<;>simp [h]
  ·rintro ((h |h) |h)<;>simp [h]
 have hpn:(pagesOf (xs++ys++[e]) E').Nodup:=by
  rw [pagesOf_congr (fun b _=>g3 b)]
  have h1:=h.pn
  rw [hks]at h1
  refine (List.Perm.nodup_iff ?_).1 h1
  refine List.Perm.map _ ?_
  rw [List.append_assoc]
  exact List.Perm.append_left _ (List.perm_append_singleton e ys).symm
 rw [show (xs++e::ys)=C.ks from hks.symm]at g5
 have hfr:Fr (C.S c) w w':=g5.imp (fun j _ hj=>Or.inr (Or.inr hj))
 refine ⟨rfl,⟨C.m,C.h,xs++ys++[e],E'⟩,CP.mk' ?_ ?_ g1 ?_ hpn ?_ h.rm,rfl,rfl,rfl,g3,hfr⟩
 ·exact (g5.blk c h.clt h.nc).trans h.hd
 ·exact MapAt.imp (h.mp.stay (g5.blk C.m h.mp.lt h.nm)) (by rw [hks];simp) (fun k _=>lk_ext h.pn hpn hmem (fun b _=>g3 b) k)
 ·exact (rowsOf_congr (fun b _=>g3 b)).symm
 ·intro r hr
  refine h.wf r ?_
  rw [h.ls]
  obtain ⟨b,hb,rfl⟩:=List.mem_map.1 hr
  exact List.mem_map.2 ⟨b,(hmem b).2 hb,rfl⟩
end Cch
namespace Cch
open Go.RowKit Go.Maps
def zeroR(k:Int):Row:=⟨k,List.replicate 512 0,0,false⟩
def zeroE(k:Int):Ent:=⟨zeroR k,none,none⟩
theorem wpList_build1_run{P:Program}{ops:Array Oper}{rest:List Oper}{o:Oper}{a:Act}{w:World}{Q:Exit→Act→World→Prop}(hgd:o.guard=none)(ty:TypeId)(x:Operand)(ho:o.op=.build ty #[(0,x)])(u v:Value)(hx:a.eval x=u)
  (hrun:(Instr.build ty #[(0,u)]).run P w=.ok v w) (h:wpList P ops Q rest (a.put o.dst v) w):wpList P ops Q (o::rest) a w:=by
 refine wpList_plain hgd fun K hK=>?_
 unfold Oper.wp
 simp [execOp,ho,hx,hrun,Result.andThen]
 exact hK _ _ h
theorem build69(W:World):(Instr.build 162 #[]).run Tryz.prog W=.ok (.agg (cellsE (zeroE 0)).toArray) W:=by kernel_rfl
theorem build69p(k:Int)(W:World):(Instr.build 162 #[(0,.int .i64 k)]).run Tryz.prog W=.ok (.agg (cellsE (zeroE k)).toArray) W:=by kernel_rfl
theorem box69(Z:Array Value)(W:World):(Instr.box 162 (.agg Z)).run Tryz.prog W=.ok (.pointer (some ⟨W.heap.size,0,none⟩)) (W.alloc (.cells Z 162)):=rfl
theorem ent_new(w:World)(k:Int):EntAt (w.alloc (.cells (cellsE (zeroE k)).toArray 162)) w.heap.size (zeroE k):=⟨heap_alloc_new w _,List.length_replicate⟩
theorem ring_any(w:World):Calls Tryz.prog 76 #[] w fun e w'=>e=.returned (.pointer (some ⟨w.heap.size,0,none⟩))∧w'=((w.alloc (.cells (cellsE (zeroE 0)).toArray 162)).setCell ⟨w.heap.size,515,none⟩ (.pointer (some ⟨w.heap.size,0,none⟩))).setCell ⟨w.heap.size,516,none⟩ (.pointer (some ⟨w.heap.size,0,none⟩)):=by
 obtain ⟨Z,hZ⟩:∃ Z,Z=(cellsE (zeroE 0)).toArray:=⟨_,rfl⟩
 have hb:=build69
 have he:=ent_new w 0
 rw [←hZ]at hb ⊢
 obtain ⟨W,hW⟩:∃ W,W=w.alloc (.cells Z 162):=⟨_,rfl⟩
 rw [←hZ,←hW]at he
 have c1:=he.bef;have c2:=he.aft;have f1:=he.frozen 515;have f2:=he.frozen 516
 have hx:(Instr.box 162 (.agg Z)).run Tryz.prog w=.ok (.pointer (some ⟨w.heap.size,0,none⟩)) W:=hW▸box69 Z w
 have HW:=hid hW
 clear he hZ
 rw [←hW]
 clear hW
 go_enter Tryz.func76,Tryz.ntmps76
 go_wp2_with (first |((with_reducible refine here_op 2 ?_);refine wpList_build_run rfl 162 rfl _ (hb _) ?_) |((with_reducible refine here_op 3 ?_);refine wpList_box_run rfl 162 (.tmp 2) rfl _ _ rfl _ hx ?_))
 go_ret
 exact ⟨rfl,rfl⟩
theorem ring_world(w:World):∃ E,RingAt (((w.alloc (.cells (cellsE (zeroE 0)).toArray 162)).setCell ⟨w.heap.size,515,none⟩ (.pointer (some ⟨w.heap.size,0,none⟩))).setCell ⟨w.heap.size,516,none⟩ (.pointer (some ⟨w.heap.size,0,none⟩))) w.heap.size [] E:=by
 have h1:=((ent_new w 0).setBef w.heap.size).setAft w.heap.size
 refine ⟨fun _=>((zeroE 0).wBef w.heap.size).wAft w.heap.size,fun b hb=>?_,⟨rfl,rfl,trivial⟩,by simp⟩
 simp at hb
 subst hb
 exact h1
theorem new_raw(r:Nat)(w:World)(h1:1≤r)(h2:r≤4096)(w1:World)(h:Nat)(k:Calls Tryz.prog 76 #[] (w.alloc (.map #[] 0)) fun e w'=>e=.returned (.pointer (some ⟨h,0,none⟩))∧w'=w1) :
  Calls Tryz.prog 41 #[.int .i64 (r:Int)] w fun e w'=>e=.returned (.pointer (some ⟨w1.heap.size,0,none⟩))∧w'=w1.alloc (.cells (hdC w.heap.size h r 0 0).toArray 130):=by
 have hm:=@run_makeMap Tryz.prog
 have h3:¬(r:Int)<1:=by omega
 have h4:¬(4096:Int)<(r:Int):=by omega
 have k1:=hid k
 clear k
 go_enter Tryz.func41,Tryz.ntmps41
 go_wp2_with (go_at_call 76;refine k1.out.mono ?_;rintro e w2 ⟨rfl,h0⟩;obtain rfl:=h0.symm)
 go_ret
 exact ⟨rfl,rfl⟩
theorem new_yes(r:Nat)(w:World)(h1:1≤r)(h2:r≤4096) :
  Calls Tryz.prog 41 #[.int .i64 (r:Int)] w fun e w'=>∃ c,e=.returned (.pointer (some ⟨c,0,none⟩))∧∃ C,CP w' c C ⟨r,[],0,0⟩∧C.ks = []∧(∀ k,C.S c k→w.heap.size≤k)∧Below w.heap.size w w':=by
 have k:=ring_any (w.alloc (.map #[] 0))
 obtain ⟨W,hW⟩:∃ W,W=w.alloc (.map #[] 0):=⟨_,rfl⟩
 have hWs:W.heap.size=w.heap.size+1:=by rw [hW];simp
 have hWm:MapAt W w.heap.size (fun _=>none) 0:=hW▸MapAt.new w
 have hWb:Below w.heap.size w W:=hW▸(Below.refl _ w).alloc (Nat.le_refl _) _
 obtain ⟨E,hE⟩:=ring_world W
 rw [←hW]at k
 obtain ⟨w1,hw1⟩:∃ w1,w1=((W.alloc (.cells (cellsE (zeroE 0)).toArray 162)).setCell ⟨W.heap.size,515,none⟩ (.pointer (some ⟨W.heap.size,0,none⟩))).setCell ⟨W.heap.size,516,none⟩ (.pointer (some ⟨W.heap.size,0,none⟩)):=⟨_,rfl⟩
 rw [←hw1]at hE k
 have hb1:Below W.heap.size W w1:=by
  rw [hw1]
  exact (((Below.refl _ W).alloc (Nat.le_refl _) _).setCell (p:=⟨W.heap.size,515,none⟩) (Nat.le_refl _) _).setCell (p:=⟨W.heap.size,516,none⟩) (Nat.le_refl _) _
 have hs1:w1.heap.size=W.heap.size+1:=by rw [hw1];simp
 clear hw1
 rw [hW]at k
 refine (new_raw r w h1 h2 w1 _ k).mono ?_
 rintro e w' ⟨rfl,rfl⟩
 rw [←hW]
 have hb2:Below w1.heap.size w1 (w1.alloc (.cells (hdC w.heap.size W.heap.size r 0 0).toArray 130)):=(Below.refl _ w1).alloc (Nat.le_refl _) _
 refine ⟨w1.heap.size,rfl,⟨w.heap.size,W.heap.size,[],E⟩,CP.mk' (heap_alloc_new w1 _) ?_ (hE.stay (fun b hb=>hb2.block b (hE.en b hb).lt)) rfl List.nodup_nil (fun r hr=>by cases hr) ⟨h1,h2⟩,rfl,?_,gt (gt hWb hb1) hb2⟩
 ·exact (hWm.stay (hb1.block _ hWm.lt)).stay (hb2.block _ (by rw [hs1];have:=hWm.lt;omega))
 ·rintro k (rfl |rfl |hk)
  ·omega
  ·exact Nat.le_refl _
  ·simp at hk;subst hk;show _≤W.heap.size;omega
end Cch
namespace Cch
open Go.RowKit Go.Maps
structure TwoKept (B:Nat) (W W':World):Prop where
 d:W'.heap[B]? = W.heap[B]?
 l:W'.heap[B+1]? = W.heap[B+1]?
def RPost(B:Nat)(I:World→Prop)(X:Code→World→Prop)(W:World):Exit→Act→World→Prop
 | .normal,_,W'=>TwoKept B W W'∧I W'
 | .ret,_,W'=>TwoKept B W W'∧X .ret W'
 | .exit id,_,W'=>TwoKept B W W'∧X (.exit id) W'
 | .goto t,_,W'=>TwoKept B W W'∧X (.goto t) W'
 | _,_,_=>False
def Mark(B:Nat)(W:World):Prop:=W.heap[B]? = some (.deferred (some []))
def Rec(B:Nat)(W:World):Prop:=∃ r,W.heap[B+1]? = some (.loop r)
theorem put_other{W:World}{l j:Nat}{o:Obj}(h:j≠l):(W.putObj l o).heap[j]? = W.heap[j]?:=World.putObj_heap_other h
section
variable {n:Nat} {P:Program} {g:Operand} {ps:Array Tmp} {assign body:Code} {Q:Exit→Act→World→Prop} {a:Act} {w:World}
theorem range_nat{gf:Nat}{lb:Array Value}(hg:a.eval g=.func (.func gf) #[] lb)(eg:∀ args w,(callFunc gf args).run P w=.ok (.enter gf args) w)
  (N:Nat) (xs:Nat→Value) (hps:ps.size=1) (I:Nat→World→Prop) (X:Code→World→Prop)
  (hI:∀ k W l o o',w.heap.size≤l→l≤w.heap.size+1→W.heap[l]? = some o→o.isCells=false→I k W→I k (W.putObj l o'))
  (hX:∀ c W l o o',w.heap.size≤l→l≤w.heap.size+1→W.heap[l]? = some o→o.isCells=false→X c W→X c (W.putObj l o'))
  (h0:∀ W,Below w.heap.size w W→w.heap.size+2≤W.heap.size→I 0 W)
  (hseq:∀ (l:Nat) (J:Nat→World→Prop) (Jx:World→Prop) (W:World),(∀ k W,J k W→I k W) →
   (∀ k W,k<N→J k W→YieldAt Fence.wide (n - 1 - 1) P l #[xs k] W fun e W'=>(e=.returned (.bool true)∧J (k+1) W')∨(e=.returned (.bool false)∧Jx W'))→J 0 W →
   CallsIn Fence.wide (n - 1) P gf (#[.func (.yield l) #[] #[]]++lb) W fun e W'=>(∃ v,e=.returned v)∧(J N W'∨Jx W'))
  (a₁:Nat→Act)
  (hassign:∀ (l k:Nat) (W:World) (K:Act→World→Prop),K (a₁ k) W →
   assign.wpIn (Fence.wide.inRound l) (n - 1 - 1) P (Exit.then K (fun _ _ _=>False)) { tmps:=(ps.zip #[xs k]).foldl (fun t (p,v)=>t.setIfInBounds p v) a.tmps,defers:=[] } W)
  (hbody:∀ (l k:Nat) (W:World),k<N→I k W→Mark w.heap.size W→Rec w.heap.size W→body.wpIn (Fence.wide.inRound l) (n - 1 - 1) P (RPost w.heap.size (I (k+1)) X W) (a₁ k) W)
  (hdone:∀ W,I N W→Mark w.heap.size W→Q .normal { a with defers:={ target:=.collected w.heap.size,args:=#[] }::a.defers } W)
  (hstop:∀ c W,X c W→Mark w.heap.size W→c.wpIn Fence.wide n P Q { a with defers:={ target:=.collected w.heap.size,args:=#[] }::a.defers } W) :
  (Code.rangeFunc g ps assign body).wpIn Fence.wide n P Q a w:=by
 refine wpIn_rangeFunc fun fn hfn=>?_
 rw [show Fence.wide.round=none from rfl]
 obtain ⟨rc,hrc⟩:∃ rc:LoopState→Option Code→Loop,∀ st pe,rc st pe = { state:=st,pending:=pe,fn:=fn,tmps:=a.tmps,params:=ps,assign:=assign,body:=body,defers:=w.heap.size }:=⟨_,fun _ _=>rfl⟩
 have hst:∀ st pe,(rc st pe).state=st:=fun st pe=>by rw [hrc]
 have hpe:∀ st pe,(rc st pe).pending=pe:=fun st pe=>by rw [hrc]
 have hpa:∀ st pe,(rc st pe).params=ps:=fun st pe=>by rw [hrc]
 have hbusy:∀ st pe st',({ rc st pe with state:=st' }:Loop)=rc st' pe:=fun st pe st'=>by rw [hrc,hrc]
 have hboth:∀ st pe st' pe',({ rc st pe with state:=st',pending:=pe' }:Loop)=rc st' pe':=fun st pe st' pe'=>by rw [hrc,hrc]
 have hyield:∀ (W:World) (k:Nat),W.heap[w.heap.size+1]? = some (.loop (rc .ready none))→(Instr.yield (w.heap.size+1) #[xs k]).run P W=.ok (.round (w.heap.size+1) fn ((ps.zip #[xs k]).foldl (fun t (p,v)=>t.setIfInBounds p v) a.tmps) assign body) W:=fun W k h=>by
  have:=run_yield (P:=P) (args:=#[xs k]) h (by rw [hpa];simp [hps])
  rw [hrc]at this;exact this
 obtain ⟨W1,hW1⟩:∃ W1,W1=(w.alloc (.deferred (some []))).alloc (.loop (rc .ready none)):=⟨_,rfl⟩
 have hrec1:W1.heap[w.heap.size+1]? = some (.loop (rc .ready none)):=by
  have:=World.alloc_heap_new (w.alloc (.deferred (some []))) (.loop (rc .ready none))
  rw [World.size_alloc]at this;rw [hW1];exact this
 have hmark1:Mark w.heap.size W1:=by
  show W1.heap[w.heap.size]? = _
  rw [hW1];exact (Below.heap_alloc _ _ _ (by simp)).trans (World.alloc_heap_new w _)
 have hI1:I 0 W1:=h0 W1 (by rw [hW1];exact ((Below.refl _ w).alloc (Nat.le_refl _) _).alloc (by simp) _) (by rw [hW1];simp)
 have hcall:=hseq (w.heap.size+1) (fun k W=>I k W∧W.heap[w.heap.size+1]? = some (.loop (rc .ready none))∧Mark w.heap.size W)
  (fun W=>∃ c,X c W∧W.heap[w.heap.size+1]? = some (.loop (rc .done (some c)))∧Mark w.heap.size W) W1 (fun k W h=>h.1) ?_ ⟨hI1,hrec1,hmark1⟩
 ·refine ⟨w.heap.size+1,[{ target:=.collected w.heap.size,args:=#[] }],W1,{ target:=.fn (.func gf) lb,args:=#[.func (.yield (w.heap.size+1)) #[] #[]] },W1,gf,
   #[.func (.yield (w.heap.size+1)) #[] #[]]++lb,W1,by rw [hW1,hrc];exact run_enterLoop_outer _ _ _ _ _,?_,?_,?_,?_,?_⟩
  ·simp only [resolve,hg];simp [go_sem]
  ·exact fun _ _=>trivial
  ·simp [invoke,go_sem,eg]
  ·intro h;cases h
  ·refine hcall.mono ?_
   rintro e W2 ⟨⟨v,rfl⟩,⟨hi,hl,hm⟩ | ⟨c,hx,hl,hm⟩⟩
   ·refine ⟨none,_,by have:=run_endLoop (P:=P) hl (by rw [hst];simp);rw [hpe]at this;exact this,hdone _ (hI _ _ _ _ _ (by omega) (Nat.le_refl _) hl rfl hi) ((put_other (by omega)).trans hm)⟩
   ·exact ⟨some c,_,by have:=run_endLoop (P:=P) hl (by rw [hst];simp);rw [hpe]at this;exact this,hstop _ _ (hX _ _ _ _ _ (by omega) (Nat.le_refl _) hl rfl hx) ((put_other (by omega)).trans hm)⟩
 ·rintro k W hk ⟨hi,hl,hm⟩
  have hlt:w.heap.size+1<W.heap.size:=(Array.getElem?_eq_some_iff.1 hl).1
  refine ⟨fn,_,assign,body,hyield W k hl,roundIn_of_wpIn hfn (hassign _ k W _ ⟨_,run_beginRound hl (hst _ _),?_⟩)⟩
  rw [hbusy]
  have hl2:=World.putObj_heap_same (w:=W) (h:=hlt) (o:=.loop (rc .busy none))
  obtain ⟨V,hV⟩:∃ V,V=W.putObj (w.heap.size+1) (.loop (rc .busy none)):=⟨_,rfl⟩
  rw [←hV]at hl2 ⊢
  have hiV:I k V:=hV▸hI _ _ _ _ _ (by omega) (Nat.le_refl _) hl rfl hi
  have hmV:Mark w.heap.size V:=by show V.heap[w.heap.size]? = _;rw [hV];exact (put_other (by omega)).trans hm
  refine wpIn_mono (hbody _ k V hk hiV hmV ⟨_,hl2⟩) ?_
  have key:∀ (jump:Option Code) (V':World),TwoKept w.heap.size V V'→V'.heap[w.heap.size+1]? = some (.loop (rc .busy none))∧Mark w.heap.size V':=fun jump V' hk2=>⟨hk2.l.trans hl2,hk2.d.trans hmV⟩
  have hsame:∀ {V':World} {o o':Obj},V'.heap[w.heap.size+1]? = some o→(V'.putObj (w.heap.size+1) o').heap[w.heap.size+1]? = some o':=fun h=>World.putObj_heap_same (Array.getElem?_eq_some_iff.1 h).1
  intro e a3 V' hp
  cases e with
  | normal=>
   obtain ⟨h1,h2⟩:=key none V' hp.1
   exact ⟨_,_,by have:=run_endRound (P:=P) none h1;rw [hboth]at this;exact this,Or.inl ⟨rfl,hI _ _ _ _ _ (by omega) (Nat.le_refl _) h1 rfl hp.2,hsame h1,(put_other (by omega)).trans h2⟩⟩
  | ret=>
   obtain ⟨h1,h2⟩:=key none V' hp.1
   exact ⟨_,_,by have:=run_endRound (P:=P) (some .ret) h1;rw [hboth]at this;exact this,Or.inr ⟨rfl,_,hX _ _ _ _ _ (by omega) (Nat.le_refl _) h1 rfl hp.2,hsame h1,(put_other (by omega)).trans h2⟩⟩
  | exit id=>
   obtain ⟨h1,h2⟩:=key none V' hp.1
   exact ⟨_,_,by have:=run_endRound (P:=P) (some (.exit id)) h1;rw [hboth]at this;exact this,Or.inr ⟨rfl,_,hX _ _ _ _ _ (by omega) (Nat.le_refl _) h1 rfl hp.2,hsame h1,(put_other (by omega)).trans h2⟩⟩
  | goto t=>
   obtain ⟨h1,h2⟩:=key none V' hp.1
   exact ⟨_,_,by have:=run_endRound (P:=P) (some (.goto t)) h1;rw [hboth]at this;exact this,Or.inr ⟨rfl,_,hX _ _ _ _ _ (by omega) (Nat.le_refl _) h1 rfl hp.2,hsame h1,(put_other (by omega)).trans h2⟩⟩
  | panic ch=>exact hp.elim
  | outgrown=>exact hp.elim
end
end Cch
namespace Cch
open Go.RowKit Go.Maps
def nx(ks:List Nat)(h k:Nat):Nat:=ks.getD k h
theorem nx_end(ks:List Nat)(h:Nat):nx ks h ks.length=h:=by simp [nx]
variable {h:Nat} {ks:List Nat}
theorem nx_in{k:Nat}(hk:k<ks.length):nx ks h k∈ks:=by simp [nx,List.getElem?_eq_getElem hk]
open Classical in
noncomputable def leftOf (ks:List Nat) (h:Nat) (v:Value):Nat:=
 if e:∃ k,k≤ks.length∧v=.pointer (some ⟨nx ks h k,0,none⟩) then ks.length - Classical.choose e else 0
theorem nx_inj(nd:(h::ks).Nodup){i j:Nat}(hi:i≤ks.length)(hj:j≤ks.length)(e:nx ks h i=nx ks h j):i=j:=by
 have n2:=List.nodup_cons.1 nd
 rcases Nat.lt_or_ge i ks.length with h1 |h1
 ·rcases Nat.lt_or_ge j ks.length with h2 |h2
  ·simp only [nx,List.getD,List.getElem?_eq_getElem h1,List.getElem?_eq_getElem h2,Option.getD_some]at e
   exact (List.getElem_inj n2.2).1 e
  ·obtain rfl:j=ks.length:=by omega
   rw [nx_end]at e
   exact absurd (e▸nx_in h1) n2.1
 ·obtain rfl:i=ks.length:=by omega
  rcases Nat.lt_or_ge j ks.length with h2 |h2
  ·rw [nx_end]at e
   exact absurd (e.symm▸nx_in h2) n2.1
  ·omega
theorem leftOf_eq(nd:(h::ks).Nodup){k:Nat}(hk:k≤ks.length):leftOf ks h (.pointer (some ⟨nx ks h k,0,none⟩))=ks.length - k:=by
 have hex:∃ j,j≤ks.length∧Value.pointer (some ⟨nx ks h k,0,none⟩)=.pointer (some ⟨nx ks h j,0,none⟩):=⟨k,hk,rfl⟩
 unfold leftOf
 rw [dif_pos hex]
 obtain ⟨j,hj⟩:∃ j,j=Classical.choose hex:=⟨_,rfl⟩
 have hs:=Classical.choose_spec hex
 rw [←hj]at hs ⊢
 have e1:nx ks h k=nx ks h j:=by
  have:=hs.2
  simp only [Value.pointer.injEq,Option.some.injEq,Addr.mk.injEq,and_true]at this
  exact this
 rw [nx_inj nd hk hs.1 e1]
theorem info69:(Tryz.prog.info? 162).map (fun i=>i.size)=some 517:=by kernel_rfl
theorem Tryz.u50:Tryz.prog.underlying 127=some (.pointer 162):=by kernel_rfl
theorem ptr_ne{W:World}{a b:Nat}{x y:Ent}(ha:EntAt W a x)(hb:EntAt W b y)(hne:a≠b) :
  (binOp .neq 127 (.pointer (some ⟨a,0,none⟩)) (.pointer (some ⟨b,0,none⟩))).run Tryz.prog W=.ok (.bool true) W:=by
 have h1:=run_sameAddr_other (P:=Tryz.prog) W (a:=⟨a,0,none⟩) (b:=⟨b,0,none⟩) (by intro e;cases e;exact hne rfl) ha.blk hb.blk
 obtain ⟨i,hi,hs⟩:∃ i,Tryz.prog.info? 162=some i∧i.size=517:=by
  have:=info69
  cases h:Tryz.prog.info? 162 with
  | none=>rw [h]at this;cases this
  | some i=>rw [h]at this;exact ⟨i,rfl,by simpa using this⟩
 have h2:∀ d:Nat,(Op.equalIn (d+1) 127 (.pointer (some ⟨a,0,none⟩)) (.pointer (some ⟨b,0,none⟩))).run Tryz.prog W=.ok false W:=fun d=>by
  simp [Op.equalIn,run_underlying Tryz.u50,sizeOf,typeInfo,hi,hs,h1]
 simp only [binOp]
 simp [Op.equal,Op.maxDepth,h2 9999]
theorem ptr_eq(W:World)(a:Nat) :
  (binOp .neq 127 (.pointer (some ⟨a,0,none⟩)) (.pointer (some ⟨a,0,none⟩))).run Tryz.prog W=.ok (.bool false) W:=by
 obtain ⟨i,hi,_⟩:∃ i,Tryz.prog.info? 162=some i∧i.size=517:=by
  have:=info69
  cases h:Tryz.prog.info? 162 with
  | none=>rw [h]at this;cases this
  | some i=>rw [h]at this;exact ⟨i,rfl,by simpa using this⟩
 have h2:∀ d:Nat,(Op.equalIn (d+1) 127 (.pointer (some ⟨a,0,none⟩)) (.pointer (some ⟨a,0,none⟩))).run Tryz.prog W=.ok true W:=fun d=>by
  simp [Op.equalIn,run_underlying Tryz.u50,sizeOf,typeInfo,hi,run_sameAddr_same]
 simp only [binOp]
 simp [Op.equal,Op.maxDepth,h2 9999]
structure OnRow (Bn c h:Nat) (ks:List Nat) (k:Nat) (W:World):Prop where
 box:W.cell? ⟨Bn,0,none⟩=some (.pointer (some ⟨c,0,none⟩))
 hd:W.cell? ⟨c,2,none⟩=some (.pointer (some ⟨h,0,none⟩))
 he:∃ e,EntAt W h e
 ne:k<ks.length→∃ e,EntAt W (nx ks h k) e
 first:k=0→W.cell? ⟨h,516,none⟩=some (.pointer (some ⟨nx ks h 0,0,none⟩))
 next:k<ks.length→W.cell? ⟨nx ks h k,516,none⟩=some (.pointer (some ⟨nx ks h (k+1),0,none⟩))
attribute [local go_sem] Oper.semAt_some
theorem row1_in(m Bn c h l:Nat)(ks:List Nat)(nd:(h::ks).Nodup)(J:Nat→World→Prop)(Jx:World→Prop)(hJ:∀ k W,J k W→OnRow Bn c h ks k W)
  (hY:∀ k W,k<ks.length→J k W→YieldAt Fence.wide (m - 1) Tryz.prog l #[.pointer (some ⟨nx ks h k,0,none⟩)] W fun e W'=>(e=.returned (.bool true)∧J (k+1) W')∨(e=.returned (.bool false)∧Jx W'))
  (W:World) (h0:J 0 W) :
  CallsIn Fence.wide m Tryz.prog 189 #[.func (.yield l) #[] #[],.pointer (some ⟨Bn,0,none⟩)] W fun e W'=>(∃ v,e=.returned v)∧(J ks.length W'∨Jx W'):=by
 have q0:=hJ 0 W h0
 have b0:=q0.box;have d0:=q0.hd;have a0:=q0.first rfl
 have H0:=hid h0;have HJ:=hid hJ;have HY:=hid hY
 clear q0 h0 hJ hY
 refine callsIn_of_wp Tryz.func189 rfl trivial ?_ rfl
 simp only [Tryz.ntmps189,List.size_toArray,List.length_cons,List.length_nil,Nat.reduceAdd,Nat.reduceSub,Array.replicate_succ,Array.replicate_zero,List.push_toArray,List.append_toArray,List.nil_append,List.cons_append]
 gi_wp2
 gi_loopw [3] (fun p wr=>∃ k,k≤ks.length∧p=.pointer (some ⟨nx ks h k,0,none⟩)∧J k wr) (fun p _=>leftOf ks h p)
 case atStart=>
  exact ⟨0,Nat.zero_le _,rfl,H0.out⟩
 case round=>
  obtain ⟨k,hk,rfl,hj⟩:=hrel
  have q:=HJ.out k wr hj
  have b1:=q.box;have d1:=q.hd
  rcases Nat.lt_or_ge k ks.length with hlt |hge
  ·have a1:=q.next hlt
   have hne:¬nx ks h k=h:=fun e0=>(List.nodup_cons.1 nd).1 (e0▸nx_in hlt)
   obtain ⟨fn,tmps,assign,body,hy,hR⟩:=HY.out k wr hlt hj
   have HJ':=hid hj
   replace hR:=hid hR
   obtain ⟨e1,he1⟩:=q.ne hlt
   obtain ⟨e2,he2⟩:=q.he
   have hpn:=ptr_ne he1 he2 hne
   clear q hj he1 he2
   gi_wp2
   refine ⟨fun h=>(by cases h),hR.out.mono ?_⟩
   rintro e W3 (⟨rfl,hJ3⟩ | ⟨rfl,hJx3⟩)
   ·replace hJ3:=hid hJ3
    gi_wp2
    go_roundw
    case rel=>exact ⟨k+1,by omega,rfl,hJ3.out⟩
    case measure=>rw [leftOf_eq nd hk,leftOf_eq nd (show k+1≤ks.length by omega)];omega
   ·replace hJx3:=hid hJx3
    gi_wp2
    refine bodyPost_ret (results_none rfl _ _ _) rfl ?_
    exact ⟨⟨_,rfl⟩,.inr hJx3.out⟩
  ·obtain rfl:k=ks.length:=by omega
   have hpn:=ptr_eq wr h
   have HJ':=hid hj
   clear q hj
   rw [nx_end]
   gi_wp2
   go_end0
   exact ⟨⟨_,rfl⟩,.inl HJ'.out⟩
end Cch
namespace Cch
open Go.RowKit Go.Maps
theorem row_any(c:Nat)(w:World):Calls Tryz.prog 168 #[.pointer (some ⟨c,0,none⟩)] w fun e w'=>e=.returned (.func (.func 189) #[] #[.pointer (some ⟨w.heap.size,0,none⟩)])∧w'=w.alloc (.cells #[.pointer (some ⟨c,0,none⟩)] 75):=by
 go_enter Tryz.func168,Tryz.ntmps168
 go_wp2
 go_ret
 exact ⟨rfl,rfl⟩
variable {ks:List Nat} {h:Nat} {w:World}
theorem RingAt.first{E:Nat→Ent}(H:RingAt w h ks E):(E h).aft=some (nx ks h 0):=by
 have:=H.ch
 cases ks with
 | nil=>exact this.1
 | cons x ks=>exact this.1
theorem chain_next{E:Nat→Ent}:∀ {ks:List Nat} {a:Nat},Chain E (a::ks++[h])→∀ k,k<ks.length→(E (nx ks h k)).aft=some (nx ks h (k+1))
 | [],_,_,k,hk=>by simp at hk
 | [x],a,hc,k,hk=>by
  obtain rfl:k=0:=by simpa using hk
  exact hc.2.2.1
 | x::y::ks,a,hc,k,hk=>by
  cases k with
  | zero=>exact hc.2.2.1
  | succ k=>exact chain_next (ks:=y::ks) (a:=x) hc.2.2 k (by simpa using hk)
theorem RingAt.next{E:Nat→Ent}(H:RingAt w h ks E){k:Nat}(hk:k<ks.length):(E (nx ks h k)).aft=some (nx ks h (k+1)):=chain_next H.ch k hk
def ints(l:List Int):List Value:=l.map (fun x=>Value.int .i64 x)
theorem info3:(Tryz.prog.info? 3).map (fun i=>(i.zero,i.size,i.bytes))=some (some (.int .i64 0),1,8):=by kernel_rfl
def told(p:Row→Bool)(l:List Row):List Int:=(l.filter p).map Row.page
attribute [local go_sem] Oper.semAt_some
end Cch
end Go.Proofs.YtgjgkpnjchflaaaGreatDoor
