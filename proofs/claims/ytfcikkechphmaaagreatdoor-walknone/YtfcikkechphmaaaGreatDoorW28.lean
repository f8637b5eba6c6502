/- Put; no statement of the seat is proved here. -/
import Derived.Test.YtfcikkechphmaaaGreatDoorW27
set_option maxHeartbeats 16000000
set_option maxRecDepth 20000
namespace Go.Proofs.YtfcikkechphmaaaGreatDoor
namespace Cch
open Go.RowKit Go.Maps
def CS.rowFor(s:CS)(k:Int):Row:=match s.find k with |none=>zeroR k |some r=>r
def CS.putL(s:CS)(k:Int)(b:List Nat):List Row:=s.others k++[{ s.rowFor k with bytes:=b }]
def CS.put(s:CS)(k:Int)(b:List Nat):CS:={ s with l:=shedL (p52 k) ((s.putL k b).length - s.room) (s.putL k b) }
theorem nx_last{zs:List Nat}{e h:Nat}:nx (zs++[e]) h zs.length=e:=by simp [nx]
theorem put_tail(c e eb sb so cap:Nat)(C:Parts)(s:CS)(zs:List Nat)(b:List Nat)(w:World)(h:CP w c C s)(hks:C.ks=zs++[e])(hbox:Boxed w eb 239 (.pointer (some ⟨e,0,none⟩)))(heb:¬C.S c eb)
  (hr:Rd w (some ⟨sb,so,none⟩) 512 cap b) (hlen:C.ks.length≤1000000) :
  ∃ w3,(∀ ty,(Builtin.copy_ #[48,48] ty #[.slice (some ⟨e,1,none⟩) 512 512,.slice (some ⟨sb,so,none⟩) 512 cap]).run Tryz.prog w=.ok (.int .i64 512) w3)∧w3.cell? ⟨c,1,none⟩=some (.map (some C.m))∧w3.cell? ⟨c,0,none⟩=some (.int .i64 (s.room:Int)) ∧
   (∀ ty,(Builtin.len_ #[238] ty #[.map (some C.m)]).run Tryz.prog w3.drew=.ok (.int .i64 (C.ks.length:Int)) w3.drew) ∧
   Calls Tryz.prog 289 #[.pointer (some ⟨c,0,none⟩),.int .i64 ((C.ks.length:Int) - (s.room:Int)),.func (.func 290) #[] #[.pointer (some ⟨eb,0,none⟩)]] w3.drew fun r w'=>(∃ g,r=.returned (.int .i64 g)) ∧
    ∃ C',Step w w' c C C' { s with l:=shedL (p52 (C.E e).row.page) (C.ks.length - s.room) (rowsOf zs C.E++[{ (C.E e).row with bytes:=b }]) }:=by
 have hem:e∈C.ks:=by rw [hks];simp
 have hen:=h.rg.en e (List.mem_cons_of_mem _ hem)
 have hbl:b.length=512:=hr.1
 have hec:e≠c:=fun h0=>h.nc (h0▸List.mem_cons_of_mem _ hem)
 have hebe:eb≠e:=fun h0=>heb (Or.inr (Or.inr (h0▸List.mem_cons_of_mem _ hem)))
 obtain ⟨hx,hoth⟩:=hen.copy hbl
 obtain ⟨w3,hw3⟩:∃ w3,w3=w.setRow e ((cellsE (C.E e)).take 1++(bs b++(cellsE (C.E e)).drop (1+(bs b).length))).toArray:=⟨_,rfl⟩
 have hrun:∀ ty,(Builtin.copy_ #[48,48] ty #[.slice (some ⟨e,1,none⟩) 512 512,.slice (some ⟨sb,so,none⟩) 512 cap]).run Tryz.prog w=.ok (.int .i64 512) w3:=fun ty=>by
  have q:=run_copy_row (P:=Tryz.prog) w 48 48 ty 5 e 1 512 512 ⟨sb,so,none⟩ 512 cap (cellsE (C.E e)).toArray 304 (bs b) Tryz.underlying48 (by kernel_rfl) hen.blk (by rw [bs_length,hbl];rfl)
   (fun j v hv=>by
    obtain ⟨hj,rfl⟩:=bs_get' b j v hv
    obtain ⟨b',off,e1,hc⟩:=hr.2.2.2 (by omega)
    simp only [Option.some.injEq,Addr.mk.injEq,and_true]at e1
    obtain ⟨rfl,rfl⟩:=e1
    rw [Addr.add_lit]
    exact hc j (by omega)) (by rw [bs_length,hbl];simp [cellsE_length hen.len]) (bs_one b)
  rw [q,hw3,bs_length,hbl]
  rfl
 rw [←hw3]at hx hoth
 have hsz:w3.heap.size=w.heap.size:=by rw [hw3];simp
 have hos:w3.os=w.os∧w3.tape=w.tape∧w3.output=w.output:=by rw [hw3];exact ⟨rfl,rfl,rfl⟩
 have h3:=h.turn hem hx rfl rfl rfl (fun k _ _ hk=>hoth k hk)
 have e1:rowsOf C.ks (upd C.E e ((C.E e).wBytes b))=rowsOf zs C.E++[{ (C.E e).row with bytes:=b }]:=by
  rw [hks,rows_append]
  congr 1
  ·refine rowsOf_congr (fun x hxz=>?_)
   have:x≠e:=by
    rintro rfl
    have:=(List.nodup_cons.1 h.rg.nd).2
    rw [hks]at this
    exact nodup_last this hxz
   rw [upd_other _ _ this]
  ·simp [rowsOf,upd_same];rfl
 rw [e1]at h3
 have hf3:Fr (C.S c) w w3.drew:=⟨hos.1,hos.2.1,hos.2.2,by show w.heap.size≤w3.heap.size;omega,fun k _ hk=>hoth k (fun h0=>hk (Or.inr (Or.inr (h0▸List.mem_cons_of_mem _ hem))))⟩
 have h4:CP w3.drew c { C with E:=upd C.E e ((C.E e).wBytes b) } { s with l:=rowsOf zs C.E++[{ (C.E e).row with bytes:=b }] }:=h3.stay (fun _ _ _=>rfl)
 refine ⟨w3,hrun,h3.c1,h3.c0,fun ty=>h4.mp.len ty,?_⟩
 rcases Nat.lt_or_ge s.room C.ks.length with hlt |hge
 ·rw [show (C.ks.length:Int) - (s.room:Int)=((C.ks.length - s.room:Nat):Int) by omega]
  refine (shed52 c (C.ks.length - s.room) eb _ _ (p52 (C.E e).row.page) w3.drew h4 hlen (by omega) (by omega) (fun W k hk hfr he=>?_)).mono ?_
  ·have hbW:Boxed W eb 239 (.pointer (some ⟨e,0,none⟩)):=(hfr.blk eb (by show eb<w3.heap.size;rw [hsz];exact hbox.lt) heb).trans ((hoth eb hebe).trans hbox)
   obtain ⟨y,hy1,hy2⟩:=he k (Nat.le_refl _) hk
   have hN:C.ks.length=zs.length+1:=by rw [hks];simp
   obtain ⟨z,hz1,hz2⟩:=he zs.length (by show k≤zs.length;have:k<C.ks.length:=hk;omega) (by show zs.length<C.ks.length;omega)
   have elast:nx C.ks C.h zs.length=e:=by rw [hks];exact nx_last
   rw [show nx ({ C with E:=upd C.E e ((C.E e).wBytes b) }:Parts).ks ({ C with E:=upd C.E e ((C.E e).wBytes b) }:Parts).h zs.length=e from elast]at hz1
   by_cases hke:nx C.ks C.h k=e
   ·have q:=which52_same e eb W hbW.cell
    have e2:p52 (C.E e).row.page (upd C.E e ((C.E e).wBytes b) (nx C.ks C.h k)).row=false:=by
     rw [hke,upd_same];simp [p52,Ent.wBytes]
    show Calls Tryz.prog 290 #[.pointer (some ⟨nx C.ks C.h k,0,none⟩),.pointer (some ⟨eb,0,none⟩)] W fun e_1 w'=>e_1=.returned (.bool (p52 (C.E e).row.page (upd C.E e ((C.E e).wBytes b) (nx C.ks C.h k)).row))∧w'=W
    rw [e2,hke];exact q
   ·have q:=which52_else (nx C.ks C.h k) e eb y z W hy1 hz1 hke hbW.cell
    have hy2':y.row=(C.E (nx C.ks C.h k)).row:=by rw [hy2];show (upd C.E e ((C.E e).wBytes b) (nx C.ks C.h k)).row=_;rw [upd_other _ _ hke]
    have hpg:(C.E (nx C.ks C.h k)).row.page≠(C.E e).row.page:=fun hp=>by
     have q1:=(lk_iff h.pn).2 ⟨nx_in hk,hp⟩
     have q2:=(lk_iff h.pn).2 ⟨hem,rfl⟩
     rw [q1]at q2
     exact hke (Option.some.inj q2)
    have e2:p52 (C.E e).row.page (upd C.E e ((C.E e).wBytes b) (nx C.ks C.h k)).row=(decide (y.row.pins=0)&&!y.row.dirty):=by
     rw [upd_other _ _ hke,hy2'];simp [p52,hpg]
    show Calls Tryz.prog 290 #[.pointer (some ⟨nx C.ks C.h k,0,none⟩),.pointer (some ⟨eb,0,none⟩)] W fun e_1 w'=>e_1=.returned (.bool (p52 (C.E e).row.page (upd C.E e ((C.E e).wBytes b) (nx C.ks C.h k)).row))∧w'=W
    rw [e2];exact q
  ·rintro r w' ⟨rfl,C',g1,g2,g3,g4,g5⟩
   exact ⟨⟨_,rfl⟩,C',step_of_shed g1 g2 g3 g4 (hf3.trans g5 (fun _ _ h=>h))⟩
 ·refine (shed_none c 290 _ _ w3.drew (by omega)).mono ?_
  rintro r w' ⟨rfl,hb⟩
  rw [show C.ks.length - s.room=0 by omega,shedL_zero]
  exact ⟨⟨_,rfl⟩,_,h4.later hb,hf3.trans (T:=fun _=>False) (Fr.of_below hb) (fun _ _ h=>h.elim),fun _ h=>Or.inl h⟩
theorem put_wrong(c n cap:Nat)(ao:Option Addr)(C:Parts)(s:CS)(k:Int)(w:World)(h:CP w c C s)(hx:k<1∨n≠512) :
  Calls Tryz.prog 233 #[.pointer (some ⟨c,0,none⟩),.int .i64 k,.slice ao n cap] w fun e w'=>e=.returned (.int .i64 2)∧w'=w:=by
 have k1:=hid (made_yes c s.room w h.c0 h.rm.1)
 clear h
 rcases Int.lt_or_le k 1 with h1 |h1
 ·clear hx
  go_enter Tryz.func233,Tryz.ntmps233
  go_wp2_with (go_at_call 286;refine k1.out.mono ?_;rintro e w1 ⟨rfl,h0⟩;obtain rfl:=h0.symm)
  go_ret
  exact ⟨rfl,rfl⟩
 ·have h2:¬n=512:=by omega
  have h3:¬k<1:=by omega
  have h4:¬(n:Int)=512:=by omega
  have h5:((n:Int) != 512)=true:=by simpa using h4
  clear hx
  go_enter Tryz.func233,Tryz.ntmps233
  go_wp2_with (go_at_call 286;refine k1.out.mono ?_;rintro e w1 ⟨rfl,h0⟩;obtain rfl:=h0.symm)
  go_ret
  exact ⟨rfl,rfl⟩
theorem put_old(c sb so cap e:Nat)(C:Parts)(s:CS)(k:Int)(b:List Nat)(w:World)(h:CP w c C s)(hk:(Lit.int .i64 k).wf=true)(h1:1≤k)(hr:Rd w (some ⟨sb,so,none⟩) 512 cap b)(hsb:¬C.S c sb)(hlen:C.ks.length≤1000000)(ho:lk C.ks C.E k=some e) :
  Calls Tryz.prog 233 #[.pointer (some ⟨c,0,none⟩),.int .i64 k,.slice (some ⟨sb,so,none⟩) 512 cap] w fun r w'=>r=.returned (.int .i64 0)∧∃ C',Step w w' c C C' (s.put k b):=by
 have k1:=hid (made_yes c s.room w h.c0 h.rm.1)
 have c1:=h.c1
 have hl:=h.mp.look hk
 rw [ho,show ptr (some e)=.pointer (some ⟨e,0,none⟩) from rfl]at hl
 obtain ⟨xs,ys,hks,hpe,_⟩:=h.idx ho
 have hbl:Below w.heap.size w (w.alloc (.cells #[.pointer (some ⟨e,0,none⟩)] 239)):=(Below.refl _ w).alloc (Nat.le_refl _) _
 have hbx:Boxed (w.alloc (.cells #[.pointer (some ⟨e,0,none⟩)] 239)) w.heap.size 239 (.pointer (some ⟨e,0,none⟩)):=Boxed.new w 239 _
 have k2:=hid (use_cp c e xs ys C s _ (h.later hbl) hks)
 have hput:Hid (s.put k b = { s with l:=shedL (p52 k) ((xs++ys++[e]).length - s.room) (rowsOf (xs++ys) C.E++[{ (C.E e).row with bytes:=b }]) }):=by
  refine hid ?_
  have e1:s.putL k b=rowsOf (xs++ys) C.E++[{ (C.E e).row with bytes:=b }]:=by
   unfold CS.putL CS.rowFor
   rw [others_of h ho hks,h.find_some ho]
  have e2:(rowsOf (xs++ys) C.E++[{ (C.E e).row with bytes:=b }]).length=(xs++ys++[e]).length:=by simp only [rowsOf,List.length_append,List.length_map,List.length_cons,List.length_nil]
  unfold CS.put
  rw [e1,e2]
 have tail:Hid (∀ (C2:Parts) (w2:World),CP w2 c C2 { s with l:=rowsOf (xs++ys++[e]) C.E }→C2.m=C.m→C2.h=C.h→C2.ks=xs++ys++[e]→(∀ b,(C2.E b).row=(C.E b).row)→Fr (C.S c) (w.alloc (.cells #[.pointer (some ⟨e,0,none⟩)] 239)) w2 →
   w2.cell? ⟨w.heap.size,0,none⟩=some (.pointer (some ⟨e,0,none⟩))∧∃ w3,(∀ ty,(Builtin.copy_ #[48,48] ty #[.slice (some ⟨e,1,none⟩) 512 512,.slice (some ⟨sb,so,none⟩) 512 cap]).run Tryz.prog w2=.ok (.int .i64 512) w3)∧w3.cell? ⟨c,1,none⟩=some (.map (some C2.m))∧w3.cell? ⟨c,0,none⟩=some (.int .i64 (s.room:Int)) ∧
   (∀ ty,(Builtin.len_ #[238] ty #[.map (some C2.m)]).run Tryz.prog w3.drew=.ok (.int .i64 (C2.ks.length:Int)) w3.drew)∧IntKind.i64.wrap ((C2.ks.length:Int) - (s.room:Int))=(C2.ks.length:Int) - (s.room:Int) ∧
   Hid (Calls Tryz.prog 289 #[.pointer (some ⟨c,0,none⟩),.int .i64 ((C2.ks.length:Int) - (s.room:Int)),.func (.func 290) #[] #[.pointer (some ⟨w.heap.size,0,none⟩)]] w3.drew fun r w'=>(∃ g,r=.returned (.int .i64 g))∧∃ C',Step w w' c C C' (s.put k b))):=by
  refine hid fun C2 w2 g1 g2 g3 g4 g5 g6=>?_
  have hnS:¬C.S c w.heap.size:=fun hs=>by have:=h.lt hs;omega
  have hS2:∀ j,C2.S c j→C.S c j:=fun j hj=>by
   rcases hj with rfl |rfl |hj
   ·exact Or.inl rfl
   ·exact Or.inr (Or.inl g2)
   ·refine Or.inr (Or.inr ?_)
    rw [g3,g4]at hj
    rw [hks]
    simp only [List.mem_cons,List.mem_append,List.not_mem_nil,or_false]at hj ⊢
    rcases hj with h |(h |h) |h<;>simp [h]
  have hbx2:Boxed w2 w.heap.size 239 (.pointer (some ⟨e,0,none⟩)):=(g6.blk _ (by simp) hnS).trans hbx
  have hr2:Rd w2 (some ⟨sb,so,none⟩) 512 cap b:=by
   have q:=hr.keep hbl
   refine ⟨q.1,q.2.1,q.2.2.1,fun hn=>?_⟩
   obtain ⟨b',off,e1,hc⟩:=q.2.2.2 hn
   refine ⟨b',off,e1,fun t ht=>?_⟩
   have hb':b'=sb:=by simp only [Option.some.injEq,Addr.mk.injEq]at e1;exact e1.1.symm
   exact (World.cell?_of_block (g6.blk b' (lt_cell (hc t ht)) (by rw [hb'];exact hsb))).trans (hc t ht)
  have hl2:C2.ks.length≤1000000:=by rw [g4];rw [hks]at hlen;simp at hlen ⊢;omega
  obtain ⟨w3,q1,q2,q3,q4,q5⟩:=put_tail c e w.heap.size sb so cap C2 _ (xs++ys) b w2 g1 g4 hbx2 (fun hs=>hnS (hS2 _ hs)) hr2 hl2
  have hrm:=h.rm.2
  refine ⟨hbx2.cell,w3,q1,q2,q3,q4,by rw [IntWalk.i64_in _ ⟨by omega,by omega⟩],hid (q5.mono ?_)⟩
  rintro r w' ⟨hg,C',st⟩
  refine ⟨hg,C',?_⟩
  rw [hput.out]
  have e2:rowsOf (xs++ys) C2.E=rowsOf (xs++ys) C.E:=rowsOf_congr (fun b _=>g5 b)
  have st2:=st.cp
  rw [e2,g5 e,hpe,g4]at st2
  have hf0:Fr (C.S c) w (w.alloc (.cells #[.pointer (some ⟨e,0,none⟩)] 239)):=Fr.of_below hbl
  refine ⟨st2,(hf0.trans g6 (fun _ _ h=>h)).trans st.fr (fun j _ hj=>hS2 j hj),fun j hj=>?_⟩
  rcases st.gr j hj with h1 |h1
  ·exact Or.inl (hS2 j h1)
  ·refine Or.inr ?_
   have:=g6.size
   simp at this
   omega
 clear h hbl hbx hks hpe hlen hr hsb hk ho
 have h3:¬k<1:=by omega
 go_enter Tryz.func233,Tryz.ntmps233
 go_wp2_with (first |(go_at_call 286;refine k1.out.mono ?_;rintro e w1 ⟨rfl,h0⟩;obtain rfl:=h0.symm) |(go_at_call 287;refine k2.out.mono ?_;rintro r w2 ⟨rfl,C2,g1,g2,g3,g4,g5,g6⟩;obtain ⟨d0,w3,hcp,d1,d2,hln,hwr,k3⟩:=tail.out C2 w2 g1 g2 g3 g4 g5 g6;clear g1 g2 g3 g4 g5 g6 tail))
 go_region_with (go_at_call 289;refine k3.out.mono ?_;rintro r w4 ⟨⟨g,rfl⟩,h4⟩;have H4:=hid h4;clear h4)
 all_goals go_wp2
 all_goals go_ret
 all_goals exact ⟨rfl,H4.out⟩
end Cch
end Go.Proofs.YtfcikkechphmaaaGreatDoor
