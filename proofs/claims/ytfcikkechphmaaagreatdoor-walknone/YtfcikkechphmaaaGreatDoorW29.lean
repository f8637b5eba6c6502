/- Put of a page that is not here; no statement of the seat is proved here. -/
import Derived.Test.YtfcikkechphmaaaGreatDoorW28
set_option maxHeartbeats 16000000
set_option maxRecDepth 20000
namespace Go.Proofs.YtfcikkechphmaaaGreatDoor
namespace Cch
open Go.RowKit Go.Maps
theorem put_new(c sb so cap:Nat)(C:Parts)(s:CS)(k:Int)(b:List Nat)(w:World)(h:CP w c C s)(hk:(Lit.int .i64 k).wf=true)(h1:1≤k)(hr:Rd w (some ⟨sb,so,none⟩) 512 cap b)(hsb:¬C.S c sb)(hlen:C.ks.length<1000000)(ho:lk C.ks C.E k=none) :
  Calls Tryz.prog 233 #[.pointer (some ⟨c,0,none⟩),.int .i64 k,.slice (some ⟨sb,so,none⟩) 512 cap] w fun r w'=>r=.returned (.int .i64 0)∧∃ C',Step w w' c C C' (s.put k b):=by
 have k1:=hid (made_yes c s.room w h.c0 h.rm.1)
 have c1:=h.c1
 have hl:=h.mp.look hk
 rw [ho,show ptr none=.pointer none from rfl]at hl
 obtain ⟨e,he⟩:∃ e,e=w.heap.size+1:=⟨_,rfl⟩
 obtain ⟨Z,hZ⟩:∃ Z,Z=(cellsE (zeroE k)).toArray:=⟨_,rfl⟩
 obtain ⟨W,hW⟩:∃ W,W=(w.alloc (.cells #[.pointer (some ⟨e,0,none⟩)] 239)).alloc (.cells Z 304):=⟨_,rfl⟩
 have hbl:Below w.heap.size w W:=by rw [hW];exact ((Below.refl _ w).alloc (Nat.le_refl _) _).alloc (by simp) _
 have hbx:Boxed W w.heap.size 239 (.pointer (some ⟨e,0,none⟩)):=by rw [hW];exact (Boxed.new w 239 _).alloc _
 have hen:EntAt W e (zeroE k):=by
  have q:=ent_new (w.alloc (.cells #[.pointer (some ⟨e,0,none⟩)] 239)) k
  rw [←hZ,←hW,World.size_alloc,←he]at q
  exact q
 have hWs:W.heap.size=w.heap.size+2:=by rw [hW];simp
 have hSlt:∀ j,C.S c j→j<w.heap.size:=fun j hj=>h.lt hj
 have k2:=hid (add_cp c e C s (zeroE k) W (h.later hbl) hen (fun hs=>by have:=hSlt _ hs;omega) ho hk h1 hlen)
 have hput:Hid (s.put k b = { s with l:=shedL (p52 k) ((C.ks++[e]).length - s.room) (rowsOf C.ks C.E++[{ zeroR k with bytes:=b }]) }):=by
  refine hid ?_
  have e1:s.putL k b=rowsOf C.ks C.E++[{ zeroR k with bytes:=b }]:=by
   unfold CS.putL CS.rowFor
   rw [others_none h ho,h.find_none ho,h.ls]
   rfl
  have e2:(rowsOf C.ks C.E++[{ zeroR k with bytes:=b }]).length=(C.ks++[e]).length:=by simp only [rowsOf,List.length_append,List.length_map,List.length_cons,List.length_nil]
  unfold CS.put
  rw [e1,e2]
 have tail:Hid (∀ (C2:Parts) (w2:World),CP w2 c C2 { s with l:=s.l++[(zeroE k).row] }→Came W c e C C2 (zeroE k).row w2 →
   w2.cell? ⟨w.heap.size,0,none⟩=some (.pointer (some ⟨e,0,none⟩))∧∃ w3,(∀ ty,(Builtin.copy_ #[48,48] ty #[.slice (some ⟨e,1,none⟩) 512 512,.slice (some ⟨sb,so,none⟩) 512 cap]).run Tryz.prog w2=.ok (.int .i64 512) w3)∧w3.cell? ⟨c,1,none⟩=some (.map (some C2.m))∧w3.cell? ⟨c,0,none⟩=some (.int .i64 (s.room:Int)) ∧
   (∀ ty,(Builtin.len_ #[238] ty #[.map (some C2.m)]).run Tryz.prog w3.drew=.ok (.int .i64 (C2.ks.length:Int)) w3.drew)∧IntKind.i64.wrap ((C2.ks.length:Int) - (s.room:Int))=(C2.ks.length:Int) - (s.room:Int) ∧
   Hid (Calls Tryz.prog 289 #[.pointer (some ⟨c,0,none⟩),.int .i64 ((C2.ks.length:Int) - (s.room:Int)),.func (.func 290) #[] #[.pointer (some ⟨w.heap.size,0,none⟩)]] w3.drew fun r w'=>(∃ g,r=.returned (.int .i64 g))∧∃ C',Step w w' c C C' (s.put k b))):=by
  refine hid fun C2 w2 g1 g=>?_
  have hnS:¬C.S c w.heap.size:=fun hs=>by have:=hSlt _ hs;omega
  have hS2:∀ j,C2.S c j→C.S c j∨j=e:=fun j hj=>by
   rcases hj with rfl |rfl |hj
   ·exact Or.inl (Or.inl rfl)
   ·exact Or.inl (Or.inr (Or.inl g.m))
   ·rw [g.h,g.ks]at hj
    simp only [List.mem_cons,List.mem_append,List.not_mem_nil,or_false]at hj
    rcases hj with h |h |h
    ·exact Or.inl (Or.inr (Or.inr (by simp [h])))
    ·exact Or.inl (Or.inr (Or.inr (by simp [h])))
    ·exact Or.inr h
  have hbx2:Boxed w2 w.heap.size 239 (.pointer (some ⟨e,0,none⟩)):=(g.fr.blk _ (by omega) (fun hs=>by rcases hs with h |h;exact hnS h;omega)).trans hbx
  have hr2:Rd w2 (some ⟨sb,so,none⟩) 512 cap b:=by
   have q0:=hr
   have q:=hr.keep hbl
   refine ⟨q.1,q.2.1,q.2.2.1,fun hn=>?_⟩
   obtain ⟨b',off,e1,hc⟩:=q.2.2.2 hn
   obtain ⟨b2,off2,e3,hc0⟩:=q0.2.2.2 hn
   refine ⟨b',off,e1,fun t ht=>?_⟩
   have hb':b'=sb:=by simp only [Option.some.injEq,Addr.mk.injEq]at e1;exact e1.1.symm
   have hb2:b2=sb:=by simp only [Option.some.injEq,Addr.mk.injEq]at e3;exact e3.1.symm
   have hlt:sb<w.heap.size:=by have:=lt_cell (hc0 t ht);rw [hb2]at this;exact this
   exact (World.cell?_of_block (g.fr.blk b' (lt_cell (hc t ht)) (by rw [hb'];rintro (h |h);exact hsb h;omega))).trans (hc t ht)
  have hl2:C2.ks.length≤1000000:=by rw [g.ks];simp;omega
  obtain ⟨w3,q1,q2,q3,q4,q5⟩:=put_tail c e w.heap.size sb so cap C2 _ C.ks b w2 g1 g.ks hbx2 (fun hs=>by rcases hS2 _ hs with h |h;exact hnS h;omega) hr2 hl2
  have hrm:=h.rm.2
  refine ⟨hbx2.cell,w3,q1,q2,q3,q4,by rw [IntWalk.i64_in _ ⟨by omega,by omega⟩],hid (q5.mono ?_)⟩
  rintro r w' ⟨hg,C',st⟩
  refine ⟨hg,C',?_⟩
  rw [hput.out]
  have hne:e∉C.ks:=fun hm=>by have:=hSlt e (Or.inr (Or.inr (List.mem_cons_of_mem _ hm)));omega
  have e2:rowsOf C.ks C2.E=rowsOf C.ks C.E:=rowsOf_congr (fun b hb=>g.rows b (fun h0=>hne (h0▸hb)))
  have st2:=st.cp
  rw [e2,g.row,g.ks]at st2
  have hf0:Fr (C.S c) w W:=Fr.of_below hbl
  have hf1:Fr (C.S c) w w2:=hf0.trans g.fr (fun j hj h=>by rcases h with h |h;exact h;omega)
  refine ⟨st2,hf1.trans st.fr (fun j hj hs=>by rcases hS2 j hs with h |h;exact h;omega),fun j hj=>?_⟩
  rcases st.gr j hj with h1 |h1
  ·rcases hS2 j h1 with h |h
   ·exact Or.inl h
   ·exact Or.inr (by omega)
  ·exact Or.inr (Nat.le_trans hf1.size h1)
 have hb9:=build69p k
 have hbx9:∀ W,(Instr.box 304 (.agg Z)).run Tryz.prog W=.ok (.pointer (some ⟨W.heap.size,0,none⟩)) (W.alloc (.cells Z 304)):=fun W=>box69 Z W
 rw [←hZ]at hb9
 have k4:Hid (Calls Tryz.prog 288 #[.pointer (some ⟨c,0,none⟩),.pointer (some ⟨w.heap.size+1,0,none⟩)] ((w.alloc (.cells #[.pointer (some ⟨w.heap.size+1,0,none⟩)] 239)).alloc (.cells Z 304)) fun r w'=>r=.returned (.tuple #[])∧∃ C',CP w' c C' { s with l:=s.l++[(zeroE k).row] }∧Came W c e C C' (zeroE k).row w'):=by
  have q:=k2.out
  rw [←he,←hW];exact hid q
 subst he
 have h3:¬k<1:=by omega
 clear h hbl hbx hen hWs hSlt hlen hr hsb hk ho hZ hW k2
 go_enter Tryz.func233,Tryz.ntmps233
 go_wp2_with (first |(go_at_call 286;refine k1.out.mono ?_;rintro e w1 ⟨rfl,h0⟩;obtain rfl:=h0.symm) |((with_reducible refine here_op 27 ?_);refine wpList_build1_run rfl 304 (.tmp 26) rfl _ _ rfl (hb9 _) ?_) |((with_reducible refine here_op 28 ?_);refine wpList_box_run rfl 304 (.tmp 27) rfl _ _ rfl _ (hbx9 _) ?_) |(go_at_call 288;refine k4.out.mono ?_;rintro r w2 ⟨rfl,C2,g1,g2⟩;obtain ⟨d0,w3,hcp,d1,d2,hln,hwr,k3⟩:=tail.out C2 w2 g1 g2;clear g1 g2 tail k4 hput))
 go_region_with (go_at_call 289;refine k3.out.mono ?_;rintro r w4 ⟨⟨g,rfl⟩,h4⟩;have H4:=hid h4;clear h4)
 all_goals go_wp2
 all_goals go_ret
 all_goals exact ⟨rfl,H4.out⟩
theorem put_call(c sb so cap:Nat)(C:Parts)(s:CS)(k:Int)(b:List Nat)(w:World)(h:CP w c C s)(hk:(Lit.int .i64 k).wf=true)(h1:1≤k)(hr:Rd w (some ⟨sb,so,none⟩) 512 cap b)(hsb:¬C.S c sb)(hlen:C.ks.length<1000000) :
  Calls Tryz.prog 233 #[.pointer (some ⟨c,0,none⟩),.int .i64 k,.slice (some ⟨sb,so,none⟩) 512 cap] w fun r w'=>r=.returned (.int .i64 0)∧∃ C',Step w w' c C C' (s.put k b):=by
 cases ho:lk C.ks C.E k with
 | none=>exact put_new c sb so cap C s k b w h hk h1 hr hsb hlen ho
 | some e=>exact put_old c sb so cap e C s k b w h hk h1 hr hsb (by omega) ho
end Cch
end Go.Proofs.YtfcikkechphmaaaGreatDoor
