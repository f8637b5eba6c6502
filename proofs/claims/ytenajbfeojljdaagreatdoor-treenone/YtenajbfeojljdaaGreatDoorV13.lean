/- Links of the row; no statement of the seat is proved here. -/
import Derived.Test.YtenajbfeojljdaaGreatDoorV12
set_option maxHeartbeats 16000000
set_option maxRecDepth 20000
namespace Go.Proofs.YtenajbfeojljdaaGreatDoor
namespace Cch
open Go.RowKit Go.Maps
structure Fr (S:Nat→Prop) (w w':World):Prop where
 os:w'.os=w.os
 tape:w'.tape=w.tape
 output:w'.output=w.output
 size:w.heap.size≤w'.heap.size
 blk:∀ k,k<w.heap.size→¬S k→w'.heap[k]? = w.heap[k]?
theorem Fr.refl(S:Nat→Prop)(w:World):Fr S w w:=⟨rfl,rfl,rfl,Nat.le_refl _,fun _ _ _=>rfl⟩
variable {w w':World} {S:Nat→Prop}
theorem Fr.of_below(h:Below w.heap.size w w'):Fr S w w':=⟨h.os,h.tape,h.output,h.size,fun k hk _=>h.block k hk⟩
variable {w1:World} {T:Nat→Prop}
theorem Fr.trans{w2:World}(h:Fr S w w1)(k:Fr T w1 w2)(hT:∀ j,j<w.heap.size→T j→S j):Fr S w w2:=
 ⟨k.os.trans h.os,k.tape.trans h.tape,k.output.trans h.output,Nat.le_trans h.size k.size,fun j hj hS=>(k.blk j (Nat.lt_of_lt_of_le hj h.size) (fun ht=>hS (hT j hj ht))).trans (h.blk j hj hS)⟩
theorem Fr.imp(h:Fr S w w')(hT:∀ j,j<w.heap.size→S j→T j):Fr T w w':=(Fr.refl T w).trans h hT
theorem Fr.drew(h:Fr S w w'):Fr S w w'.drew:=⟨h.os,h.tape,h.output,h.size,h.blk⟩
theorem Fr.set(h:Fr S w w'){k i:Nat}(hk:S k∨w.heap.size≤k)(v:Value):Fr S w (w'.setCell ⟨k,i,none⟩ v):=
 ⟨h.os,h.tape,h.output,by simpa using h.size,fun j hj hS=>(set_heap w' k i j v (by rintro rfl;rcases hk with h1 |h1;exact hS h1;omega)).trans (h.blk j hj hS)⟩
theorem Fr.turned(h:Fr S w w1){m:Nat}(ht:w1.mapTurned w' m)(hm:S m):Fr S w w':=by
 have g:=ht.grown
 exact ⟨g.os.trans h.os,g.tape.trans h.tape,g.output.trans h.output,Nat.le_trans h.size g.size,fun j hj hS=>(g.block j (Nat.lt_of_lt_of_le hj h.size) (by intro e;cases e;exact hS hm)).trans (h.blk j hj hS)⟩
theorem unlink_any(e p q:Nat)(u v:Value)(w:World)(cb:w.cell? ⟨e,515,none⟩=some (.pointer (some ⟨p,0,none⟩)))(ca:w.cell? ⟨e,516,none⟩=some (.pointer (some ⟨q,0,none⟩)))
  (cp:w.cell? ⟨p,516,none⟩=some u) (cq:w.cell? ⟨q,515,none⟩=some v) (fp:w.frozen? ⟨p,516,none⟩=false) (fq:w.frozen? ⟨q,515,none⟩=false) :
  Calls Tryz.prog 293 #[.pointer (some ⟨e,0,none⟩)] w fun r w'=>r=.returned (.tuple #[])∧w'=((w.setCell ⟨p,516,none⟩ (.pointer (some ⟨q,0,none⟩))).setCell ⟨q,515,none⟩ (.pointer (some ⟨p,0,none⟩))).drew:=by
 go_enter Tryz.func293,Tryz.ntmps293
 go_wp2
 go_region
 go_wp2
 go_end0
 exact ⟨rfl,rfl⟩
theorem link_any(c h z e:Nat)(u x y:Value)(w:World)(cc:w.cell? ⟨c,2,none⟩=some (.pointer (some ⟨h,0,none⟩)))(cb:w.cell? ⟨h,515,none⟩=some (.pointer (some ⟨z,0,none⟩)))
  (ce:w.cell? ⟨e,515,none⟩=some x) (cf:w.cell? ⟨e,516,none⟩=some y) (fe:w.frozen? ⟨e,515,none⟩=false) (ff:w.frozen? ⟨e,516,none⟩=false)
  (cp:w.cell? ⟨z,516,none⟩=some u) (fp:w.frozen? ⟨z,516,none⟩=false) (fq:w.frozen? ⟨h,515,none⟩=false) (hze:¬z=e) (hhe:¬h=e) :
  Calls Tryz.prog 294 #[.pointer (some ⟨c,0,none⟩),.pointer (some ⟨e,0,none⟩)] w fun r w'=>r=.returned (.tuple #[])∧w'=((((w.setCell ⟨e,515,none⟩ (.pointer (some ⟨z,0,none⟩))).setCell ⟨e,516,none⟩ (.pointer (some ⟨h,0,none⟩))).setCell ⟨z,516,none⟩ (.pointer (some ⟨e,0,none⟩))).setCell ⟨h,515,none⟩ (.pointer (some ⟨e,0,none⟩))).drew.drew:=by
 go_enter Tryz.func294,Tryz.ntmps294
 go_wp2
 go_region
 go_wp2
 go_region
 go_wp2
 go_end0
 exact ⟨rfl,rfl⟩
theorem EntAt.drew{b:Nat}{e:Ent}(h:EntAt w b e):EntAt w.drew b e:=⟨h.blk,h.len⟩
structure RingAt (w:World) (h:Nat) (ks:List Nat) (E:Nat→Ent):Prop where
 en:∀ b∈h::ks,EntAt w b (E b)
 ch:Chain E (h::ks++[h])
 nd:(h::ks).Nodup
theorem RingAt.stay{h:Nat}{ks:List Nat}{E:Nat→Ent}(H:RingAt w h ks E)(hb:∀ b∈h::ks,w'.heap[b]? = w.heap[b]?):RingAt w' h ks E:=
 ⟨fun b hb'=>(H.en b hb').stay (hb b hb'),H.ch,H.nd⟩
theorem ent_cut2{p q:Nat}{E:Nat→Ent}(hp:EntAt w p (E p))(hq:EntAt w q (E q)){b:Nat}(hb:EntAt w b (E b)) :
  EntAt (((w.setCell ⟨p,516,none⟩ (.pointer (some ⟨q,0,none⟩))).setCell ⟨q,515,none⟩ (.pointer (some ⟨p,0,none⟩))).drew) b (cut2 E p q b):=by
 refine EntAt.drew ?_
 have h1:∀ b,EntAt w b (E b)→EntAt (w.setCell ⟨p,516,none⟩ (.pointer (some ⟨q,0,none⟩))) b (upd E p ((E p).wAft q) b):=fun b hb=>by
  by_cases hbp:b=p
  ·subst hbp;rw [upd_same];exact hp.setAft q
  ·rw [upd_other _ _ hbp];exact hb.setOther hbp _
 unfold cut2
 by_cases hbq:b=q
 ·subst hbq;rw [upd_same];exact (h1 b hq).setBef p
 ·rw [upd_other _ _ hbq];exact (h1 b hb).setOther hbq _
theorem unlink_ring(h e:Nat)(xs ys:List Nat)(E:Nat→Ent)(w:World)(H:RingAt w h (xs++e::ys) E) :
  Calls Tryz.prog 293 #[.pointer (some ⟨e,0,none⟩)] w fun r w'=>r=.returned (.tuple #[])∧∃ E',RingAt w' h (xs++ys) E'∧EntAt w' e (E e)∧(∀ b,(E' b).row=(E b).row)∧(∀ b,b∈ys→(E' b).aft=(E b).aft)∧Fr (·∈h::(xs++ys)) w w':=by
 obtain ⟨p,q,hb,ha,hp,hq,hc⟩:=H.ch.cut H.nd
 have n2:=List.nodup_cons.1 H.nd
 have n3:=List.nodup_append.1 n2.2
 have n4:=List.nodup_cons.1 n3.2.1
 have hpm:p∈h::(xs++e::ys):=by rcases List.mem_cons.1 hp with rfl |hp;simp;simp [hp]
 have hqm:q∈h::(xs++e::ys):=by rcases List.mem_cons.1 hq with rfl |hq;simp;simp [hq]
 have hpe:p≠e:=by
  rcases List.mem_cons.1 hp with rfl |hp
  ·rintro rfl;exact n2.1 (by simp)
  ·exact n3.2.2 p hp e (by simp)
 have hqe:q≠e:=by
  rcases List.mem_cons.1 hq with rfl |hq
  ·rintro rfl;exact n2.1 (by simp)
  ·rintro rfl;exact n4.1 hq
 have ep:=H.en p hpm;have eq:=H.en q hqm;have ee:=H.en e (by simp)
 have cb:=ee.bef;have ca:=ee.aft
 rw [hb]at cb;rw [ha]at ca
 refine (unlink_any e p q _ _ w cb ca ep.aft eq.bef (ep.frozen _) (eq.frozen _)).mono ?_
 rintro r w' ⟨rfl,rfl⟩
 refine ⟨rfl,cut2 E p q,⟨fun b hb=>ent_cut2 ep eq (H.en b ?_),hc,?_⟩,?_,cut2_row E p q,fun b hby=>cut2_aft E ?_,(((Fr.refl _ w).set (Or.inl ?_) _).set (Or.inl ?_) _).drew⟩
 ·simp only [List.mem_cons,List.mem_append]at hb ⊢
  rcases hb with h |h |h<;>simp [h]
 ·refine List.nodup_cons.2 ⟨fun hm=>n2.1 ?_,List.nodup_append.2 ⟨n3.1,n4.2,fun a ha b hb=>n3.2.2 a ha b (by simp [hb])⟩⟩
  simp only [List.mem_cons,List.mem_append]at hm ⊢
  rcases hm with h |h<;>simp [h]
 ·have:=ent_cut2 ep eq ee
  rwa [cut2_else E hpe.symm hqe.symm]at this
 ·rintro rfl
  rcases List.mem_cons.1 hp with rfl |hp
  ·exact n2.1 (by simp [hby])
  ·exact n3.2.2 b hp b (by simp [hby]) rfl
 ·rcases List.mem_cons.1 hp with rfl |hp;simp;simp [hp]
 ·rcases List.mem_cons.1 hq with rfl |hq;simp;simp [hq]
theorem link_ring(c h e:Nat)(ks:List Nat)(E:Nat→Ent)(w:World)(H:RingAt w h ks E)(he:e∉h::ks)(x:Ent)(hx:EntAt w e x)(cc:w.cell? ⟨c,2,none⟩=some (.pointer (some ⟨h,0,none⟩))) :
  Calls Tryz.prog 294 #[.pointer (some ⟨c,0,none⟩),.pointer (some ⟨e,0,none⟩)] w fun r w'=>r=.returned (.tuple #[])∧∃ E',RingAt w' h (ks++[e]) E'∧(E' e).row=x.row∧(∀ b,b≠e→(E' b).row=(E b).row)∧Fr (·∈h::(ks++[e])) w w':=by
 obtain ⟨z,hb,hz,hch⟩:=H.ch.add H.nd he
 have ez:=H.en z hz;have eh:=H.en h (by simp)
 have cb:=eh.bef
 rw [hb]at cb
 have hze:¬z=e:=fun h1=>he (h1▸hz)
 have hhe:¬h=e:=fun h1=>he (by simp [h1])
 refine (link_any c h z e _ _ _ w cc cb hx.bef hx.aft (hx.frozen _) (hx.frozen _) ez.aft (ez.frozen _) (eh.frozen _) hze hhe).mono ?_
 rintro r w' ⟨rfl,rfl⟩
 obtain ⟨E1,hE1⟩:∃ E1,E1=upd E e ((x.wBef z).wAft h):=⟨_,rfl⟩
 have hE1e:E1 e=(x.wBef z).wAft h:=by rw [hE1,upd_same]
 have hE1o:∀ b,b≠e→E1 b=E b:=fun b hb=>by rw [hE1,upd_other _ _ hb]
 have hc:=hch E1 hE1o (by rw [hE1e];rfl) (by rw [hE1e];rfl)
 have hfun:(fun b=>if b=e then E1 e else upd (upd E1 z ((E1 z).wAft e)) h ((upd E1 z ((E1 z).wAft e) h).wBef e) b)=upd (upd E1 z ((E1 z).wAft e)) h ((upd E1 z ((E1 z).wAft e) h).wBef e):=by
  funext b
  by_cases hbe:b=e
  ·subst hbe;rw [if_pos rfl,upd_other _ _ (Ne.symm hhe),upd_other _ _ (Ne.symm hze)]
  ·rw [if_neg hbe]
 rw [hfun]at hc
 have s1:∀ b,EntAt w b (E b)→b≠e→EntAt ((w.setCell ⟨e,515,none⟩ (.pointer (some ⟨z,0,none⟩))).setCell ⟨e,516,none⟩ (.pointer (some ⟨h,0,none⟩))) b (E1 b):=fun b hb hbe=>by
  rw [hE1o b hbe];exact (hb.setOther hbe _).setOther hbe _
 have s1e:EntAt ((w.setCell ⟨e,515,none⟩ (.pointer (some ⟨z,0,none⟩))).setCell ⟨e,516,none⟩ (.pointer (some ⟨h,0,none⟩))) e (E1 e):=by
  rw [hE1e];exact (hx.setBef z).setAft h
 have s2:∀ b,EntAt ((w.setCell ⟨e,515,none⟩ (.pointer (some ⟨z,0,none⟩))).setCell ⟨e,516,none⟩ (.pointer (some ⟨h,0,none⟩))) b (E1 b)→EntAt (((w.setCell ⟨e,515,none⟩ (.pointer (some ⟨z,0,none⟩))).setCell ⟨e,516,none⟩ (.pointer (some ⟨h,0,none⟩))).setCell ⟨z,516,none⟩ (.pointer (some ⟨e,0,none⟩))) b (upd E1 z ((E1 z).wAft e) b):=fun b hb=>by
  by_cases hbz:b=z
  ·subst hbz;rw [upd_same];exact hb.setAft e
  ·rw [upd_other _ _ hbz];exact hb.setOther hbz _
 have s3:∀ b,EntAt (((w.setCell ⟨e,515,none⟩ (.pointer (some ⟨z,0,none⟩))).setCell ⟨e,516,none⟩ (.pointer (some ⟨h,0,none⟩))).setCell ⟨z,516,none⟩ (.pointer (some ⟨e,0,none⟩))) b (upd E1 z ((E1 z).wAft e) b)→EntAt ((((w.setCell ⟨e,515,none⟩ (.pointer (some ⟨z,0,none⟩))).setCell ⟨e,516,none⟩ (.pointer (some ⟨h,0,none⟩))).setCell ⟨z,516,none⟩ (.pointer (some ⟨e,0,none⟩))).setCell ⟨h,515,none⟩ (.pointer (some ⟨e,0,none⟩))) b (upd (upd E1 z ((E1 z).wAft e)) h ((upd E1 z ((E1 z).wAft e) h).wBef e) b):=fun b hb=>by
  by_cases hbh:b=h
  ·subst hbh;rw [upd_same];exact hb.setBef e
  ·rw [upd_other _ _ hbh];exact hb.setOther hbh _
 refine ⟨rfl,_,⟨fun b hb=>?_,hc,?_⟩,?_,fun b hbe=>?_,(((((Fr.refl _ w).set (Or.inl (by simp)) _).set (Or.inl (by simp)) _).set (Or.inl ?_) _).set (Or.inl (by simp)) _).drew.drew⟩
 ·refine EntAt.drew (EntAt.drew ?_)
  by_cases hbe:b=e
  ·subst hbe;exact s3 b (s2 b s1e)
  ·refine s3 b (s2 b (s1 b (H.en b ?_) hbe))
   simp only [List.mem_cons,List.mem_append,List.not_mem_nil,or_false]at hb ⊢
   rcases hb with h |h |h
   ·exact Or.inl h
   ·exact Or.inr h
   ·exact absurd h hbe
 ·rw [show h::(ks++[e])=(h::ks)++[e] by simp]
  exact List.nodup_append.2 ⟨H.nd,by simp,fun a ha b hb=>by simp at hb;subst hb;rintro rfl;exact he ha⟩
 ·rw [upd_other _ _ (Ne.symm hhe),upd_other _ _ (Ne.symm hze),hE1e];rfl
 ·unfold upd
  split
  ·rename_i h1;subst h1;split<;>simp_all [Ent.wBef,Ent.wAft]
  ·split
   ·rename_i h1;subst h1;simp_all [Ent.wAft]
   ·rw [hE1o b hbe]
 ·simp only [List.mem_cons,List.mem_append]at hz ⊢
  rcases hz with h |h<;>simp [h]
theorem use_ring(c h e:Nat)(xs ys:List Nat)(E:Nat→Ent)(w:World)(H:RingAt w h (xs++e::ys) E)(cc:w.heap[c]?.isSome)(hc:c∉h::(xs++e::ys))(ch:w.cell? ⟨c,2,none⟩=some (.pointer (some ⟨h,0,none⟩))) :
  Calls Tryz.prog 258 #[.pointer (some ⟨c,0,none⟩),.pointer (some ⟨e,0,none⟩)] w fun r w'=>r=.returned (.tuple #[])∧∃ E',RingAt w' h (xs++ys++[e]) E'∧(∀ b,(E' b).row=(E b).row)∧Fr (·∈h::(xs++e::ys)) w w':=by
 have hcl:c<w.heap.size:=by
  rcases Nat.lt_or_ge c w.heap.size with h1 |h1
  ·exact h1
  ·rw [Array.getElem?_eq_none h1]at cc;cases cc
 have k1:=hid (unlink_ring h e xs ys E w H)
 have n2:=List.nodup_cons.1 H.nd
 have n3:=List.nodup_append.1 n2.2
 have n4:=List.nodup_cons.1 n3.2.1
 have hnot:e∉h::(xs++ys):=by
  intro hm
  simp only [List.mem_cons,List.mem_append]at hm
  rcases hm with h1 |h1 |h1
  ·exact n2.1 (by simp [←h1])
  ·exact n3.2.2 e h1 e (by simp) rfl
  ·exact n4.1 h1
 have hnot2:=hid hnot
 have k2:Hid (∀ (E1:Nat→Ent) (w1:World),RingAt w1 h (xs++ys) E1→EntAt w1 e (E e)→(∀ b,(E1 b).row=(E b).row)→Fr (·∈h::(xs++ys)) w w1→Calls Tryz.prog 294 #[.pointer (some ⟨c,0,none⟩),.pointer (some ⟨e,0,none⟩)] w1 fun r w'=>r=.returned (.tuple #[])∧∃ E',RingAt w' h (xs++ys++[e]) E'∧(∀ b,(E' b).row=(E b).row)∧Fr (·∈h::(xs++e::ys)) w w'):=by
  refine hid fun E1 w1 h1 h2 h3 h4=>?_
  have hcs:c∉h::(xs++ys):=fun hm=>hc (by
   simp only [List.mem_cons,List.mem_append]at hm ⊢
   rcases hm with h |h |h<;>simp [h])
  have ch1:w1.cell? ⟨c,2,none⟩=some (.pointer (some ⟨h,0,none⟩)):=(World.cell?_of_block (h4.blk c hcl hcs)).trans ch
  refine (link_ring c h e (xs++ys) E1 w1 h1 hnot (E e) h2 ch1).mono ?_
  rintro r w' ⟨rfl,E',g1,g2,g3,g4⟩
  refine ⟨rfl,E',g1,fun b=>?_,(h4.imp ?_).trans g4 ?_⟩
  ·by_cases hbe:b=e
   ·subst hbe;exact g2
   ·exact (g3 b hbe).trans (h3 b)
  ·intro j _ hj
   simp only [List.mem_cons,List.mem_append]at hj ⊢
   rcases hj with h |h |h<;>simp [h]
  ·intro j _ hj
   simp only [List.mem_cons,List.mem_append,List.not_mem_nil,or_false]at hj ⊢
   rcases hj with h |(h |h) |h<;>simp [h]
 clear H hnot n2 n3 n4 cc ch
 go_enter Tryz.func258,Tryz.ntmps258
 go_wp2_with (first |(go_at_call 293;refine k1.out.mono ?_;rintro r w1 ⟨rfl,E1,h1,h2,h3,-,h4⟩;replace k2:=hid (k2.out E1 w1 h1 h2 h3 h4);clear h1 h2 h3 h4) |(go_at_call 294;refine k2.out.mono ?_;rintro r w2 ⟨rfl,h5⟩;replace h5:=hid h5))
 go_end0
 exact ⟨rfl,h5.out⟩
end Cch
end Go.Proofs.YtenajbfeojljdaaGreatDoor
