/- What each call of a cache does: pins and marks; no statement of the seat is proved here. -/
import Derived.Test.YtadhdedjdgjboaaGreatDoorG20
import Derived.Test.YtadhdedjdgjboaaGreatDoorG01
set_option maxHeartbeats 16000000
set_option maxRecDepth 20000
namespace Go.Proofs.YtadhdedjdgjboaaGreatDoor
namespace Cch
open Go.RowKit Go.Maps
structure Step (w w' : World) (c : Nat) (C C' : Parts) (s' : CS) : Prop where
 cp : CP w' c C' s'
 fr : Fr (C.S c) w w'
 gr : ∀ k, C'.S c k → C.S c k ∨ w.heap.size ≤ k
variable {s : CS} {C : Parts} {c : Nat} {w : World}
theorem Step.same (h : CP w c C s) : Step w w c C C s := ⟨h, Fr.refl _ w, fun _ h => Or.inl h⟩
def CS.drop (s : CS) (k : Int) : CS × Int := match s.find k with | none => (s, 5) | some r => if r.pins = 0 then ({ s with l := s.others k }, 0) else (s, 6)
theorem others_of (h : CP w c C s) {k : Int} {e : Nat} (he : lk C.ks C.E k = some e) {xs ys : List Nat} (hks : C.ks = xs ++ e :: ys) : s.others k = rowsOf (xs ++ ys) C.E := by
 have h1 := (lk_iff h.pn).1 he
 have hpn := h.pn
 rw [hks] at hpn
 simp only [pagesOf, List.map_append, List.map_cons] at hpn
 have n1 := List.nodup_append.1 hpn
 have n2 := List.nodup_cons.1 n1.2.1
 have ex : ∀ x ∈ xs, ((C.E x).row.page != k) = true := fun x hx => by
   have := n1.2.2 _ (List.mem_map.2 ⟨x, hx, rfl⟩) (C.E e).row.page (by simp)
   rw [h1.2] at this
   simpa using this
 have ey : ∀ x ∈ ys, ((C.E x).row.page != k) = true := fun x hx => by
   have : (C.E x).row.page ≠ k := fun h0 => n2.1 (List.mem_map.2 ⟨x, hx, by rw [h0, h1.2]⟩)
   simpa using this
 unfold CS.others
 rw [h.ls, hks]
 simp only [rowsOf, List.map_append, List.map_cons, List.filter_append, List.filter_cons, h1.2, bne_self_eq_false, if_false, Bool.false_eq_true]
 congr 1
 · refine List.filter_eq_self.2 (fun r hr => ?_)
   obtain ⟨x, hx, rfl⟩ := List.mem_map.1 hr
   exact ex x hx
 · refine List.filter_eq_self.2 (fun r hr => ?_)
   obtain ⟨x, hx, rfl⟩ := List.mem_map.1 hr
   exact ey x hx
theorem others_none (h : CP w c C s) {k : Int} (he : lk C.ks C.E k = none) : s.others k = s.l := by
 refine List.filter_eq_self.2 (fun r hr => ?_)
 rw [h.ls] at hr
 obtain ⟨x, hx, rfl⟩ := List.mem_map.1 hr
 simpa using lk_none he x hx
theorem drop_call (c : Nat) (C : Parts) (s : CS) (k : Int) (w : World) (h : CP w c C s) (hk : (Lit.int .i64 k).wf = true) :
   Calls Tryz.prog 94 #[.pointer (some ⟨c, 0, none⟩), .int .i64 k] w fun e w' => e = .returned (.int .i64 (s.drop k).2) ∧ ∃ C', Step w w' c C C' (s.drop k).1 := by
 cases ho : lk C.ks C.E k with
 | none =>
   have k1 := hid (find_at c C s k w h hk none ho)
   have e1 : s.drop k = (s, 5) := by unfold CS.drop; rw [h.find_none ho]
   rw [e1]
   have HH := hid h
   clear h e1
   go_enter Tryz.func94, Tryz.ntmps94
   go_wp2_with (go_at_call 120; refine k1.out.mono ?_; rintro e w1 ⟨rfl, h0⟩; obtain rfl := h0.symm; simp only [ptr, lkE])
   go_ret
   exact ⟨rfl, _, Step.same HH.out⟩
 | some b =>
   have k1 := hid (find_at c C s k w h hk (some b) ho)
   have hm := ((lk_iff h.pn).1 ho).1
   have hen := h.rg.en b (List.mem_cons_of_mem _ hm)
   have c1 := hen.pins
   rcases Nat.eq_zero_or_pos (C.E b).row.pins with hz | hz
   · obtain ⟨xs, ys, hks, _⟩ := h.idx ho
     have e1 : s.drop k = ({ s with l := rowsOf (xs ++ ys) C.E }, 0) := by unfold CS.drop; rw [h.find_some ho]; simp [hz, others_of h ho hks]
     rw [hz] at c1
     simp only [Int.ofNat_zero] at c1
     have k2 := hid (remove_cp c b xs ys C s w h hks)
     rw [e1]
     have HKS := hid hks
     clear h e1 hen hks
     go_enter Tryz.func94, Tryz.ntmps94
     go_wp2_with (first | (go_at_call 120; refine k1.out.mono ?_; rintro e w1 ⟨rfl, h0⟩; obtain rfl := h0.symm; simp only [ptr, lkE]) | (go_at_call 121; refine k2.out.mono ?_; rintro e w2 ⟨rfl, C2, h2, h3⟩; have H2 := hid h2; have H3 := hid h3; clear h2 h3))
     go_ret
     refine ⟨rfl, C2, H2.out, H3.out.fr, fun j hj => Or.inl ?_⟩
     rcases hj with rfl | rfl | hj
     · exact Or.inl rfl
     · exact Or.inr (Or.inl H3.out.m)
     · refine Or.inr (Or.inr ?_)
       rw [H3.out.h, H3.out.ks] at hj
       rw [HKS.out]
       simp only [List.mem_cons, List.mem_append] at hj ⊢
       rcases hj with h | h | h <;> simp [h]
   · have e1 : s.drop k = (s, 6) := by unfold CS.drop; rw [h.find_some ho]; simp only; rw [if_neg (by omega)]
     have hz1 : 0 < (C.E b).row.pins := hz
     rw [e1]
     have HH := hid h
     clear h e1 hen
     go_enter Tryz.func94, Tryz.ntmps94
     go_wp2_with (go_at_call 120; refine k1.out.mono ?_; rintro e w1 ⟨rfl, h0⟩; obtain rfl := h0.symm; simp only [ptr, lkE])
     go_ret
     exact ⟨rfl, _, Step.same HH.out⟩
end Cch
namespace Cch
open Go.RowKit Go.Maps
theorem len_call (c : Nat) (C : Parts) (s : CS) (w : World) (h : CP w c C s) :
   Calls Tryz.prog 57 #[.pointer (some ⟨c, 0, none⟩)] w fun e w' => e = .returned (.int .i64 (s.l.length : Int)) ∧ w' = w := by
 have k1 := hid (made_yes c s.room w h.c0 h.rm.1)
 have c1 := h.c1
 have hl := h.mp.len 3
 have e1 : s.l.length = C.ks.length := by rw [h.ls]; simp
 rw [e1]
 clear h e1
 go_enter Tryz.func57, Tryz.ntmps57
 go_wp2_with (go_at_call 87; refine k1.out.mono ?_; rintro e w1 ⟨rfl, h0⟩; obtain rfl := h0.symm)
 go_ret
 exact ⟨rfl, rfl⟩
theorem shed_none (c f : Nat) (m : Int) (lb : Array Value) (w : World) (hm : m ≤ 0) :
   Calls Tryz.prog 124 #[.pointer (some ⟨c, 0, none⟩), .int .i64 m, .func (.func f) #[] lb] w fun e w' => e = .returned (.int .i64 0) ∧ Below w.heap.size w w' := by
 go_enter Tryz.func124, Tryz.ntmps124
 go_wp2
 go_ret
 exact ⟨rfl, (by repeat (first | with_reducible exact Below.refl _ _ | with_reducible assumption | with_reducible refine Below.drew ?_ | with_reducible refine below_drewN ?_ _ | with_reducible refine Below.alloc ?_ (by simp <;> omega) _ | with_reducible refine Below.setCell ?_ (by simp <;> omega) _))⟩
variable {c : Nat} {w : World}
theorem step_of_shed {w' : World} {C C' : Parts} {s : CS} (h : CP w' c C' s) (hm : C'.m = C.m) (hh : C'.h = C.h) (hs : ∀ b ∈ C'.ks, b ∈ C.ks) (hf : Fr (C.S c) w w') : Step w w' c C C' s := by
 refine ⟨h, hf, fun k hk => Or.inl ?_⟩
 rcases hk with rfl | rfl | hk
 · exact Or.inl rfl
 · exact Or.inr (Or.inl hm)
 · refine Or.inr (Or.inr ?_)
   rcases List.mem_cons.1 hk with rfl | hk
   · rw [hh]; simp
   · exact List.mem_cons_of_mem _ (hs k hk)
theorem own_base {B B' n : Nat} {v : Value} {xs : List Value} {e : TypeId} (h : w.ownsRow B e 1 v n xs) (hb : B' ≤ B) : w.ownsRow B' e 1 v n xs := by
 refine ⟨h.1, ?_⟩
 rcases h.2 with hn | ⟨g, cap, cur, rfl, hB, hr⟩
 · exact .inl hn
 · exact .inr ⟨g, cap, cur, rfl, Nat.le_trans hb hB, hr⟩
def CS.get (s : CS) (k : Int) : CS := match s.find k with | none => { s with miss := s.miss + 1 } | some r => { s with l := s.others k ++ [r], hit := s.hit + 1 }
variable {m h room hit miss : Nat}
theorem hd_set3 (hd : w.heap[c]? = some (.cells (hdC m h room hit miss).toArray 113 (0, 0))) (x : Nat) : (w.setCell ⟨c, 3, none⟩ (.int .i64 (x : Int))).heap[c]? = some (.cells (hdC m h room x miss).toArray 113 (0, 0)) := by rw [blk_set hd]; rfl
theorem hd_set4 (hd : w.heap[c]? = some (.cells (hdC m h room hit miss).toArray 113 (0, 0))) (x : Nat) : (w.setCell ⟨c, 4, none⟩ (.int .i64 (x : Int))).heap[c]? = some (.cells (hdC m h room hit x).toArray 113 (0, 0)) := by rw [blk_set hd]; rfl
theorem get_call (c : Nat) (C : Parts) (s : CS) (k : Int) (w : World) (h : CP w c C s) (hk : (Lit.int .i64 k).wf = true) (hh : s.hit ≤ 1000000) (hm : s.miss ≤ 1000000) :
   Calls Tryz.prog 96 #[.pointer (some ⟨c, 0, none⟩), .int .i64 k] w fun e w' => Bytes (s.peek k) w.heap.size w' e ∧ ∃ C', Step w w' c C C' (s.get k) := by
 have k1 := hid (made_yes c s.room w h.c0 h.rm.1)
 have c1 := h.c1; have c3 := h.c3; have c4 := h.c4
 have f3 := hd_frozen h.hd 3; have f4 := hd_frozen h.hd 4
 have hl := h.mp.look hk
 cases ho : lk C.ks C.E k with
 | none =>
   rw [ho, show ptr none = .pointer none from rfl] at hl
   have e1 : s.peek k = none := by unfold CS.peek; rw [h.find_none ho]; rfl
   have e2 : s.get k = { s with miss := s.miss + 1 } := by unfold CS.get; rw [h.find_none ho]
   have hw : IntKind.i64.wrap ((s.miss : Int) + 1) = ((s.miss + 1 : Nat) : Int) := by rw [IntWalk.i64_in _ ⟨by omega, by omega⟩]; omega
   have hend : Hid (∃ C', Step w (w.setCell ⟨c, 4, none⟩ (.int .i64 ((s.miss + 1 : Nat) : Int))) c C C' { s with miss := s.miss + 1 }) :=
     hid ⟨C, h.hits s.hit (s.miss + 1) (hd_set4 h.hd _) (fun j _ _ hj => set_heap _ _ _ _ _ hj), (Fr.refl _ w).set (Or.inl (Or.inl rfl)) _, fun _ h => Or.inl h⟩
   rw [e1, e2]
   clear h e1 e2 ho hh hm
   go_enter Tryz.func96, Tryz.ntmps96
   go_wp2_with (go_at_call 87; refine k1.out.mono ?_; rintro e w1 ⟨rfl, h0⟩; obtain rfl := h0.symm)
   go_ret2
   exact ⟨rfl, hend.out⟩
 | some b =>
   rw [ho, show ptr (some b) = .pointer (some ⟨b, 0, none⟩) from rfl] at hl
   have e1 : s.peek k = some (C.E b).row.bytes := by unfold CS.peek; rw [h.find_some ho]; rfl
   obtain ⟨xs, ys, hks, _⟩ := h.idx ho
   have e2 : s.get k = { s with l := rowsOf (xs ++ ys ++ [b]) C.E, hit := s.hit + 1 } := by unfold CS.get; rw [h.find_some ho, others_of h ho hks]; simp [rowsOf]
   have hw : IntKind.i64.wrap ((s.hit : Int) + 1) = ((s.hit + 1 : Nat) : Int) := by rw [IntWalk.i64_in _ ⟨by omega, by omega⟩]; omega
   have h1 := h.hits (s.hit + 1) s.miss (hd_set3 h.hd _) (w' := w.setCell ⟨c, 3, none⟩ (.int .i64 ((s.hit + 1 : Nat) : Int))) (fun j _ _ hj => set_heap _ _ _ _ _ hj)
   have k2 := hid (use_cp c b xs ys C _ _ h1 hks)
   have hfr : Fr (C.S c) w (w.setCell ⟨c, 3, none⟩ (.int .i64 ((s.hit + 1 : Nat) : Int))) := (Fr.refl _ w).set (Or.inl (Or.inl rfl)) _
   have hlen := hid (h.rg.en b (by rw [hks]; simp)).len
   have HF := hid hfr; have HKS := hid hks
   have hsz : (w.setCell ⟨c, 3, none⟩ (.int .i64 ((s.hit + 1 : Nat) : Int))).heap.size = w.heap.size := by simp
   have HSZ := hid hsz
   rw [e1, e2]
   clear h e1 e2 ho hh hm h1 hfr hks hsz
   go_enter Tryz.func96, Tryz.ntmps96
   go_wp2_with (first | (go_at_call 87; refine k1.out.mono ?_; rintro e w1 ⟨rfl, h0⟩; obtain rfl := h0.symm) | (go_at_call 123; refine k2.out.mono ?_; rintro e w2 ⟨rfl, C2, g1, g2, g3, g4, g5, g6⟩; have k3 := hid (clone_any b 1 512 512 _ w2 (g1.rg.en b (by rw [g4]; simp)).rd (by omega)); rw [g5 b] at k3; have G1 := hid g1; have G2 := hid g2; have G3 := hid g3; have G4 := hid g4; have G6 := hid g6; clear g1 g2 g3 g4 g5 g6) | (go_at_call 69; refine k3.out.mono ?_; rintro e w3 ⟨ao, cap, rfl, h2, h3⟩; have H2 := hid h2; have H3 := hid h3; clear h2 h3))
   go_ret2
   have hle : w.heap.size ≤ w2.heap.size := by have := G6.out.size; rw [HSZ.out] at this; exact this
   refine ⟨⟨hlen.out, ao, cap, rfl, own_base H2.out hle⟩, C2, G1.out.later H3.out, (HF.out.trans G6.out (fun _ _ h => h)).trans (T := fun _ => False) (Fr.of_below H3.out) (fun _ _ h => h.elim), fun j hj => Or.inl ?_⟩
   rcases hj with rfl | rfl | hj
   · exact Or.inl rfl
   · exact Or.inr (Or.inl G2.out)
   · refine Or.inr (Or.inr ?_)
     rw [G3.out, G4.out] at hj
     rw [HKS.out]
     simp only [List.mem_cons, List.mem_append, List.not_mem_nil, or_false] at hj ⊢
     rcases hj with h | (h | h) | h <;> simp [h]
end Cch
end Go.Proofs.YtadhdedjdgjboaaGreatDoor
