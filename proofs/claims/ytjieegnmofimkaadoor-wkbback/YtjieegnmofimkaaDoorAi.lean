/- What is asked of a shape and all in it, and Check; no statement of the seat is proved here. -/
import Derived.Test.YtjieegnmofimkaaDoorAh
namespace Go.Proofs.YtjieegnmofimkaaDoor
open Go.RowKit Go.Maps

def allB (f : Sh → Bool) (l : List (Nat × Sh)) : Bool := l.all fun x => f x.2
theorem allB_snoc (f : Sh → Bool) (l : List (Nat × Sh)) (k : Nat) (x : Nat × Sh) (h : l[k]? = some x) : allB f (l.take (k + 1)) = (allB f (l.take k) && f x.2) := by
  unfold allB; rw [List.take_add_one, h]; simp
theorem allB_false (f : Sh → Bool) (l : List (Nat × Sh)) (k : Nat) (x : Nat × Sh) (h : l[k]? = some x) (hx : f x.2 = false) : allB f l = false := by
  unfold allB
  rw [List.all_eq_false]
  exact ⟨x, List.mem_of_getElem? h, by simp [hx]⟩
theorem Own.below {N : Nat} {w0 : World} {bs : List (Nat × Obj)} {G : Nat → Prop} {V V' : World} (h : Own N w0 bs G V) (hN : N ≤ w0.heap.size) (hb : Below V.heap.size V V') : Own N w0 bs G V' ∧ Sm G V V' :=
  ⟨(own_cns N w0 hN bs).mv _ _ _ _ h (Fr.of_below hb) fun _ hi => .inl hi, (Fr.of_below (S := fun _ => False) hb).sm fun i hi => ⟨(h.2.1 i hi).1.2, fun h => h⟩⟩
/-- A box below is another one. -/
theorem Own.less1 {N : Nat} {w0 : World} {bs bs' : List (Nat × Obj)} {G : Nat → Prop} {V : World} (h : Own N w0 bs G V) (hs : ∀ x ∈ bs', x ∈ bs) : Own N w0 bs' G V := ⟨h.1, fun i hi => ⟨(h.2.1 i hi).1, fun x hx => (h.2.1 i hi).2 x (hs x hx)⟩, fun x hx => h.2.2 x (hs x hx)⟩

attribute [local go_sem] Oper.semAt_some

set_option maxRecDepth 100000 in
set_option maxHeartbeats 4000000 in
theorem every_34 (s : Sh) (w : World) (hT : Tab w) (h : In (fun b => b < w.heap.size) w s) : Calls Tryd.prog 41 #[.agg #[.int .i64 (s).k, .slice (s).xo (s).xn (s).xc, .slice (s).po (s).pn (s).pc], .func (.func 42) #[] #[]] w fun e w' => e = .returned (.bool (allB goodB (s.flat 1))) ∧ Below w.heap.size w w' := by
  have H := hid h
  have HT := hid hT
  have WC := hid (fun d W => whole_call s d W)
  clear h hT
  obtain ⟨m, -⟩ : ∃ m : Nat, m = 3 := ⟨3, rfl⟩
  refine (callsIn_wide (n := m)).1 ?_
  refine callsIn_of_wp_marks Tryd.func41 rfl trivial ?_ rfl
  simp only [Tryd.ntmps41, List.size_toArray, List.length_cons, List.length_nil, Nat.reduceAdd, Nat.reduceSub, Array.replicate_succ, Array.replicate_zero, List.push_toArray, List.append_toArray, List.nil_append, List.cons_append]
  gi_wp2_with (refine ⟨trivial, fun h => (by cases h), ?_⟩; gi_at_call 70; refine (callsIn_wide.2 (WC.out _ _)).mono ?_; rintro e W6 ⟨rfl, h6⟩; subst h6)
  refine range_whole (N := w.heap.size) (w0 := w) (Nat.le_refl _) s 1 (by omega) H.out (w.heap.size + 1 + 1 + 1) rfl (by repeat (first | (refine at_new ?_; (try simp only [World.size_alloc]); done) | refine at_old ?_)) (show Bx _ _ _ from (by repeat (first | (refine at_new ?_; (try simp only [World.size_alloc]); done) | refine at_old ?_))) rfl
    (fun k G W => allB goodB ((s.flat 1).take k) = true ∧ Own w.heap.size w [(w.heap.size + 1, .cells #[.func (.func 42) #[] #[]] 26), (w.heap.size + 1 + 1, .cells #[.bool false] 4)] G W)
    (fun c G W => (c = .ret ∧ allB goodB (s.flat 1) = false) ∧ Own w.heap.size w [(w.heap.size + 1 + 1, .cells #[.bool false] 4)] G W)
    (fun k => and_cns (own_cns _ _ (Nat.le_refl _) _)) (fun c => and_cns (own_cns _ _ (Nat.le_refl _) _)) ?h0 (fun x W => W.alloc (.cells #[.int .i64 (x.2).k, .slice (x.2).xo (x.2).xn (x.2).xc, .slice (x.2).po (x.2).pn (x.2).pc] 25)) (fun x W => Fr.alloc _ _ _)
    (fun x Wa => ⟨#[.agg #[.int .i64 (s).k, .slice (s).xo (s).xn (s).xc, .slice (s).po (s).pn (s).pc], .func (.func 42) #[] #[], .pointer (some ⟨w.heap.size, 0, none⟩), .pointer (some ⟨w.heap.size + 1, 0, none⟩), .pointer (some ⟨w.heap.size + 1 + 1, 0, none⟩), undef, .pointer (some ⟨Wa.heap.size, 0, none⟩), .agg #[.int .i64 (s).k, .slice (s).xo (s).xn (s).xc, .slice (s).po (s).pn (s).pc], .func (.func 85) #[] #[.pointer (some ⟨w.heap.size + 1 + 1 + 1 + 1, 0, none⟩), .pointer (some ⟨w.heap.size + 1 + 1 + 1, 0, none⟩)], .int .i64 (x.1 : Int), .agg #[.int .i64 (x.2).k, .slice (x.2).xo (x.2).xn (x.2).xc, .slice (x.2).po (x.2).pn (x.2).pc], undef, undef, undef, undef], []⟩) ?hassign ?hbody ?hdone ?hstop
  case h0 =>
    refine ⟨rfl, (by repeat (first | with_reducible exact Below.refl _ _ | with_reducible refine Below.alloc ?_ (by simp <;> omega) _)), fun i hi => ⟨⟨by omega, by simp only [World.size_alloc]; omega⟩, fun x hx => by simp at hx; rcases hx with rfl | rfl <;> (show i ≠ _; omega)⟩, fun x hx => ?_⟩
    simp at hx
    rcases hx with rfl | rfl
    · exact (by repeat (first | (refine at_new ?_; (try simp only [World.size_alloc]); done) | refine at_old ?_))
    · exact (by repeat (first | (refine at_new ?_; (try simp only [World.size_alloc]); done) | refine at_old ?_))
  case hassign =>
    intro l' x W' K hK
    gi_wp2
    exact hK
  case hbody =>
    intro l' k x G Wa V hx hI hsz hnew
    obtain ⟨hle, hO⟩ := hI
    have hbx : Bx V Wa.heap.size x.2 := ((hnew _ (Nat.le_refl _)).1).trans (heap_alloc_new Wa _)
    have hf : B1 V (w.heap.size + 1) 26 (.func (.func 42) #[] #[]) := hO.b1 (by simp)
    have hr : B1 V (w.heap.size + 1 + 1) 4 (.bool false) := hO.b1 (by simp)
    have hs := allB_snoc goodB _ _ _ hx
    have hno := fun hf => allB_false goodB _ _ _ hx hf
    have hB := hO.1
    have hV := hB.size
    have hin : Here (fun b => b < w.heap.size) V x.2 := (H.out.below hB).node (flat_mem _ s 1 (Nat.le_refl _) (by omega) x (List.mem_of_getElem? hx)).1
    have CC := hid (good_call x.2 V (HT.out.keep hB) (hin.of fun b hb => ⟨rfl, by omega⟩))
    obtain ⟨t0, t1, t2⟩ := hbx.cells
    have n0 := hf.cell
    have HR := hid hr; have HO := hid hO; have HS := hid hs; have HNO := hid hno; have HLE := hid hle
    clear hf hr hO hs hsz hnew hbx hx hno hle hin hB
    generalize hpb : goodB x.2 = pb at *
    cases pb with
    | false =>
      have r0 := HR.out.cell; have r1 := HR.out.fz
      gi_wp2_with (refine ⟨trivial, fun h => (by cases h), ?_⟩; gi_at_call 42; refine (CallsIn.inRound l' (callsIn_wide.2 CC.out)).mono ?_; rintro e W5 ⟨rfl, hb5⟩; have H5 := hid hb5; clear hb5; have q1 := hid (HO.out.below (Nat.le_refl _) H5.out); have q2 : B1 W5 (w.heap.size + 1 + 1) 4 (.bool false) := q1.out.1.b1 (by simp); have q3 := q2.cell; have q4 := q2.fz; have Q2 := hid q2; clear q2)
      obtain ⟨p1, p2⟩ := q1.out.1.put1 (bs' := [(w.heap.size + 1 + 1, .cells #[.bool false] 4)]) (w.heap.size + 1 + 1) (by omega) (Fr.set W5 (w.heap.size + 1 + 1) 0 (.bool false)) (Nat.le_refl _) ⟨_, List.mem_cons_of_mem _ (List.mem_cons_self), rfl⟩ (fun y hy => by
        simp at hy
        subst hy
        exact .inl ⟨rfl, Q2.out.set _⟩)
      exact ⟨q1.out.2.trans p2, ⟨rfl, HNO.out (by first | exact trivial | exact hpb | assumption | rfl)⟩, p1⟩
    | true =>
      gi_wp2_with (refine ⟨trivial, fun h => (by cases h), ?_⟩; gi_at_call 42; refine (CallsIn.inRound l' (callsIn_wide.2 CC.out)).mono ?_; rintro e W5 ⟨rfl, hb5⟩; have H5 := hid hb5; clear hb5; have q1 := hid (HO.out.below (Nat.le_refl _) H5.out))
      exact ⟨q1.out.2, (by rw [HS.out, HLE.out]; first | rfl | (rw [Bool.true_and]; exact hpb)), q1.out.1⟩
  case hdone =>
    rintro W9 ⟨hle, hO⟩ hM
    rw [List.take_length] at hle
    have hr : B1 W9 (w.heap.size + 1 + 1) 4 (.bool false) := hO.b1 (by simp)
    have r0 := hr.cell; have r1 := hr.fz
    have HR := hid hr; have HO := hid hO; have HM := hid hM; have HL := hid hle
    clear hr hO hM hle
    gi_wp2
    obtain ⟨p1, p2⟩ := HO.out.put1 (bs' := [(w.heap.size + 1 + 1, .cells #[.bool true] 4)]) (w.heap.size + 1 + 1) (by omega) (Fr.set W9 (w.heap.size + 1 + 1) 0 (.bool true)) (Nat.le_refl _) ⟨_, List.mem_cons_of_mem _ (List.mem_cons_self), rfl⟩ (fun y hy => by
        simp at hy
        subst hy
        exact .inl ⟨rfl, HR.out.set _⟩)
    exact leave1 (own_cns _ _ (Nat.le_refl _) _) p1 ((p2.same _ rfl).trans HM.out) (fun W' h' => ⟨_, ret_b1 rfl (fun W => by kernel_rfl) rfl (h'.b1 (List.mem_cons_self)), by rw [HL.out], h'.1⟩)
  case hstop =>
    rintro c W9 ⟨⟨rfl, hgt⟩, hO⟩ hM
    have HO := hid hO; have HM := hid hM; have HG := hid hgt
    clear hO hM hgt
    gi_wp2
    exact leave1 (own_cns _ _ (Nat.le_refl _) _) HO.out HM.out (fun W' h' => ⟨_, ret_b1 rfl (fun W => by kernel_rfl) rfl (h'.b1 (List.mem_cons_self)), by rw [HG.out], h'.1⟩)

set_option maxRecDepth 100000 in
set_option maxHeartbeats 4000000 in
theorem every_35 (s : Sh) (w : World) (hT : Tab w) (h : In (fun b => b < w.heap.size) w s) : Calls Tryd.prog 41 #[.agg #[.int .i64 (s).k, .slice (s).xo (s).xn (s).xc, .slice (s).po (s).pn (s).pc], .func (.func 43) #[] #[]] w fun e w' => e = .returned (.bool (allB (fun q => placedB q.xy) (s.flat 1))) ∧ Below w.heap.size w w' := by
  have H := hid h
  have HT := hid hT
  have WC := hid (fun d W => whole_call s d W)
  clear h hT
  obtain ⟨m, -⟩ : ∃ m : Nat, m = 3 := ⟨3, rfl⟩
  refine (callsIn_wide (n := m)).1 ?_
  refine callsIn_of_wp_marks Tryd.func41 rfl trivial ?_ rfl
  simp only [Tryd.ntmps41, List.size_toArray, List.length_cons, List.length_nil, Nat.reduceAdd, Nat.reduceSub, Array.replicate_succ, Array.replicate_zero, List.push_toArray, List.append_toArray, List.nil_append, List.cons_append]
  gi_wp2_with (refine ⟨trivial, fun h => (by cases h), ?_⟩; gi_at_call 70; refine (callsIn_wide.2 (WC.out _ _)).mono ?_; rintro e W6 ⟨rfl, h6⟩; subst h6)
  refine range_whole (N := w.heap.size) (w0 := w) (Nat.le_refl _) s 1 (by omega) H.out (w.heap.size + 1 + 1 + 1) rfl (by repeat (first | (refine at_new ?_; (try simp only [World.size_alloc]); done) | refine at_old ?_)) (show Bx _ _ _ from (by repeat (first | (refine at_new ?_; (try simp only [World.size_alloc]); done) | refine at_old ?_))) rfl
    (fun k G W => allB (fun q => placedB q.xy) ((s.flat 1).take k) = true ∧ Own w.heap.size w [(w.heap.size + 1, .cells #[.func (.func 43) #[] #[]] 26), (w.heap.size + 1 + 1, .cells #[.bool false] 4)] G W)
    (fun c G W => (c = .ret ∧ allB (fun q => placedB q.xy) (s.flat 1) = false) ∧ Own w.heap.size w [(w.heap.size + 1 + 1, .cells #[.bool false] 4)] G W)
    (fun k => and_cns (own_cns _ _ (Nat.le_refl _) _)) (fun c => and_cns (own_cns _ _ (Nat.le_refl _) _)) ?h0 (fun x W => W.alloc (.cells #[.int .i64 (x.2).k, .slice (x.2).xo (x.2).xn (x.2).xc, .slice (x.2).po (x.2).pn (x.2).pc] 25)) (fun x W => Fr.alloc _ _ _)
    (fun x Wa => ⟨#[.agg #[.int .i64 (s).k, .slice (s).xo (s).xn (s).xc, .slice (s).po (s).pn (s).pc], .func (.func 43) #[] #[], .pointer (some ⟨w.heap.size, 0, none⟩), .pointer (some ⟨w.heap.size + 1, 0, none⟩), .pointer (some ⟨w.heap.size + 1 + 1, 0, none⟩), undef, .pointer (some ⟨Wa.heap.size, 0, none⟩), .agg #[.int .i64 (s).k, .slice (s).xo (s).xn (s).xc, .slice (s).po (s).pn (s).pc], .func (.func 85) #[] #[.pointer (some ⟨w.heap.size + 1 + 1 + 1 + 1, 0, none⟩), .pointer (some ⟨w.heap.size + 1 + 1 + 1, 0, none⟩)], .int .i64 (x.1 : Int), .agg #[.int .i64 (x.2).k, .slice (x.2).xo (x.2).xn (x.2).xc, .slice (x.2).po (x.2).pn (x.2).pc], undef, undef, undef, undef], []⟩) ?hassign ?hbody ?hdone ?hstop
  case h0 =>
    refine ⟨rfl, (by repeat (first | with_reducible exact Below.refl _ _ | with_reducible refine Below.alloc ?_ (by simp <;> omega) _)), fun i hi => ⟨⟨by omega, by simp only [World.size_alloc]; omega⟩, fun x hx => by simp at hx; rcases hx with rfl | rfl <;> (show i ≠ _; omega)⟩, fun x hx => ?_⟩
    simp at hx
    rcases hx with rfl | rfl
    · exact (by repeat (first | (refine at_new ?_; (try simp only [World.size_alloc]); done) | refine at_old ?_))
    · exact (by repeat (first | (refine at_new ?_; (try simp only [World.size_alloc]); done) | refine at_old ?_))
  case hassign =>
    intro l' x W' K hK
    gi_wp2
    exact hK
  case hbody =>
    intro l' k x G Wa V hx hI hsz hnew
    obtain ⟨hle, hO⟩ := hI
    have hbx : Bx V Wa.heap.size x.2 := ((hnew _ (Nat.le_refl _)).1).trans (heap_alloc_new Wa _)
    have hf : B1 V (w.heap.size + 1) 26 (.func (.func 43) #[] #[]) := hO.b1 (by simp)
    have hr : B1 V (w.heap.size + 1 + 1) 4 (.bool false) := hO.b1 (by simp)
    have hs := allB_snoc (fun q => placedB q.xy) _ _ _ hx
    have hno := fun hf => allB_false (fun q => placedB q.xy) _ _ _ hx hf
    have hB := hO.1
    have hV := hB.size
    have hin : Here (fun b => b < w.heap.size) V x.2 := (H.out.below hB).node (flat_mem _ s 1 (Nat.le_refl _) (by omega) x (List.mem_of_getElem? hx)).1
    have CC := hid (placed_call x.2 V (hin.of fun b hb => ⟨rfl, by omega⟩))
    obtain ⟨t0, t1, t2⟩ := hbx.cells
    have n0 := hf.cell
    have HR := hid hr; have HO := hid hO; have HS := hid hs; have HNO := hid hno; have HLE := hid hle
    clear hf hr hO hs hsz hnew hbx hx hno hle hin hB
    generalize hpb : (fun q => placedB q.xy) x.2 = pb at *
    cases pb with
    | false =>
      have r0 := HR.out.cell; have r1 := HR.out.fz
      gi_wp2_with (refine ⟨trivial, fun h => (by cases h), ?_⟩; gi_at_call 43; refine (CallsIn.inRound l' (callsIn_wide.2 CC.out)).mono ?_; rintro e W5 ⟨rfl, hb5⟩; have H5 := hid hb5; clear hb5; have q1 := hid (HO.out.below (Nat.le_refl _) H5.out); have q2 : B1 W5 (w.heap.size + 1 + 1) 4 (.bool false) := q1.out.1.b1 (by simp); have q3 := q2.cell; have q4 := q2.fz; have Q2 := hid q2; clear q2)
      obtain ⟨p1, p2⟩ := q1.out.1.put1 (bs' := [(w.heap.size + 1 + 1, .cells #[.bool false] 4)]) (w.heap.size + 1 + 1) (by omega) (Fr.set W5 (w.heap.size + 1 + 1) 0 (.bool false)) (Nat.le_refl _) ⟨_, List.mem_cons_of_mem _ (List.mem_cons_self), rfl⟩ (fun y hy => by
        simp at hy
        subst hy
        exact .inl ⟨rfl, Q2.out.set _⟩)
      exact ⟨q1.out.2.trans p2, ⟨rfl, HNO.out (by first | exact trivial | exact hpb | assumption | rfl)⟩, p1⟩
    | true =>
      gi_wp2_with (refine ⟨trivial, fun h => (by cases h), ?_⟩; gi_at_call 43; refine (CallsIn.inRound l' (callsIn_wide.2 CC.out)).mono ?_; rintro e W5 ⟨rfl, hb5⟩; have H5 := hid hb5; clear hb5; have q1 := hid (HO.out.below (Nat.le_refl _) H5.out))
      exact ⟨q1.out.2, (by rw [HS.out, HLE.out]; first | rfl | (rw [Bool.true_and]; exact hpb)), q1.out.1⟩
  case hdone =>
    rintro W9 ⟨hle, hO⟩ hM
    rw [List.take_length] at hle
    have hr : B1 W9 (w.heap.size + 1 + 1) 4 (.bool false) := hO.b1 (by simp)
    have r0 := hr.cell; have r1 := hr.fz
    have HR := hid hr; have HO := hid hO; have HM := hid hM; have HL := hid hle
    clear hr hO hM hle
    gi_wp2
    obtain ⟨p1, p2⟩ := HO.out.put1 (bs' := [(w.heap.size + 1 + 1, .cells #[.bool true] 4)]) (w.heap.size + 1 + 1) (by omega) (Fr.set W9 (w.heap.size + 1 + 1) 0 (.bool true)) (Nat.le_refl _) ⟨_, List.mem_cons_of_mem _ (List.mem_cons_self), rfl⟩ (fun y hy => by
        simp at hy
        subst hy
        exact .inl ⟨rfl, HR.out.set _⟩)
    exact leave1 (own_cns _ _ (Nat.le_refl _) _) p1 ((p2.same _ rfl).trans HM.out) (fun W' h' => ⟨_, ret_b1 rfl (fun W => by kernel_rfl) rfl (h'.b1 (List.mem_cons_self)), by rw [HL.out], h'.1⟩)
  case hstop =>
    rintro c W9 ⟨⟨rfl, hgt⟩, hO⟩ hM
    have HO := hid hO; have HM := hid hM; have HG := hid hgt
    clear hO hM hgt
    gi_wp2
    exact leave1 (own_cns _ _ (Nat.le_refl _) _) HO.out HM.out (fun W' h' => ⟨_, ret_b1 rfl (fun W => by kernel_rfl) rfl (h'.b1 (List.mem_cons_self)), by rw [HG.out], h'.1⟩)

end Go.Proofs.YtjieegnmofimkaaDoor
