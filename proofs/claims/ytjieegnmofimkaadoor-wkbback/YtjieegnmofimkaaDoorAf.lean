/- What is counted of a shape, and asked of all in it; no statement of the seat is proved here. -/
import Derived.Test.YtjieegnmofimkaaDoorAe
namespace Go.Proofs.YtjieegnmofimkaaDoor
open Go.RowKit Go.Maps

def partsN (l : List (Nat × Sh)) : Nat := min 1001 (l.length - 1)
def depthN (l : List (Nat × Sh)) : Nat := l.foldl (fun a x => max a x.1) 0
theorem depthN_snoc (l : List (Nat × Sh)) (k : Nat) (x : Nat × Sh) (h : l[k]? = some x) : depthN (l.take (k + 1)) = max (depthN (l.take k)) x.1 := by
  unfold depthN; rw [List.take_add_one, h]; simp
theorem depthN_mono : ∀ (l : List (Nat × Sh)) (a : Nat), a ≤ l.foldl (fun a x => max a x.1) a
  | [], a => Nat.le_refl a
  | x :: r, a => Nat.le_trans (Nat.le_max_left a x.1) (depthN_mono r (max a x.1))
theorem depthN_take (l : List (Nat × Sh)) (k : Nat) : depthN (l.take k) ≤ depthN l := by
  unfold depthN
  conv => rhs; rw [← List.take_append_drop k l, List.foldl_append]
  exact depthN_mono _ _
theorem depthN_le : ∀ (l : List (Nat × Sh)) (a b : Nat), a ≤ b → (∀ x ∈ l, x.1 ≤ b) → l.foldl (fun a x => max a x.1) a ≤ b
  | [], _, _, h, _ => h
  | x :: r, a, b, h, hx => depthN_le r (max a x.1) b (Nat.max_le.2 ⟨h, hx x (by simp)⟩) (fun y hy => hx y (by simp [hy]))
theorem flat_pos (s : Sh) (d : Nat) : 0 < (s.flat d).length := by rw [flat_eq]; simp
theorem below2 {w : World} {a b : Obj} : Below w.heap.size w ((w.alloc a).alloc b) := gt (ext1 _) (ext1 _)

attribute [local go_sem] Oper.semAt_some
set_option maxRecDepth 100000 in
set_option maxHeartbeats 4000000 in
theorem parts_call (s : Sh) (w : World) (h : In (fun b => b < w.heap.size) w s) : Calls Tryd.prog 39 #[.agg #[.int .i64 (s).k, .slice (s).xo (s).xn (s).xc, .slice (s).po (s).pn (s).pc]] w fun e w' => e = .returned (.int .i64 (partsN (s.flat 1) : Nat)) ∧ Below w.heap.size w w' := by
  have H := hid h
  have WC := hid (fun d W => whole_call s d W)
  clear h
  obtain ⟨m, -⟩ : ∃ m : Nat, m = 3 := ⟨3, rfl⟩
  refine (callsIn_wide (n := m)).1 ?_
  refine callsIn_of_wp_marks Tryd.func39 rfl trivial ?_ rfl
  simp only [Tryd.ntmps39, List.size_toArray, List.length_cons, List.length_nil, Nat.reduceAdd, Nat.reduceSub, Array.replicate_succ, Array.replicate_zero, List.push_toArray, List.append_toArray, List.nil_append, List.cons_append]
  gi_wp2_with (refine ⟨trivial, fun h => (by cases h), ?_⟩; gi_at_call 70; refine (callsIn_wide.2 (WC.out _ _)).mono ?_; rintro e W6 ⟨rfl, h6⟩; subst h6)
  refine range_whole (N := w.heap.size) (w0 := w) (Nat.le_refl _) s 1 (by omega) H.out (w.heap.size + 1 + 1) rfl (by repeat (first | (refine at_new ?_; (try simp only [World.size_alloc]); done) | refine at_old ?_)) (show Bx _ _ _ from (by repeat (first | (refine at_new ?_; (try simp only [World.size_alloc]); done) | refine at_old ?_))) rfl
    (fun k G W => k ≤ 1001 ∧ Own w.heap.size w [(w.heap.size + 1, .cells #[.int .i64 ((k : Int) - 1)] 3)] G W)
    (fun c G W => (c = .exit 0 ∧ 1001 < (s.flat 1).length) ∧ Own w.heap.size w [(w.heap.size + 1, .cells #[.int .i64 1001] 3)] G W)
    (fun k => and_cns (own_cns _ _ (Nat.le_refl _) _)) (fun c => and_cns (own_cns _ _ (Nat.le_refl _) _)) ?h0 (fun x W => W) (fun x W => Fr.refl _ _)
    (fun x Wa => ⟨#[.agg #[.int .i64 (s).k, .slice (s).xo (s).xn (s).xc, .slice (s).po (s).pn (s).pc], .pointer (some ⟨w.heap.size, 0, none⟩), .int .i64 0, .pointer (some ⟨w.heap.size + 1, 0, none⟩), .agg #[.int .i64 (s).k, .slice (s).xo (s).xn (s).xc, .slice (s).po (s).pn (s).pc], .func (.func 85) #[] #[.pointer (some ⟨w.heap.size + 1 + 1 + 1, 0, none⟩), .pointer (some ⟨w.heap.size + 1 + 1, 0, none⟩)], .int .i64 (x.1 : Int), .agg #[.int .i64 (x.2).k, .slice (x.2).xo (x.2).xn (x.2).xc, .slice (x.2).po (x.2).pn (x.2).pc], undef, undef, undef, undef, undef], []⟩) ?hassign ?hbody ?hdone ?hstop
  case h0 =>
    refine ⟨by omega, (by repeat (first | with_reducible exact Below.refl _ _ | with_reducible refine Below.alloc ?_ (by simp <;> omega) _)), fun i hi => ⟨⟨by omega, by simp only [World.size_alloc]; omega⟩, fun x hx => by simp at hx; subst hx; show i ≠ _; omega⟩, fun x hx => ?_⟩
    simp at hx
    subst hx
    exact (by repeat (first | (refine at_new ?_; (try simp only [World.size_alloc]); done) | refine at_old ?_))
  case hassign =>
    intro l' x W' K hK
    gi_wp2
    simpa using hK
  case hbody =>
    intro l' k x G Wa V hx hI hsz hnew
    obtain ⟨hle, hO⟩ := hI
    have hn : B1 V (w.heap.size + 1) 3 (.int .i64 ((k : Int) - 1)) := hO.b1 (by simp)
    have n0 := hn.cell; have n1 := hn.fz
    have hlt : k < (s.flat 1).length := (List.getElem?_eq_some_iff.1 hx).1
    have HN := hid hn; have HO := hid hO
    clear hn hO hsz hnew hx
    have fin := fun (c : Int) => HO.out.put1 (bs' := [(w.heap.size + 1, .cells #[.int .i64 c] 3)]) (w.heap.size + 1) (by omega) (Fr.set V (w.heap.size + 1) 0 (.int .i64 c)) (Nat.le_refl _) ⟨_, List.mem_cons_self, rfl⟩ (fun y hy => by
        simp at hy
        subst hy
        exact .inl ⟨rfl, HN.out.set _⟩)
    have FIN := hid fin
    clear fin
    by_cases hc : k ≤ 1000
    · have hc' : ¬ (1000 : Int) < ((k : Int) - 1) + 1 := by omega
      have e : (k : Int) - 1 + 1 = ((k + 1 : Nat) : Int) - 1 := by omega
      gi_wp2
      obtain ⟨p1, p2⟩ := FIN.out (k : Int)
      exact ⟨p2, p1⟩
    · obtain rfl : k = 1001 := by omega
      have hc' : (1000 : Int) < (((1001 : Nat) : Int) - 1) + 1 := by omega
      gi_wp2
      obtain ⟨p1, p2⟩ := FIN.out 1001
      exact ⟨p2, ⟨rfl, hlt⟩, p1⟩
  case hdone =>
    rintro W9 ⟨hle, hO⟩ hM
    have hn : B1 W9 (w.heap.size + 1) 3 (.int .i64 (((s.flat 1).length : Int) - 1)) := hO.b1 (by simp)
    have n0 := hn.cell
    have HO := hid hO; have HM := hid hM
    clear hn hO hM
    gi_wp2
    exact leave1 (own_cns _ _ (Nat.le_refl _) _) HO.out HM.out (fun W' h' => ⟨_, results_tmp rfl _ _ _, by have := flat_pos s 1; rw [show ((partsN (s.flat 1) : Nat) : Int) = ((s.flat 1).length : Int) - 1 by unfold partsN; omega]; rfl, h'.1⟩)
  case hstop =>
    rintro c W9 ⟨⟨rfl, hgt⟩, hO⟩ hM
    have hn : B1 W9 (w.heap.size + 1) 3 (.int .i64 1001) := hO.b1 (by simp)
    have n0 := hn.cell
    have HO := hid hO; have HM := hid hM
    clear hn hO hM
    gi_wp2
    exact leave1 (own_cns _ _ (Nat.le_refl _) _) HO.out HM.out (fun W' h' => ⟨_, results_tmp rfl _ _ _, by rw [show partsN (s.flat 1) = 1001 by unfold partsN; omega]; rfl, h'.1⟩)

set_option maxRecDepth 100000 in
set_option maxHeartbeats 4000000 in
theorem depth_call (s : Sh) (w : World) (h : In (fun b => b < w.heap.size) w s) : Calls Tryd.prog 38 #[.agg #[.int .i64 (s).k, .slice (s).xo (s).xn (s).xc, .slice (s).po (s).pn (s).pc]] w fun e w' => e = .returned (.int .i64 (depthN (s.flat 1) : Nat)) ∧ Below w.heap.size w w' := by
  have H := hid h
  have WC := hid (fun d W => whole_call s d W)
  clear h
  obtain ⟨m, -⟩ : ∃ m : Nat, m = 3 := ⟨3, rfl⟩
  refine (callsIn_wide (n := m)).1 ?_
  refine callsIn_of_wp_marks Tryd.func38 rfl trivial ?_ rfl
  simp only [Tryd.ntmps38, List.size_toArray, List.length_cons, List.length_nil, Nat.reduceAdd, Nat.reduceSub, Array.replicate_succ, Array.replicate_zero, List.push_toArray, List.append_toArray, List.nil_append, List.cons_append]
  gi_wp2_with (refine ⟨trivial, fun h => (by cases h), ?_⟩; gi_at_call 70; refine (callsIn_wide.2 (WC.out _ _)).mono ?_; rintro e W6 ⟨rfl, h6⟩; subst h6)
  have hall : ∀ x ∈ s.flat 1, x.1 ≤ 17 := fun x hx => (flat_mem _ s 1 (Nat.le_refl _) (by omega) x hx).2.2
  have HALL := hid hall
  clear hall
  refine range_whole (N := w.heap.size) (w0 := w) (Nat.le_refl _) s 1 (by omega) H.out (w.heap.size + 1 + 1) rfl (by repeat (first | (refine at_new ?_; (try simp only [World.size_alloc]); done) | refine at_old ?_)) (show Bx _ _ _ from (by repeat (first | (refine at_new ?_; (try simp only [World.size_alloc]); done) | refine at_old ?_))) rfl
    (fun k G W => depthN ((s.flat 1).take k) ≤ 16 ∧ Own w.heap.size w [(w.heap.size + 1, .cells #[.int .i64 (depthN ((s.flat 1).take k) : Nat)] 3)] G W)
    (fun c G W => (c = .exit 0 ∧ 17 ≤ depthN (s.flat 1)) ∧ Own w.heap.size w [(w.heap.size + 1, .cells #[.int .i64 17] 3)] G W)
    (fun k => and_cns (own_cns _ _ (Nat.le_refl _) _)) (fun c => and_cns (own_cns _ _ (Nat.le_refl _) _)) ?h0 (fun x W => W) (fun x W => Fr.refl _ _)
    (fun x Wa => ⟨#[.agg #[.int .i64 (s).k, .slice (s).xo (s).xn (s).xc, .slice (s).po (s).pn (s).pc], .pointer (some ⟨w.heap.size, 0, none⟩), .int .i64 0, .pointer (some ⟨w.heap.size + 1, 0, none⟩), .int .i64 (x.1 : Int), .agg #[.int .i64 (s).k, .slice (s).xo (s).xn (s).xc, .slice (s).po (s).pn (s).pc], .func (.func 85) #[] #[.pointer (some ⟨w.heap.size + 1 + 1 + 1, 0, none⟩), .pointer (some ⟨w.heap.size + 1 + 1, 0, none⟩)], .int .i64 (x.1 : Int), .agg #[.int .i64 (x.2).k, .slice (x.2).xo (x.2).xn (x.2).xc, .slice (x.2).po (x.2).pn (x.2).pc], undef, undef, undef, undef, undef, undef], []⟩) ?hassign ?hbody ?hdone ?hstop
  case h0 =>
    refine ⟨by simp [depthN], (by repeat (first | with_reducible exact Below.refl _ _ | with_reducible refine Below.alloc ?_ (by simp <;> omega) _)), fun i hi => ⟨⟨by omega, by simp only [World.size_alloc]; omega⟩, fun x hx => by simp at hx; subst hx; show i ≠ _; omega⟩, fun x hx => ?_⟩
    simp at hx
    subst hx
    exact (by repeat (first | (refine at_new ?_; (try simp only [World.size_alloc]); done) | refine at_old ?_))
  case hassign =>
    intro l' x W' K hK
    gi_wp2
    exact hK
  case hbody =>
    intro l' k x G Wa V hx hI hsz hnew
    obtain ⟨hle, hO⟩ := hI
    have hn : B1 V (w.heap.size + 1) 3 (.int .i64 (depthN ((s.flat 1).take k) : Nat)) := hO.b1 (by simp)
    have hs := depthN_snoc _ _ _ hx
    have ht := depthN_take (s.flat 1) (k + 1)
    have hx17 := HALL.out x (List.mem_of_getElem? hx)
    obtain ⟨T, hT⟩ : ∃ T, T = depthN ((s.flat 1).take k) := ⟨_, rfl⟩
    rw [← hT] at hn hs hle hO
    have n0 := hn.cell; have n1 := hn.fz
    have HN := hid hn; have HO := hid hO; have HS := hid hs; have HT := hid ht
    clear hn hO hsz hnew hx hs ht hT
    have fin := fun (c : Int) => HO.out.put1 (bs' := [(w.heap.size + 1, .cells #[.int .i64 c] 3)]) (w.heap.size + 1) (by omega) (Fr.set V (w.heap.size + 1) 0 (.int .i64 c)) (Nat.le_refl _) ⟨_, List.mem_cons_self, rfl⟩ (fun y hy => by
        simp at hy
        subst hy
        exact .inl ⟨rfl, HN.out.set _⟩)
    have FIN := hid fin
    clear fin
    have mx : ∀ W, (Builtin.max_ #[3, 3] 3 #[.int .i64 (T : Int), .int .i64 (x.1 : Int)]).run Tryd.prog W = .ok (.int .i64 ((max T x.1 : Nat) : Int)) W := fun W => by
      simp [Builtin.max_, Builtin.max2]; split <;> omega
    obtain ⟨Mx, hMx⟩ : ∃ Mx, Mx = max T x.1 := ⟨_, rfl⟩
    have h17 : Mx ≤ 17 := by omega
    rw [← hMx] at HS mx
    clear hMx
    by_cases hc : Mx = 17
    · subst hc
      rw [show ((17 : Nat) : Int) = 17 from rfl] at mx
      gi_wp2
      obtain ⟨p1, p2⟩ := FIN.out 17
      exact ⟨p2, ⟨rfl, by have := HT.out; rw [HS.out] at this; exact this⟩, p1⟩
    · have n2 : ((Mx : Int) == 17) = false := by simp; omega
      gi_wp2
      obtain ⟨p1, p2⟩ := FIN.out (Mx : Int)
      exact ⟨p2, by rw [HS.out]; omega, by rw [HS.out]; exact p1⟩
  case hdone =>
    rintro W9 ⟨hle, hO⟩ hM
    have hn : B1 W9 (w.heap.size + 1) 3 (.int .i64 (depthN ((s.flat 1).take (s.flat 1).length) : Nat)) := hO.b1 (by simp)
    rw [List.take_length] at hn
    have n0 := hn.cell
    have HO := hid hO; have HM := hid hM
    clear hn hO hM
    gi_wp2
    exact leave1 (own_cns _ _ (Nat.le_refl _) _) HO.out HM.out (fun W' h' => ⟨_, results_tmp rfl _ _ _, rfl, h'.1⟩)
  case hstop =>
    rintro c W9 ⟨⟨rfl, hgt⟩, hO⟩ hM
    have hn : B1 W9 (w.heap.size + 1) 3 (.int .i64 17) := hO.b1 (by simp)
    have n0 := hn.cell
    have HO := hid hO; have HM := hid hM
    clear hn hO hM
    gi_wp2
    exact leave1 (own_cns _ _ (Nat.le_refl _) _) HO.out HM.out (fun W' h' => ⟨_, results_tmp rfl _ _ _, by rw [show depthN (s.flat 1) = 17 by have := depthN_le (s.flat 1) 0 17 (by omega) HALL.out; unfold depthN at *; omega]; rfl, h'.1⟩)
end Go.Proofs.YtjieegnmofimkaaDoor
