/- All points of a shape, as the program takes them: the walk; no statement of the seat is proved here. -/
import Derived.Test.YtjlahomjhadnkaaBe
namespace Go.Proofs.Ytjlahomjhadnkaa
open Go.RowKit Go.Maps

/-- The points of what is told. -/
def ptsF (l : List (Nat × Sh)) : List (Int × Int) := l.flatMap fun x => x.2.xy
theorem ptsF_snoc (l : List (Nat × Sh)) (k : Nat) (x : Nat × Sh) (h : l[k]? = some x) : ptsF (l.take (k + 1)) = ptsF (l.take k) ++ x.2.xy := by
  unfold ptsF; rw [List.take_add_one, h]; simp
theorem ptsF_le (l : List (Nat × Sh)) (k : Nat) : (ptsF (l.take k)).length ≤ (ptsF l).length := by
  unfold ptsF
  conv => rhs; rw [← List.take_append_drop k l, List.flatMap_append, List.length_append]
  omega
theorem ptsF_of {s : Sh} (h : depthN (s.flat 1) ≤ 16) : ptsF (s.flat 1) = ptsOf s := by
  unfold ptsF ptsOf
  rw [← depth_nodes h, List.flatMap_map]

attribute [local go_sem] Oper.semAt_some
set_option maxRecDepth 100000 in
set_option maxHeartbeats 4000000 in
theorem all_call (s : Sh) (w : World) (h : In (fun b => b < w.heap.size) w s) (h4 : (ptsF (s.flat 1)).length ≤ 4000) : Calls Try.prog 57 #[.agg #[.int .i64 (s).k, .slice (s).xo (s).xn (s).xc, .slice (s).po (s).pn (s).pc]] w fun e w' => ∃ q ao n c, e = .returned (.func (.func 84) #[] #[.pointer (some ⟨q, 0, none⟩)]) ∧ w.heap.size ≤ q ∧ Rx w' q ao n c ∧ (ptsF (s.flat 1)).length = n ∧ w'.ownsRow w.heap.size 23 2 (.slice ao n c) n (pv (ptsF (s.flat 1))) ∧ Below w.heap.size w w' := by
  have H := hid h
  have H4 := hid h4
  have WC := hid (fun d W => whole_call s d W)
  clear h h4
  obtain ⟨m, -⟩ : ∃ m : Nat, m = 3 := ⟨3, rfl⟩
  refine (callsIn_wide (n := m)).1 ?_
  refine callsIn_of_wp_marks Try.func57 rfl trivial ?_ rfl
  simp only [Try.ntmps57, List.size_toArray, List.length_cons, List.length_nil, Nat.reduceAdd, Nat.reduceSub, Array.replicate_succ, Array.replicate_zero, List.push_toArray, List.append_toArray, List.nil_append, List.cons_append]
  gi_wp2_with (refine ⟨trivial, fun h => (by cases h), ?_⟩; gi_at_call 72; refine (callsIn_wide.2 (WC.out _ _)).mono ?_; rintro e W6 ⟨rfl, h6⟩; subst h6)
  have hz : ∀ n : Nat, w.heap.size ≤ w.heap.size + n := fun n => by omega
  refine range_whole (N := w.heap.size) (w0 := w) (Nat.le_refl _) s 1 (by omega) H.out (w.heap.size + 1 + 1) rfl (by repeat (first | (refine at_new ?_; (try simp only [World.size_alloc]); done) | refine at_old ?_)) (show Bx _ _ _ from (by repeat (first | (refine at_new ?_; (try simp only [World.size_alloc]); done) | refine at_old ?_))) rfl
    (fun k G W => RowO w.heap.size w [] (w.heap.size + 1) (ptsF ((s.flat 1).take k)) G W)
    (fun _ _ _ => False)
    (fun k => rowo_cns _ _ (Nat.le_refl _) _ _ _) (fun _ => ⟨fun _ _ h => h.elim, fun _ _ h => h.elim, fun _ _ _ _ h => h.elim⟩) ?h0 (fun x W => W.alloc (.cells #[.int .i64 (x.2).k, .slice (x.2).xo (x.2).xn (x.2).xc, .slice (x.2).po (x.2).pn (x.2).pc] 45)) (fun x W => Fr.alloc _ _ _)
    (fun x Wa => ⟨#[.agg #[.int .i64 (s).k, .slice (s).xo (s).xn (s).xc, .slice (s).po (s).pn (s).pc], .pointer (some ⟨w.heap.size, 0, none⟩), .nilFunc, .pointer (some ⟨w.heap.size + 1, 0, none⟩), undef, .pointer (some ⟨Wa.heap.size, 0, none⟩), .agg #[.int .i64 (s).k, .slice (s).xo (s).xn (s).xc, .slice (s).po (s).pn (s).pc], .func (.func 81) #[] #[.pointer (some ⟨w.heap.size + 1 + 1 + 1, 0, none⟩), .pointer (some ⟨w.heap.size + 1 + 1, 0, none⟩)], .int .i64 (x.1 : Int), .agg #[.int .i64 (x.2).k, .slice (x.2).xo (x.2).xn (x.2).xc, .slice (x.2).po (x.2).pn (x.2).pc], undef, undef, undef, undef, undef, undef], []⟩) ?hassign ?hbody ?hdone ?hstop
  case h0 =>
    refine ⟨none, 0, 0, by simp [ptsF], ⟨(by repeat (first | with_reducible exact Below.refl _ _ | with_reducible refine Below.alloc ?_ (by simp <;> omega) _)), fun i hi => ⟨⟨by omega, by simp only [World.size_alloc]; omega⟩, fun x hx => by simp at hx; subst hx; show i ≠ _; omega⟩, fun x hx => ?_⟩, ?_, fun a ha => by cases ha⟩
    · simp at hx
      subst hx
      exact (by repeat (first | (refine at_new ?_; (try simp only [World.size_alloc]); done) | refine at_old ?_))
    · rw [show pv (ptsF ((s.flat 1).take 0)) = [] by simp [ptsF, pv]]
      exact World.ownsRow_nil _ _ _ _
  case hassign =>
    intro l' x W' K hK
    gi_wp2
    exact hK
  case hbody =>
    intro l' k x G Wa V hx hI hsz hnew
    obtain ⟨ao, n, cap, hl, hF⟩ := hI
    have hbx : Bx V Wa.heap.size x.2 := ((hnew _ (Nat.le_refl _)).1).trans (heap_alloc_new Wa _)
    have hin : Here (fun b => b < w.heap.size) V x.2 := (H.out.below hF.1.1).node (flat_mem _ s 1 (Nat.le_refl _) (by omega) x (List.mem_of_getElem? hx)).1
    have hr : Rx V (w.heap.size + 1) ao n cap := hF.1.2.2 _ (List.mem_cons_self)
    obtain ⟨-, t1, -⟩ := hbx.cells
    have r0 := hr.cell; have r1 := hr.fz
    have hs := ptsF_snoc _ _ _ hx
    have hle : n + x.2.xn ≤ 4000 := by
      have h1 := ptsF_le (s.flat 1) (k + 1)
      have h2 := H4.out
      rw [hs, List.length_append, hl, hin.xl] at h1
      omega
    have HF := hid hF; have HIN := hid hin; have HL := hid hl; have HS := hid hs
    have hV := hF.1.1.size
    have hn := HIN.out.xl
    clear hF hin hl hs hsz hnew hbx hx
    obtain ⟨P, hP⟩ : ∃ P, P = ptsF ((s.flat 1).take k) := ⟨_, rfl⟩
    rw [← hP] at HF HL HS
    clear hP
    gi_wp2_with ((with_reducible refine here_in 13 ?_); refine appendIn_pts rfl (.tmp 10) (.tmp 12) rfl w.heap.size (.slice ao n cap) n P rfl HF.out.2.1 (fun b => b < w.heap.size) x.2.xo x.2.xn x.2.xc x.2.xy rfl HIN.out.xr HIN.out.xl HIN.out.x0 (by omega) hV ?_; intro v1 W1 ho1 hg1 h51; obtain ⟨hrx, ao1, cap1, e1, hro, hsm⟩ := row_step (b := w.heap.size + 1) (Nat.le_refl _) (by omega) HF.out HL.out (fun y hy => by cases hy) (by rw [hn]; exact ho1) hg1 h51; subst e1; rw [hn] at hro hsm; have k0 := hrx.cell; have k1 := hrx.fz; have RO := hid hro; have SM := hid hsm; clear hro hsm ho1 hg1 h51 hrx)
    exact ⟨SM.out, by rw [HS.out]; exact RO.out⟩
  case hdone =>
    rintro W9 ⟨ao, n, cap, hl, hF⟩ hM
    rw [List.take_length] at hl hF
    have hr : Rx W9 (w.heap.size + 1) ao n cap := hF.1.2.2 _ (List.mem_cons_self)
    have r0 := hr.cell
    have HF := hid hF; have HL := hid hl; have HM := hid hM
    have VC := hid (fun W => values_call ao n cap W)
    clear hF hl hM
    gi_wp2_with (refine ⟨trivial, fun h => (by cases h), ?_⟩; gi_at_call 73; refine (callsIn_wide.2 (VC.out _)).mono ?_; rintro e W7 ⟨rfl, h7⟩; subst h7)
    have hq := hid (show w.heap.size ≤ W9.heap.size from HF.out.1.1.size)
    have J1 : RowF w.heap.size w [(W9.heap.size, .cells #[.slice ao n cap] 42)] ao n cap (ptsF (s.flat 1)) (fun i => i = w.heap.size + 1 + 1 + 1 + 1) (W9.alloc (.cells #[.slice ao n cap] 42)) := by
      have h1 := (rowf_cns w.heap.size w (Nat.le_refl _) _ ao n cap (ptsF (s.flat 1))).mv _ (fun i => i = w.heap.size + 1 + 1 + 1 + 1) _ (W9.alloc (.cells #[.slice ao n cap] 42)) HF.out (Fr.alloc _ _ _) (fun i hi => .inl (by simpa using hi))
      refine ⟨⟨h1.1.1, fun i hi => ⟨(h1.1.2.1 i hi).1, fun x hx => ?_⟩, fun x hx => ?_⟩, h1.2⟩
      · simp at hx
        subst hx
        have := (HF.out.1.2.1 i (by simpa using hi)).1.2
        show i ≠ W9.heap.size
        omega
      · simp at hx
        subst hx
        exact heap_alloc_new _ _
    have M1 : Mark (w.heap.size + 1 + 1 + 1 + 1) (W9.alloc (.cells #[.slice ao n cap] 42)) := by
      have h9 := HM.out
      simp only [World.size_alloc] at h9
      exact ((ext1 _).block _ (Array.getElem?_eq_some_iff.1 h9).1).trans h9
    refine leave1 (rowf_cns _ _ (Nat.le_refl _) _ _ _ _ _) J1 M1 (fun W' h' => ⟨_, results_tmp rfl _ _ _, W9.heap.size, ao, n, cap, rfl, hq.out, h'.1.2.2 _ (List.mem_cons_self), HL.out, h'.2.1, h'.1.1⟩)
  case hstop =>
    rintro c W9 h
    exact h.elim
end Go.Proofs.Ytjlahomjhadnkaa
