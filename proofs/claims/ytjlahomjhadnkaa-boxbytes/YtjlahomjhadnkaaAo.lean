/- What the document counts of a shape is what the program counts; no statement of the seat is proved here. -/
import Derived.Test.YtjlahomjhadnkaaAn
namespace Go.Proofs.Ytjlahomjhadnkaa
open Go.RowKit Go.Maps

theorem csL_parts (l : List (Nat × Sh)) : ∀ t, OkC t → (∀ x ∈ l, x.1 ≤ 17) → csL t l = (min 4001 (t.1 + sumX l), min 1001 (t.2.1 + l.length), l.foldl (fun a x => max a x.1) t.2.2) := by
  induction l with
  | nil =>
    intro t h _
    obtain ⟨h1, h2, h3, h4⟩ := h
    obtain ⟨X, P, D⟩ := t
    simp only at h1 h2 h3 h4
    show (X, P, D) = _
    simp only [List.foldl, sumX, List.map_nil, List.sum_nil, List.length_nil, Prod.mk.injEq]
    exact ⟨by omega, by omega, trivial⟩
  | cons a r ih =>
    intro t h hx
    have h' := h.step (hx a (by simp))
    show csL (cs1 t a) r = _
    rw [ih _ h' fun x hx' => hx x (by simp [hx'])]
    obtain ⟨h1, h2, h3, h4⟩ := h
    obtain ⟨X, P, D⟩ := t
    have e : sumX (a :: r) = a.2.xn + sumX r := by simp [sumX]
    rw [e]
    simp only [cs1, List.foldl, List.length_cons, Prod.mk.injEq] at *
    refine ⟨by omega, by omega, trivial⟩
theorem ok0 : OkC (0, -1, 0) := by unfold OkC; simp
theorem csL_flat (s : Sh) : csL (0, -1, 0) (s.flat 1) = (ptsN (s.flat 1), ((partsN (s.flat 1) : Nat) : Int), depthN (s.flat 1)) := by
  rw [csL_parts _ _ ok0 fun x hx => (flat_mem _ s 1 (Nat.le_refl _) (by omega) x hx).2.2]
  have := flat_pos s 1
  simp only [Prod.mk.injEq]
  refine ⟨by unfold ptsN; omega, by unfold partsN; omega, rfl⟩

theorem ret_c3 {fn : Func} {p : Tmp} (h : fn.results = #[.cell p 96]) {tmps : Array Value} {W : World} {q : Nat} {t' : TypeId} {a b c : Value}
    (hp : tmps.getD p undef = .pointer (some ⟨q, 0, none⟩)) (hb : W.heap[q]? = some (.cells #[a, b, c] t')) : (results fn tmps).run Try.prog W = .ok (.agg #[a, b, c]) W := by
  rw [results_cell1 h, hp]
  simp [asAddr, load3 Try.isAgg96 Try.sizeOf96 hb]

theorem below3 {w : World} {a b c : Obj} : Below w.heap.size w (((w.alloc a).alloc b).alloc c) := gt (gt (ext1 _) (ext1 _)) (ext1 _)
/-- What is counted, as the document has it. -/
def cnt (s : Sh) : Value := .agg #[.int .i64 (ptsN (s.flat 1) : Nat), .int .i64 (partsN (s.flat 1) : Nat), .int .i64 (depthN (s.flat 1) : Nat)]
set_option maxRecDepth 100000 in
set_option maxHeartbeats 2000000 in
theorem of_call (s : Sh) (w : World) (h : In (fun b => b < w.heap.size) w s) : Calls Try.prog 71 #[.agg #[.int .i64 (s).k, .slice (s).xo (s).xn (s).xc, .slice (s).po (s).pn (s).pc]] w fun e w' => e = .returned (.agg #[.int .i64 (ptsN (s.flat 1) : Nat), .int .i64 (partsN (s.flat 1) : Nat), .int .i64 (depthN (s.flat 1) : Nat)]) ∧ Below w.heap.size w w' := by
  have B1 := hid (Bx.new w s)
  obtain ⟨x0, x1, x2⟩ := B1.out.cells
  have CC := hid (fun W c (hC : CB W c (0, -1, 0)) (hI : In (fun b => b < W.heap.size ∧ b ≠ c) W s) => count_call _ s 1 (Nat.le_refl _) (by omega) c (0, -1, 0) W ok0 hC hI)
  rw [csL_flat] at CC
  have HI := hid h
  clear h
  generalize ptsN (s.flat 1) = X at *
  generalize partsN (s.flat 1) = P at *
  generalize depthN (s.flat 1) = D at *
  go_enter Try.func71, Try.ntmps71
  go_wp2_with (go_at_call 80; refine (CC.out _ (w.heap.size + 1 + 1) (show CB _ _ _ from (by repeat (first | (refine at_new ?_; (try simp only [World.size_alloc]); done) | refine at_old ?_))) (HI.out.of fun b hb => ⟨(below3 (w := w)).block b hb, by simp only [World.size_alloc]; omega, by omega⟩)).mono ?_; rintro e w1 ⟨⟨v, rfl⟩, hc1, hf1⟩; have C1 := hid hc1; have F1 := hid hf1; clear hc1 hf1; have C2 := hid (show CB w1 (w.heap.size + 1) (0, 0, 0) from (F1.out.blk _ (by simp only [World.size_alloc]; omega) (by omega)).trans (by repeat (first | (refine at_new ?_; (try simp only [World.size_alloc]); done) | refine at_old ?_))); obtain ⟨k0, k1, k2⟩ := C1.out.cells; obtain ⟨l0, l1, l2⟩ := C2.out.cells; have lf := C2.out.fz)
  have bb : Below w.heap.size w w1 := (below3 (w := w)).trans (F1.out.below (by simp only [World.size_alloc]; omega) fun k hk e => by omega)
  refine bodyPost_ret (ret_c3 rfl rfl (((C2.out.set0 X).set1 (P : Int)).set2 D)) rfl ?_
  exact ⟨rfl, ((bb.setCell (by simp) _).setCell (by simp) _).setCell (by simp) _⟩
set_option maxRecDepth 100000 in
set_option maxHeartbeats 1000000 in
theorem refPoints_call (s : Sh) (w : World) (h : In (fun b => b < w.heap.size) w s) : Calls Try.prog 54 #[.agg #[.int .i64 (s).k, .slice (s).xo (s).xn (s).xc, .slice (s).po (s).pn (s).pc]] w fun e w' => e = .returned (.int .i64 (ptsN (s.flat 1) : Nat)) ∧ Below w.heap.size w w' := by
  have B1 := hid (Bx.new w s)
  obtain ⟨x0, x1, x2⟩ := B1.out.cells
  have C := hid (of_call s (w.alloc (.cells #[.int .i64 (s).k, .slice (s).xo (s).xn (s).xc, .slice (s).po (s).pn (s).pc] 45)) (h.grow (ext1 _)))
  clear h
  generalize ptsN (s.flat 1) = X at *
  generalize partsN (s.flat 1) = P at *
  generalize depthN (s.flat 1) = D at *
  have FX : ∀ W, (Instr.field 96 (.agg #[.int .i64 (X : Int), .int .i64 (P : Int), .int .i64 (D : Int)]) 0).run Try.prog W = .ok (.int .i64 (X : Int)) W := fun W => by kernel_rfl
  go_enter Try.func54, Try.ntmps54
  go_wp2_with (go_at_call 71; refine C.out.mono ?_; rintro e w1 ⟨rfl, hb1⟩; have H1 := hid hb1; clear hb1)
  go_ret
  exact ⟨rfl, gt (ext1 _) H1.out⟩
set_option maxRecDepth 100000 in
set_option maxHeartbeats 1000000 in
theorem refParts_call (s : Sh) (w : World) (h : In (fun b => b < w.heap.size) w s) : Calls Try.prog 55 #[.agg #[.int .i64 (s).k, .slice (s).xo (s).xn (s).xc, .slice (s).po (s).pn (s).pc]] w fun e w' => e = .returned (.int .i64 (partsN (s.flat 1) : Nat)) ∧ Below w.heap.size w w' := by
  have B1 := hid (Bx.new w s)
  obtain ⟨x0, x1, x2⟩ := B1.out.cells
  have C := hid (of_call s (w.alloc (.cells #[.int .i64 (s).k, .slice (s).xo (s).xn (s).xc, .slice (s).po (s).pn (s).pc] 45)) (h.grow (ext1 _)))
  clear h
  generalize ptsN (s.flat 1) = X at *
  generalize partsN (s.flat 1) = P at *
  generalize depthN (s.flat 1) = D at *
  have FX : ∀ W, (Instr.field 96 (.agg #[.int .i64 (X : Int), .int .i64 (P : Int), .int .i64 (D : Int)]) 1).run Try.prog W = .ok (.int .i64 (P : Int)) W := fun W => by kernel_rfl
  go_enter Try.func55, Try.ntmps55
  go_wp2_with (go_at_call 71; refine C.out.mono ?_; rintro e w1 ⟨rfl, hb1⟩; have H1 := hid hb1; clear hb1)
  go_ret
  exact ⟨rfl, gt (ext1 _) H1.out⟩
set_option maxRecDepth 100000 in
set_option maxHeartbeats 1000000 in
theorem refDepth_call (s : Sh) (w : World) (h : In (fun b => b < w.heap.size) w s) : Calls Try.prog 56 #[.agg #[.int .i64 (s).k, .slice (s).xo (s).xn (s).xc, .slice (s).po (s).pn (s).pc]] w fun e w' => e = .returned (.int .i64 (depthN (s.flat 1) : Nat)) ∧ Below w.heap.size w w' := by
  have B1 := hid (Bx.new w s)
  obtain ⟨x0, x1, x2⟩ := B1.out.cells
  have C := hid (of_call s (w.alloc (.cells #[.int .i64 (s).k, .slice (s).xo (s).xn (s).xc, .slice (s).po (s).pn (s).pc] 45)) (h.grow (ext1 _)))
  clear h
  generalize ptsN (s.flat 1) = X at *
  generalize partsN (s.flat 1) = P at *
  generalize depthN (s.flat 1) = D at *
  have FX : ∀ W, (Instr.field 96 (.agg #[.int .i64 (X : Int), .int .i64 (P : Int), .int .i64 (D : Int)]) 2).run Try.prog W = .ok (.int .i64 (D : Int)) W := fun W => by kernel_rfl
  go_enter Try.func56, Try.ntmps56
  go_wp2_with (go_at_call 71; refine C.out.mono ?_; rintro e w1 ⟨rfl, hb1⟩; have H1 := hid hb1; clear hb1)
  go_ret
  exact ⟨rfl, gt (ext1 _) H1.out⟩
/-- May a shape be gone over without a bound? -/
def lightB (s : Sh) : Bool := decide (ptsN (s.flat 1) ≤ 4000) && (decide (partsN (s.flat 1) ≤ 1000) && decide (depthN (s.flat 1) ≤ 16))
set_option maxRecDepth 100000 in
set_option maxHeartbeats 2000000 in
theorem light_call (s : Sh) (w : World) (h : In (fun b => b < w.heap.size) w s) : Calls Try.prog 26 #[.agg #[.int .i64 (s).k, .slice (s).xo (s).xn (s).xc, .slice (s).po (s).pn (s).pc]] w fun e w' => e = .returned (.bool (lightB s)) ∧ Below w.heap.size w w' := by
  have B1 := hid (Bx.new w s)
  obtain ⟨x0, x1, x2⟩ := B1.out.cells
  have b0 : Hid (Below w.heap.size w (w.alloc (.cells #[.int .i64 (s).k, .slice (s).xo (s).xn (s).xc, .slice (s).po (s).pn (s).pc] 45))) := hid (ext1 _)
  have CX := hid (fun W (hb : Below w.heap.size w W) => refPoints_call s W (h.grow hb))
  have CP := hid (fun W (hb : Below w.heap.size w W) => refParts_call s W (h.grow hb))
  have CD := hid (fun W (hb : Below w.heap.size w W) => refDepth_call s W (h.grow hb))
  have HL := hid (show lightB s = (decide (ptsN (s.flat 1) ≤ 4000) && (decide (partsN (s.flat 1) ≤ 1000) && decide (depthN (s.flat 1) ≤ 16))) from rfl)
  clear h
  generalize lightB s = L at *
  generalize ptsN (s.flat 1) = X at *
  generalize partsN (s.flat 1) = P at *
  generalize depthN (s.flat 1) = D at *
  by_cases h1 : X ≤ 4000
  · by_cases h2 : P ≤ 1000
    · by_cases h3 : D ≤ 16
      · have e : L = true := by rw [HL.out]; simp; omega
        rw [e]
        clear HL e
        have h1' : (X : Int) ≤ 4000 := by omega
        have h2' : (P : Int) ≤ 1000 := by omega
        have h3' : (D : Int) ≤ 16 := by omega
        go_enter Try.func26, Try.ntmps26
        go_wp2_with (first
            | (go_at_call 54; refine (CX.out _ b0.out).mono ?_; rintro e w1 ⟨rfl, hb1⟩; have H1 := hid hb1; clear hb1; have D1 := hid (B1.out.keep H1.out); obtain ⟨y10, y11, y12⟩ := D1.out.cells; have K1 := hid (gt b0.out H1.out))
            | (go_at_call 55; refine (CP.out _ K1.out).mono ?_; rintro e w2 ⟨rfl, hb2⟩; have H2 := hid hb2; clear hb2; have D2 := hid (D1.out.keep H2.out); obtain ⟨y20, y21, y22⟩ := D2.out.cells; have K2 := hid (gt K1.out H2.out))
            | (go_at_call 56; refine (CD.out _ K2.out).mono ?_; rintro e w3 ⟨rfl, hb3⟩; have H3 := hid hb3; clear hb3; have D3 := hid (D2.out.keep H3.out); obtain ⟨y30, y31, y32⟩ := D3.out.cells; have K3 := hid (gt K2.out H3.out)))
        go_ret
        exact ⟨rfl, K3.out⟩
      · have e : L = false := by rw [HL.out]; simp; omega
        rw [e]
        clear HL e
        have h1' : (X : Int) ≤ 4000 := by omega
        have h2' : (P : Int) ≤ 1000 := by omega
        have h3' : (16 : Int) < (D : Int) := by omega
        go_enter Try.func26, Try.ntmps26
        go_wp2_with (first
            | (go_at_call 54; refine (CX.out _ b0.out).mono ?_; rintro e w1 ⟨rfl, hb1⟩; have H1 := hid hb1; clear hb1; have D1 := hid (B1.out.keep H1.out); obtain ⟨y10, y11, y12⟩ := D1.out.cells; have K1 := hid (gt b0.out H1.out))
            | (go_at_call 55; refine (CP.out _ K1.out).mono ?_; rintro e w2 ⟨rfl, hb2⟩; have H2 := hid hb2; clear hb2; have D2 := hid (D1.out.keep H2.out); obtain ⟨y20, y21, y22⟩ := D2.out.cells; have K2 := hid (gt K1.out H2.out))
            | (go_at_call 56; refine (CD.out _ K2.out).mono ?_; rintro e w3 ⟨rfl, hb3⟩; have H3 := hid hb3; clear hb3; have D3 := hid (D2.out.keep H3.out); obtain ⟨y30, y31, y32⟩ := D3.out.cells; have K3 := hid (gt K2.out H3.out)))
        go_ret
        exact ⟨by simp; omega, K3.out⟩
    · have e : L = false := by rw [HL.out]; simp; omega
      rw [e]
      clear HL e
      have h1' : (X : Int) ≤ 4000 := by omega
      have h2' : (1000 : Int) < (P : Int) := by omega
      go_enter Try.func26, Try.ntmps26
      go_wp2_with (first
          | (go_at_call 54; refine (CX.out _ b0.out).mono ?_; rintro e w1 ⟨rfl, hb1⟩; have H1 := hid hb1; clear hb1; have D1 := hid (B1.out.keep H1.out); obtain ⟨y10, y11, y12⟩ := D1.out.cells; have K1 := hid (gt b0.out H1.out))
          | (go_at_call 55; refine (CP.out _ K1.out).mono ?_; rintro e w2 ⟨rfl, hb2⟩; have H2 := hid hb2; clear hb2; have D2 := hid (D1.out.keep H2.out); obtain ⟨y20, y21, y22⟩ := D2.out.cells; have K2 := hid (gt K1.out H2.out)))
      go_ret
      exact ⟨rfl, K2.out⟩
  · have e : L = false := by rw [HL.out]; simp; omega
    rw [e]
    clear HL e
    have h1' : (4000 : Int) < (X : Int) := by omega
    go_enter Try.func26, Try.ntmps26
    go_wp2_with (first
        | (go_at_call 54; refine (CX.out _ b0.out).mono ?_; rintro e w1 ⟨rfl, hb1⟩; have H1 := hid hb1; clear hb1; have D1 := hid (B1.out.keep H1.out); obtain ⟨y10, y11, y12⟩ := D1.out.cells; have K1 := hid (gt b0.out H1.out)))
    go_ret
    exact ⟨rfl, K1.out⟩
end Go.Proofs.Ytjlahomjhadnkaa
