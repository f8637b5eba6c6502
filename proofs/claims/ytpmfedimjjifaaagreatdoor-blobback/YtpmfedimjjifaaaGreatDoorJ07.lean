/- What the document counts of a shape is what the program counts; no statement of the seat is proved here. -/
import Derived.Test.YtpmfedimjjifaaaGreatDoorJ06
namespace Go.Proofs.YtpmfedimjjifaaaGreatDoor
open Go.RowKit Go.Maps

set_option maxRecDepth 100000 in
theorem csL_parts (l : List (Nat × Sh)) : ∀ t, OkC t → (∀ x ∈ l, x.1 ≤ 17) → csL t l = (min 4001 (t.1 + sumX l), min 1001 (t.2.1 + l.length), l.foldl (fun a x => max a x.1) t.2.2) := by
  induction l with
  | nil =>
    intro t h _
    obtain ⟨h1, h2, h3, h4⟩ := h
    obtain ⟨X, P, D⟩ := t
    simp only at h1 h2 h3 h4
    show (X, P, D) = _
    simp only [List.foldl, sumX, List.map_nil, List.sum_nil, List.length_nil, Prod.mk.injEq]
    exact ⟨by omega, by omega, trivial⟩
  | cons a r ih =>
    intro t h hx
    have h' := h.step (hx a (by simp))
    show csL (cs1 t a) r = _
    rw [ih _ h' fun x hx' => hx x (by simp [hx'])]
    obtain ⟨h1, h2, h3, h4⟩ := h
    obtain ⟨X, P, D⟩ := t
    have e : sumX (a :: r) = a.2.xn + sumX r := by simp [sumX]
    rw [e]
    simp only [cs1, List.foldl, List.length_cons, Prod.mk.injEq] at *
    refine ⟨by omega, by omega, trivial⟩
set_option maxRecDepth 100000 in
theorem ok0 : OkC (0, -1, 0) := by unfold OkC; simp
set_option maxRecDepth 100000 in
theorem csL_flat (s : Sh) : csL (0, -1, 0) (s.flat 1) = (ptsN (s.flat 1), ((partsN (s.flat 1) : Nat) : Int), depthN (s.flat 1)) := by
  rw [csL_parts _ _ ok0 fun x hx => (flat_mem _ s 1 (Nat.le_refl _) (by omega) x hx).2.2]
  have := flat_pos s 1
  simp only [Prod.mk.injEq]
  refine ⟨by unfold ptsN; omega, by unfold partsN; omega, rfl⟩

set_option maxRecDepth 100000 in
theorem ret_c3 {fn : Func} {p : Tmp} (h : fn.results = #[.cell p 90]) {tmps : Array Value} {W : World} {q : Nat} {t' : TypeId} {a b c : Value}
    (hp : tmps.getD p undef = .pointer (some ⟨q, 0, none⟩)) (hb : W.heap[q]? = some (.cells #[a, b, c] t')) : (results fn tmps).run Tryz.prog W = .ok (.agg #[a, b, c]) W := by
  rw [results_cell1 h, hp]
  simp [asAddr, load3 Tryz.isAgg90 Tryz.sizeOf90 hb]

set_option maxRecDepth 100000 in
theorem below3 {w : World} {a b c : Obj} : Below w.heap.size w (((w.alloc a).alloc b).alloc c) := gt (gt (ext1 _) (ext1 _)) (ext1 _)
/-- What is counted, as the document has it. -/
def cnt (s : Sh) : Value := .agg #[.int .i64 (ptsN (s.flat 1) : Nat), .int .i64 (partsN (s.flat 1) : Nat), .int .i64 (depthN (s.flat 1) : Nat)]
set_option maxRecDepth 100000 in
set_option maxHeartbeats 2000000 in
theorem of_call (s : Sh) (w : World) (h : In (fun b => b < w.heap.size) w s) : Calls Tryz.prog 42 #[.agg #[.int .i64 (s).k, .slice (s).xo (s).xn (s).xc, .slice (s).po (s).pn (s).pc]] w fun e w' => e = .returned (.agg #[.int .i64 (ptsN (s.flat 1) : Nat), .int .i64 (partsN (s.flat 1) : Nat), .int .i64 (depthN (s.flat 1) : Nat)]) ∧ Below w.heap.size w w' := by
  have B1 := hid (Bx.new w s)
  obtain ⟨x0, x1, x2⟩ := B1.out.cells
  have CC := hid (fun W c (hC : CB W c (0, -1, 0)) (hI : In (fun b => b < W.heap.size ∧ b ≠ c) W s) => count_call _ s 1 (Nat.le_refl _) (by omega) c (0, -1, 0) W ok0 hC hI)
  rw [csL_flat] at CC
  have HI := hid h
  clear h
  generalize ptsN (s.flat 1) = X at *
  generalize partsN (s.flat 1) = P at *
  generalize depthN (s.flat 1) = D at *
  go_enter Tryz.func42, Tryz.ntmps42
  go_wp2_with (go_at_call 69; refine (CC.out _ (w.heap.size + 1 + 1) (show CB _ _ _ from (by repeat (first | (refine at_new ?_; first | with_reducible rfl | (simp only [World.size_alloc]; done)) | refine at_old ?_))) (HI.out.of fun b hb => ⟨(below3 (w := w)).block b hb, by simp only [World.size_alloc]; omega, by omega⟩)).mono ?_; rintro e w1 ⟨⟨v, rfl⟩, hc1, hf1⟩; have C1 := hid hc1; have F1 := hid hf1; clear hc1 hf1; have C2 := hid (show CB w1 (w.heap.size + 1) (0, 0, 0) from (F1.out.blk _ (by simp only [World.size_alloc]; omega) (by omega)).trans (by repeat (first | (refine at_new ?_; first | with_reducible rfl | (simp only [World.size_alloc]; done)) | refine at_old ?_))); obtain ⟨k0, k1, k2⟩ := C1.out.cells; obtain ⟨l0, l1, l2⟩ := C2.out.cells; have lf := C2.out.fz)
  have bb : Below w.heap.size w w1 := (below3 (w := w)).trans (F1.out.below (by simp only [World.size_alloc]; omega) fun k hk e => by omega)
  refine bodyPost_ret (ret_c3 rfl rfl (((C2.out.set0 X).set1 (P : Int)).set2 D)) rfl ?_
  exact ⟨rfl, ((bb.setCell (by simp) _).setCell (by simp) _).setCell (by simp) _⟩
/-- May a shape be gone over without a bound? -/
def lightB (s : Sh) : Bool := decide (ptsN (s.flat 1) ≤ 4000) && (decide (partsN (s.flat 1) ≤ 1000) && decide (depthN (s.flat 1) ≤ 16))
end Go.Proofs.YtpmfedimjjifaaaGreatDoor

/- What the document asks of one shape; no statement of the seat is proved here. -/
namespace Go.Proofs.YtpmfedimjjifaaaGreatDoor
open Go.RowKit Go.Maps

/-- Is a shape, without its parts' own, as the document has it? -/
def fitB (s : Sh) : Bool := if s.k = 0 then ringB s.xy && (s.ps.length == 0) else if s.k = 1 then decide (s.xy.length ≤ 1) && (s.ps.length == 0) else if s.k = 2 then !(s.xy.length == 1) && (s.ps.length == 0) else (decide (3 ≤ s.k) && decide (s.k ≤ 7)) && (s.xy.length == 0)

set_option maxRecDepth 100000 in
set_option maxHeartbeats 4000000 in
theorem fits_ring (po : Option Addr) (pn pc xc m : Nat) (b off : Nat) (a1 a2 b1 b2 : Int) (h3 : 3 ≤ m) (hI : m + 1 ≤ 9223372036854775806) (w : World) (z0 : w.cell? ⟨b, off, none⟩ = some (.int .i64 a1)) (z1 : w.cell? ⟨b, off + 1, none⟩ = some (.int .i64 a2)) (z2 : w.cell? ⟨b, off + m * 2, none⟩ = some (.int .i64 b1)) (z3 : w.cell? ⟨b, off + m * 2 + 1, none⟩ = some (.int .i64 b2)) :
    Calls Tryz.prog 70 #[.agg #[.int .i64 0, .slice (some ⟨b, off, none⟩) (m + 1) xc, .slice po pn pc]] w fun e w' => e = .returned (.bool (((a1, a2) == (b1, b2)) && (pn == 0))) ∧ Below w.heap.size w w' := by
  have hmx : Tryz.prog.follows .mixedOrders = true := follows_mixed
  have h4 : (4 : Int) ≤ (m : Int) + 1 := by omega
  have hlm : (m : Int) < (m : Int) + 1 := by omega
  have PE := point_eql a1 a2 b1 b2
  obtain ⟨OB, hOB⟩ : ∃ OB : Obj, OB = .cells #[.int .i64 0, .slice (some ⟨b, off, none⟩) (m + 1) xc, .slice po pn pc] 39 := ⟨_, rfl⟩
  replace z0 := keep_old (ext1 OB) z0
  replace z1 := keep_old (ext1 OB) z1
  replace z2 := keep_old (ext1 OB) z2
  replace z3 := keep_old (ext1 OB) z3
  have x0 : (w.alloc OB).cell? ⟨w.heap.size, 0, none⟩ = some (.int .i64 0) := by have := heap_alloc_new w OB; unfold World.cell?; rw [this, hOB]; rfl
  have x1 : (w.alloc OB).cell? ⟨w.heap.size, 1, none⟩ = some (.slice (some ⟨b, off, none⟩) (m + 1) xc) := by have := heap_alloc_new w OB; unfold World.cell?; rw [this, hOB]; rfl
  have x2 : (w.alloc OB).cell? ⟨w.heap.size, 2, none⟩ = some (.slice po pn pc) := by have := heap_alloc_new w OB; unfold World.cell?; rw [this, hOB]; rfl
  rw [hOB] at z0 z1 z2 z3 x0 x1 x2
  clear hOB
  generalize hbb : ((a1, a2) == (b1, b2)) = bb at *
  clear hbb
  have hpn : ((pn : Int) == 0) = (pn == 0) := by rw [Bool.eq_iff_iff]; simp
  cases bb with
  | false =>
    go_enter Tryz.func70, Tryz.ntmps70
    go_wp2
    refine wp_region_K (S := (fun W : World => (W.cell? ⟨w.heap.size, 1, none⟩ = some (.slice (some ⟨b, off, none⟩) (m + 1) xc) ∧ W.cell? ⟨w.heap.size, 2, none⟩ = some (.slice po pn pc)) ∧ (W.cell? ⟨b, off, none⟩ = some (.int .i64 a1) ∧ W.cell? ⟨b, off + 1, none⟩ = some (.int .i64 a2)) ∧ W.cell? ⟨b, off + m * 2, none⟩ = some (.int .i64 b1) ∧ W.cell? ⟨b, off + m * 2 + 1, none⟩ = some (.int .i64 b2))) (fun _ => false) (by kernel_rfl) (by exact ⟨⟨x1, x2⟩, ⟨z0, z1⟩, z2, z3⟩) (fun hHeld => ?_)
    refine gkp 0 ?_
    refine gkp 1 ?_
    refine gkp 2 ?_ (v := .bool true) (h := by intro W hSw; go_simp)
    refine gkp 3 ?_
    refine gkt 4 ?_ (h := by intro W hSw; obtain ⟨⟨r1, r2⟩, ⟨s0, s1⟩, s2, s3⟩ := hSw; go_simp; first | done | with_reducible rfl)
    refine gkp 5 ?_
    refine gkt 6 ?_ (h := by intro W hSw; obtain ⟨⟨r1, r2⟩, ⟨s0, s1⟩, s2, s3⟩ := hSw; go_simp; first | done | with_reducible rfl)
    refine gkp 7 ?_
    refine gkt 8 ?_ (h := by intro W hSw; obtain ⟨⟨r1, r2⟩, ⟨s0, s1⟩, s2, s3⟩ := hSw; go_simp; first | done | with_reducible rfl)
    refine gkp 9 ?_
    refine gkp 10 ?_ (v := .int .i64 (m : Int)) (h := by intro W hSw; have e : IntKind.i64.wrap (m : Int) = (m : Int) := IntWalk.i64_in _ (by omega); go_simp; first | done | with_reducible rfl | rw [e])
    refine gkp 11 ?_
    refine gkt 12 ?_ (h := by intro W hSw; obtain ⟨⟨r1, r2⟩, ⟨s0, s1⟩, s2, s3⟩ := hSw; go_simp; first | done | with_reducible rfl)
    refine gkp 13 ?_ (v := .bool false) (h := by intro W hSw; go_simp; first | done | with_reducible rfl)
    refine gkp 14 ?_
    refine gkp 15 ?_ (v := .bool false) (h := by intro W hSw; go_simp)
    refine gku 16 ?_
    refine gku 17 ?_
    refine gku 18 ?_
    refine gku 19 ?_
    refine gkp 20 ?_
    refine gkp 21 ?_
    refine wpAnyK_done (by kernel_rfl) ?_ _
    go_wp2
    go_ret
    exact ⟨rfl, undrew (ext1 _)⟩
  | true =>
    go_enter Tryz.func70, Tryz.ntmps70
    go_wp2
    refine wp_region_K (S := (fun W : World => (W.cell? ⟨w.heap.size, 1, none⟩ = some (.slice (some ⟨b, off, none⟩) (m + 1) xc) ∧ W.cell? ⟨w.heap.size, 2, none⟩ = some (.slice po pn pc)) ∧ (W.cell? ⟨b, off, none⟩ = some (.int .i64 a1) ∧ W.cell? ⟨b, off + 1, none⟩ = some (.int .i64 a2)) ∧ W.cell? ⟨b, off + m * 2, none⟩ = some (.int .i64 b1) ∧ W.cell? ⟨b, off + m * 2 + 1, none⟩ = some (.int .i64 b2))) (fun _ => false) (by kernel_rfl) (by exact ⟨⟨x1, x2⟩, ⟨z0, z1⟩, z2, z3⟩) (fun hHeld => ?_)
    refine gkp 0 ?_
    refine gkp 1 ?_
    refine gkp 2 ?_ (v := .bool true) (h := by intro W hSw; go_simp)
    refine gkp 3 ?_
    refine gkt 4 ?_ (h := by intro W hSw; obtain ⟨⟨r1, r2⟩, ⟨s0, s1⟩, s2, s3⟩ := hSw; go_simp; first | done | with_reducible rfl)
    refine gkp 5 ?_
    refine gkt 6 ?_ (h := by intro W hSw; obtain ⟨⟨r1, r2⟩, ⟨s0, s1⟩, s2, s3⟩ := hSw; go_simp; first | done | with_reducible rfl)
    refine gkp 7 ?_
    refine gkt 8 ?_ (h := by intro W hSw; obtain ⟨⟨r1, r2⟩, ⟨s0, s1⟩, s2, s3⟩ := hSw; go_simp; first | done | with_reducible rfl)
    refine gkp 9 ?_
    refine gkp 10 ?_ (v := .int .i64 (m : Int)) (h := by intro W hSw; have e : IntKind.i64.wrap (m : Int) = (m : Int) := IntWalk.i64_in _ (by omega); go_simp; first | done | with_reducible rfl | rw [e])
    refine gkp 11 ?_
    refine gkt 12 ?_ (h := by intro W hSw; obtain ⟨⟨r1, r2⟩, ⟨s0, s1⟩, s2, s3⟩ := hSw; go_simp; first | done | with_reducible rfl)
    refine gkp 13 ?_ (v := .bool true) (h := by intro W hSw; go_simp; first | done | with_reducible rfl)
    refine gkp 14 ?_
    refine gkp 15 ?_ (v := .bool true) (h := by intro W hSw; go_simp)
    refine gkp 16 ?_
    refine gkt 17 ?_ (h := by intro W hSw; obtain ⟨⟨r1, r2⟩, ⟨s0, s1⟩, s2, s3⟩ := hSw; go_simp; first | done | with_reducible rfl)
    refine gkp 18 ?_
    refine gkp 19 ?_ (v := .bool (pn == 0)) (h := by intro W hSw; go_simp; first | done | with_reducible rfl)
    refine gkp 20 ?_
    refine gkp 21 ?_
    refine wpAnyK_done (by kernel_rfl) ?_ _
    go_wp2
    go_ret
    exact ⟨by simp, undrew (ext1 _)⟩
set_option maxRecDepth 100000 in
set_option maxHeartbeats 4000000 in
theorem fits_call (S : Nat → Prop) (s : Sh) (w : World) (h : Here S w s) : Calls Tryz.prog 70 #[.agg #[.int .i64 (s).k, .slice (s).xo (s).xn (s).xc, .slice (s).po (s).pn (s).pc]] w fun e w' => e = .returned (.bool (fitB s)) ∧ Below w.heap.size w w' := by
  have hl := h.xl
  have hpl := h.pl
  have hI := h.lenI
  have B1 := hid (Bx.new w s)
  obtain ⟨x0, x1, x2⟩ := B1.out.cells
  have hmx : Tryz.prog.follows .mixedOrders = true := follows_mixed
  have hpn : ((s.pn : Int) == 0) = (s.pn == 0) := by rw [Bool.eq_iff_iff]; simp
  have hxn : ((s.xn : Int) == 0) = (s.xn == 0) := by rw [Bool.eq_iff_iff]; simp
  unfold fitB
  rw [hpl, hl]
  by_cases k0 : s.k = 0
  · rw [if_pos k0]
    by_cases h4 : 4 ≤ s.xn
    · obtain ⟨m, hm⟩ : ∃ m, s.xn = m + 1 := ⟨s.xn - 1, by omega⟩
      obtain ⟨p, hp⟩ : ∃ p, s.xy[0]? = some p := ⟨_, List.getElem?_eq_getElem (by omega)⟩
      obtain ⟨q, hq⟩ : ∃ q, s.xy[m]? = some q := ⟨_, List.getElem?_eq_getElem (by omega)⟩
      obtain ⟨b, off, hxo, hSb, hat⟩ := h.xr.resolve_left (by intro e; rw [e] at hp; simp at hp)
      obtain ⟨z0, z1⟩ := hat 0 p hp
      obtain ⟨z2, z3⟩ := hat m q hq
      rw [Nat.zero_mul, Nat.add_zero] at z0 z1
      rw [show ringB s.xy = ((p.1, p.2) == (q.1, q.2)) by
        unfold ringB
        rw [show s.xy.length - 1 = m by omega, show decide (4 ≤ s.xy.length) = true by simp; omega]
        simp [List.getD, hp, hq], k0, hxo, hm]
      exact fits_ring s.po s.pn s.pc s.xc m b off p.1 p.2 q.1 q.2 (by omega) (by omega) w z0 z1 z2 z3
    · rw [show ringB s.xy = false by unfold ringB; rw [show decide (4 ≤ s.xy.length) = false by simp; omega]; rfl]
      have h4' : (s.xn : Int) < 4 := by omega
      have n0 : (s.k == 0) = true := by simp [k0]
      clear h4 h hl k0 hpl
      go_enter Tryz.func70, Tryz.ntmps70
      go_wp2
      refine wp_region_K (S := (fun W : World => True)) (fun _ => false) (by kernel_rfl) (by exact trivial) (fun hHeld => ?_)
      refine gkp 0 ?_
      refine gkp 1 ?_
      refine gkp 2 ?_ (v := .bool false) (h := by intro W hSw; go_simp)
      refine gku 3 ?_
      refine gku 4 ?_
      refine gku 5 ?_
      refine gku 6 ?_
      refine gku 7 ?_
      refine gku 8 ?_
      refine gku 9 ?_
      refine gku 10 ?_
      refine gku 11 ?_
      refine gku 12 ?_
      refine gku 13 ?_
      refine gkp 14 ?_
      refine gkp 15 ?_ (v := .bool false) (h := by intro W hSw; go_simp)
      refine gku 16 ?_
      refine gku 17 ?_
      refine gku 18 ?_
      refine gku 19 ?_
      refine gkp 20 ?_
      refine gkp 21 ?_
      refine wpAnyK_done (by kernel_rfl) ?_ _
      go_wp2
      go_ret
      exact ⟨rfl, undrew (ext1 _)⟩
  · rw [if_neg k0]
    have n0 : (s.k == 0) = false := by simp [k0]
    clear k0
    by_cases k1 : s.k = 1
    · rw [if_pos k1]
      have n1 : (s.k == 1) = true := by simp [k1]
      clear k1
      by_cases hx : s.xn ≤ 1
      · have hx' : (s.xn : Int) ≤ 1 := by omega
        rw [show decide (s.xn ≤ 1) = true by simp [hx]]
        clear h hl hpl hx
        go_enter Tryz.func70, Tryz.ntmps70
        go_wp2
        go_ret
        exact ⟨by simp, ext1 _⟩
      · have hx' : (1 : Int) < (s.xn : Int) := by omega
        rw [show decide (s.xn ≤ 1) = false by simp; omega]
        clear h hl hpl hx
        go_enter Tryz.func70, Tryz.ntmps70
        go_wp2
        go_ret
        exact ⟨rfl, ext1 _⟩
    · rw [if_neg k1]
      have n1 : (s.k == 1) = false := by simp [k1]
      clear k1
      by_cases k2 : s.k = 2
      · rw [if_pos k2]
        have n2 : (s.k == 2) = true := by simp [k2]
        clear k2
        by_cases hx : s.xn = 1
        · have hx' : (s.xn : Int) = 1 := by omega
          rw [show (s.xn == 1) = true by simp [hx]]
          clear h hl hpl hx
          go_enter Tryz.func70, Tryz.ntmps70
          go_wp2
          go_ret
          exact ⟨rfl, ext1 _⟩
        · have hx' : ((s.xn : Int) == 1) = false := by simp; omega
          rw [show (s.xn == 1) = false by simp [hx]]
          clear h hl hpl
          go_enter Tryz.func70, Tryz.ntmps70
          go_wp2
          go_ret
          exact ⟨by simp [bne, hx'], ext1 _⟩
      · rw [if_neg k2]
        have n2 : (s.k == 2) = false := by simp [k2]
        clear k2 h hl hpl
        by_cases h3 : 3 ≤ s.k
        · by_cases h7 : s.k ≤ 7
          · rw [show decide (3 ≤ s.k) = true by simp [h3], show decide (s.k ≤ 7) = true by simp [h7]]
            go_enter Tryz.func70, Tryz.ntmps70
            go_wp2
            go_ret
            exact ⟨by simp, ext1 _⟩
          · have h7' : 7 < s.k := by omega
            rw [show decide (3 ≤ s.k) = true by simp [h3], show decide (s.k ≤ 7) = false by simp; omega]
            clear h7
            go_enter Tryz.func70, Tryz.ntmps70
            go_wp2
            go_ret
            exact ⟨rfl, ext1 _⟩
        · have h3' : s.k < 3 := by omega
          rw [show decide (3 ≤ s.k) = false by simp; omega]
          clear h3
          go_enter Tryz.func70, Tryz.ntmps70
          go_wp2
          go_ret
          exact ⟨rfl, ext1 _⟩
end Go.Proofs.YtpmfedimjjifaaaGreatDoor
