/- The program's around, Good, orNone and Union; no statement of the seat is proved here. -/
import Derived.Test.YtjlahomjhadnkaaCa
import Derived.Test.YtjlahomjhadnkaaKk
namespace Go.Proofs.Ytjlahomjhadnkaa
open Go.RowKit Go.Maps

/-- The least box about two points. -/
def arR (a b c d : Int) : Rect := ⟨false, min a c, min b d, max a c, max b d⟩
/-- May it be a box? -/
def goodR (r : Rect) : Bool := if r.n then eqR r noR else decide (r.lx ≤ r.hx) && decide (r.ly ≤ r.hy)
theorem good_ar (r : Rect) (h : r.n = false) : eqR r (arR r.lx r.ly r.hx r.hy) = goodR r := by
  obtain ⟨n, a, b, c, d⟩ := r
  simp only at h
  subst h
  rw [Bool.eq_iff_iff, eqR_iff]
  simp [goodR, arR]
  omega
def orR (r : Rect) : Rect := if goodR r then r else noR
def uniR (a b : Rect) : Rect := if (orR a).n then orR b else if (orR b).n then orR a else ⟨false, min (orR a).lx (orR b).lx, min (orR a).ly (orR b).ly, max (orR a).hx (orR b).hx, max (orR a).hy (orR b).hy⟩

set_option maxRecDepth 100000 in
set_option maxHeartbeats 4000000 in
theorem around_call (a b c d : Int) (w : World) : Calls Try.prog 42 #[.agg #[.int .i64 a, .int .i64 b], .agg #[.int .i64 c, .int .i64 d]] w fun e w' => e = .returned (.agg #[.bool false, .int .i64 (min a c), .int .i64 (min b d), .int .i64 (max a c), .int .i64 (max b d)]) ∧ Below w.heap.size w w' := by
  have LC := hid low_call
  have HC := hid high_call
  go_enter Try.func42, Try.ntmps42
  go_wp2
  refine wp_region_K (S := (fun W : World => C2 W (w.heap.size) a b ∧ C2 W (w.heap.size + 1) c d ∧ B5 W (w.heap.size + 1 + 1) ⟨false, 0, 0, 0, 0⟩ ∧ Below w.heap.size w W)) (fun i => i == 7) (by kernel_rfl) (⟨by exact C2.of (by repeat (first | (refine at_new ?_; first | with_reducible rfl | (simp only [World.size_alloc]; done)) | refine at_old ?_)), by exact C2.of (by repeat (first | (refine at_new ?_; first | with_reducible rfl | (simp only [World.size_alloc]; done)) | refine at_old ?_)), (by repeat (first | (refine at_new ?_; first | with_reducible rfl | (simp only [World.size_alloc]; done)) | refine at_old ?_)), (by repeat (first | with_reducible exact Below.refl _ _ | with_reducible assumption | with_reducible refine Below.drew ?_ | with_reducible refine below_drewN ?_ _ | with_reducible refine Below.alloc ?_ (by simp <;> omega) _ | with_reducible refine Below.setCell ?_ (by simp <;> omega) _))⟩) (fun hHeld => ?_)
  refine gkt 0 ?_ (h := by intro W hSw; obtain ⟨⟨y0, y1⟩, ⟨y2, y3⟩, _, _⟩ := hSw; go_simp; first | done | with_reducible rfl)
  refine gkt 1 ?_ (h := by intro W hSw; obtain ⟨⟨y0, y1⟩, ⟨y2, y3⟩, _, _⟩ := hSw; go_simp; first | done | with_reducible rfl)
  refine gkt 3 ?_ (h := by intro W hSw; obtain ⟨⟨y0, y1⟩, ⟨y2, y3⟩, _, _⟩ := hSw; go_simp; first | done | with_reducible rfl)
  refine gkt 4 ?_ (h := by intro W hSw; obtain ⟨⟨y0, y1⟩, ⟨y2, y3⟩, _, _⟩ := hSw; go_simp; first | done | with_reducible rfl)
  refine gk1 2 (fun K hK => ?_)
  go_simp
  go_at_call 44; refine (LC.out _ _ _ _ _).mono ?_; rintro e w6 ⟨rfl, h6⟩; have hR : (fun W : World => C2 W (w.heap.size) a b ∧ C2 W (w.heap.size + 1) c d ∧ B5 W (w.heap.size + 1 + 1) ⟨false, 0, 0, 0, 0⟩ ∧ Below w.heap.size w W) w6 := ⟨hHeld.1.keep h6, hHeld.2.1.keep h6, hHeld.2.2.1.keep h6, gt hHeld.2.2.2 h6⟩; clear h6
  refine hK.out _ _ hR (fun hHeld => ?_)
  clear hK K
  (try simp only [Act.put, sA, sZ, sS])
  refine gk1 5 (fun K hK => ?_)
  go_simp
  go_at_call 45; refine (HC.out _ _ _ _ _).mono ?_; rintro e w6 ⟨rfl, h6⟩; have hR : (fun W : World => C2 W (w.heap.size) a b ∧ C2 W (w.heap.size + 1) c d ∧ B5 W (w.heap.size + 1 + 1) ⟨false, 0, 0, 0, 0⟩ ∧ Below w.heap.size w W) w6 := ⟨hHeld.1.keep h6, hHeld.2.1.keep h6, hHeld.2.2.1.keep h6, gt hHeld.2.2.2 h6⟩; have B := hR.2.2.1; obtain ⟨x0, x1, x2, x3, x4⟩ := B.c; have f0 := B.fz 0; have f1 := B.fz 1; have f2 := B.fz 2; have f3 := B.fz 3; have f4 := B.fz 4; have hb := hR.2.2.2; clear h6
  refine hK.out _ _ hR (fun hHeld => ?_)
  clear hK K
  (try simp only [Act.put, sA, sZ, sS])
  refine gkp 6 ?_
  refine gkl 7 (fun K hK => ?_)
  go_simp
  refine hK.out _ _ ?_
  clear hK K
  (try simp only [Act.put, sA, sZ, sS])
  refine wpAnyK_done (by kernel_rfl) ?_ _
  go_wp2
  obtain ⟨z0, z1, z2, z3, z4⟩ := (B.set (⟨false, min a c, min b d, max a c, max b d⟩)).c
  simp only at z0 z1 z2 z3 z4
  exact bodyPost_ret (v := .agg #[.bool false, .int .i64 (min a c), .int .i64 (min b d), .int .i64 (max a c), .int .i64 (max b d)]) (by simp [results, Try.results42, go_sem, z0, z1, z2, z3, z4]) rfl ⟨rfl, (by repeat (first | with_reducible exact Below.refl _ _ | with_reducible assumption | with_reducible refine Below.drew ?_ | with_reducible refine below_drewN ?_ _ | with_reducible refine Below.alloc ?_ (by simp <;> omega) _ | with_reducible refine Below.setCell ?_ (by simp <;> omega) _))⟩
set_option maxRecDepth 100000 in
set_option maxHeartbeats 4000000 in
theorem good_v (n : Bool) (a b c d : Int) (w : World) : Calls Try.prog 10 #[.agg #[.bool n, .int .i64 (a), .int .i64 (b), .int .i64 (c), .int .i64 (d)]] w fun e w' => e = .returned (.bool (goodR ⟨n, a, b, c, d⟩)) ∧ Below w.heap.size w w' := by
  have NC := hid none_call
  have AC := hid (around_call a b c d)
  cases n with
  | true =>
    have PE : ∀ W, (binOp .eql 25 (.agg #[.bool true, .int .i64 (a), .int .i64 (b), .int .i64 (c), .int .i64 (d)]) (.agg #[.bool true, .int .i64 (0), .int .i64 (0), .int .i64 (0), .int .i64 (0)])).run Try.prog W = .ok (.bool (goodR ⟨true, a, b, c, d⟩)) W := fun W => (box_eql ⟨true, a, b, c, d⟩ noR W).trans (by simp [goodR])
    generalize goodR ⟨true, a, b, c, d⟩ = g at *
    go_enter Try.func10, Try.ntmps10
    go_wp2
    refine wp_region_K (S := (fun W : World => C5 W (w.heap.size) ⟨true, a, b, c, d⟩ ∧ Below w.heap.size w W)) (fun _ => false) (by kernel_rfl) (⟨by exact C5.of (by repeat (first | (refine at_new ?_; first | with_reducible rfl | (simp only [World.size_alloc]; done)) | refine at_old ?_)), (by repeat (first | with_reducible exact Below.refl _ _ | with_reducible assumption | with_reducible refine Below.drew ?_ | with_reducible refine below_drewN ?_ _ | with_reducible refine Below.alloc ?_ (by simp <;> omega) _ | with_reducible refine Below.setCell ?_ (by simp <;> omega) _))⟩) (fun hHeld => ?_)
    refine gkt 0 ?_ (h := by intro W hSw; obtain ⟨⟨y0, y1, y2, y3, y4⟩, _⟩ := hSw; go_simp; first | done | with_reducible rfl)
    refine gk1 1 (fun K hK => ?_)
    go_simp
    go_at_call 36; refine (NC.out _).mono ?_; rintro e w6 ⟨rfl, h6⟩; have hR : (fun W : World => C5 W (w.heap.size) ⟨true, a, b, c, d⟩ ∧ Below w.heap.size w W) w6 := ⟨hHeld.1.keep h6, gt hHeld.2 h6⟩; have hb := hR.2; clear h6
    refine hK.out _ _ hR (fun hHeld => ?_)
    clear hK K
    (try simp only [Act.put, sA, sZ, sS])
    refine gkp 2 ?_ (v := .bool g) (h := by intro W hSw; go_simp; first | done | with_reducible rfl)
    refine gkp 3 ?_
    refine wpAnyK_done (by kernel_rfl) ?_ _
    go_wp2
    go_ret
    exact ⟨rfl, (by repeat (first | with_reducible exact Below.refl _ _ | with_reducible assumption | with_reducible refine Below.drew ?_ | with_reducible refine below_drewN ?_ _ | with_reducible refine Below.alloc ?_ (by simp <;> omega) _ | with_reducible refine Below.setCell ?_ (by simp <;> omega) _))⟩
  | false =>
    have PE : ∀ W, (binOp .eql 25 (.agg #[.bool false, .int .i64 (a), .int .i64 (b), .int .i64 (c), .int .i64 (d)]) (.agg #[.bool false, .int .i64 (min a c), .int .i64 (min b d), .int .i64 (max a c), .int .i64 (max b d)])).run Try.prog W = .ok (.bool (goodR ⟨false, a, b, c, d⟩)) W := fun W => (box_eql ⟨false, a, b, c, d⟩ ⟨false, min a c, min b d, max a c, max b d⟩ W).trans (by rw [show eqR ⟨false, a, b, c, d⟩ ⟨false, min a c, min b d, max a c, max b d⟩ = goodR ⟨false, a, b, c, d⟩ from good_ar ⟨false, a, b, c, d⟩ rfl])
    generalize goodR ⟨false, a, b, c, d⟩ = g at *
    go_enter Try.func10, Try.ntmps10
    go_wp2
    refine wp_region_K (S := (fun W : World => C5 W (w.heap.size) ⟨false, a, b, c, d⟩ ∧ Below w.heap.size w W)) (fun _ => false) (by kernel_rfl) (⟨by exact C5.of (by repeat (first | (refine at_new ?_; first | with_reducible rfl | (simp only [World.size_alloc]; done)) | refine at_old ?_)), (by repeat (first | with_reducible exact Below.refl _ _ | with_reducible assumption | with_reducible refine Below.drew ?_ | with_reducible refine below_drewN ?_ _ | with_reducible refine Below.alloc ?_ (by simp <;> omega) _ | with_reducible refine Below.setCell ?_ (by simp <;> omega) _))⟩) (fun hHeld => ?_)
    refine gkt 0 ?_ (h := by intro W hSw; obtain ⟨⟨y0, y1, y2, y3, y4⟩, _⟩ := hSw; go_simp; first | done | with_reducible rfl)
    refine gkp 1 ?_
    refine gkt 2 ?_ (h := by intro W hSw; obtain ⟨⟨y0, y1, y2, y3, y4⟩, _⟩ := hSw; go_simp; first | done | with_reducible rfl)
    refine gkp 3 ?_
    refine gkt 4 ?_ (h := by intro W hSw; obtain ⟨⟨y0, y1, y2, y3, y4⟩, _⟩ := hSw; go_simp; first | done | with_reducible rfl)
    refine gk1 5 (fun K hK => ?_)
    go_simp
    go_at_call 42; refine (AC.out _).mono ?_; rintro e w6 ⟨rfl, h6⟩; have hR : (fun W : World => C5 W (w.heap.size) ⟨false, a, b, c, d⟩ ∧ Below w.heap.size w W) w6 := ⟨hHeld.1.keep h6, gt hHeld.2 h6⟩; have hb := hR.2; clear h6
    refine hK.out _ _ hR (fun hHeld => ?_)
    clear hK K
    (try simp only [Act.put, sA, sZ, sS])
    refine gkp 6 ?_ (v := .bool g) (h := by intro W hSw; go_simp; first | done | with_reducible rfl)
    refine gkp 7 ?_
    refine wpAnyK_done (by kernel_rfl) ?_ _
    go_wp2
    go_ret
    exact ⟨rfl, (by repeat (first | with_reducible exact Below.refl _ _ | with_reducible assumption | with_reducible refine Below.drew ?_ | with_reducible refine below_drewN ?_ _ | with_reducible refine Below.alloc ?_ (by simp <;> omega) _ | with_reducible refine Below.setCell ?_ (by simp <;> omega) _))⟩
theorem good_call (r : Rect) (w : World) : Calls Try.prog 10 #[.agg #[.bool (r).n, .int .i64 (r).lx, .int .i64 (r).ly, .int .i64 (r).hx, .int .i64 (r).hy]] w fun e w' => e = .returned (.bool (goodR r)) ∧ Below w.heap.size w w' := good_v r.n r.lx r.ly r.hx r.hy w
set_option maxRecDepth 100000 in
set_option maxHeartbeats 4000000 in
theorem orNone_call (r : Rect) (w : World) : Calls Try.prog 43 #[.agg #[.bool (r).n, .int .i64 (r).lx, .int .i64 (r).ly, .int .i64 (r).hx, .int .i64 (r).hy]] w fun e w' => e = .returned (.agg #[.bool (orR r).n, .int .i64 (orR r).lx, .int .i64 (orR r).ly, .int .i64 (orR r).hx, .int .i64 (orR r).hy]) ∧ Below w.heap.size w w' := by
  have GC := hid (good_call r)
  have NC := hid none_call
  have BT := hid ((B5.new w r).keep (ext1 (.cells #[.bool false, .int .i64 0, .int .i64 0, .int .i64 0, .int .i64 0] 25)))
  have BZ : Hid (B5 ((w.alloc (.cells #[.bool (r).n, .int .i64 (r).lx, .int .i64 (r).ly, .int .i64 (r).hx, .int .i64 (r).hy] 25)).alloc (.cells #[.bool false, .int .i64 0, .int .i64 0, .int .i64 0, .int .i64 0] 25)) (w.heap.size + 1) ⟨false, 0, 0, 0, 0⟩) := hid (by repeat (first | (refine at_new ?_; first | with_reducible rfl | (simp only [World.size_alloc]; done)) | refine at_old ?_))
  obtain ⟨y0, y1, y2, y3, y4⟩ := BT.out.c
  cases hg : goodR r with
  | true =>
    rw [show orR r = r by simp [orR, hg]]
    rw [hg] at GC
    clear hg
    go_enter Try.func43, Try.ntmps43
    go_wp2_with (go_at_call 10; refine (GC.out _).mono ?_; rintro e w6 ⟨rfl, h6⟩; have hb := gt below2 h6; have C1 := BT.out.keep h6; have B1 := BZ.out.keep h6; obtain ⟨c0, c1, c2, c3, c4⟩ := C1.c; obtain ⟨x0, x1, x2, x3, x4⟩ := B1.c; have f0 := B1.fz 0; have f1 := B1.fz 1; have f2 := B1.fz 2; have f3 := B1.fz 3; have f4 := B1.fz 4)
    obtain ⟨z0, z1, z2, z3, z4⟩ := (B1.set r).c
    exact bodyPost_ret (v := .agg #[.bool (r).n, .int .i64 (r).lx, .int .i64 (r).ly, .int .i64 (r).hx, .int .i64 (r).hy]) (by simp [results, Try.results43, go_sem, z0, z1, z2, z3, z4]) rfl ⟨rfl, (by repeat (first | with_reducible exact Below.refl _ _ | with_reducible assumption | with_reducible refine Below.drew ?_ | with_reducible refine below_drewN ?_ _ | with_reducible refine Below.alloc ?_ (by simp <;> omega) _ | with_reducible refine Below.setCell ?_ (by simp <;> omega) _))⟩
  | false =>
    rw [show orR r = noR by simp [orR, hg]]
    rw [hg] at GC
    clear hg
    go_enter Try.func43, Try.ntmps43
    go_wp2_with (first | (go_at_call 10; refine (GC.out _).mono ?_; rintro e w6 ⟨rfl, h6⟩; have hb := gt below2 h6; have B1 := hid (BZ.out.keep h6)) | (go_at_call 36; refine (NC.out _).mono ?_; rintro e w7 ⟨rfl, h7⟩; have hb7 := gt hb h7; have B2 := B1.out.keep h7; obtain ⟨x0, x1, x2, x3, x4⟩ := B2.c; have f0 := B2.fz 0; have f1 := B2.fz 1; have f2 := B2.fz 2; have f3 := B2.fz 3; have f4 := B2.fz 4))
    obtain ⟨z0, z1, z2, z3, z4⟩ := (B2.set noR).c
    simp only [noR] at z0 z1 z2 z3 z4
    exact bodyPost_ret (v := .agg #[.bool (noR).n, .int .i64 (noR).lx, .int .i64 (noR).ly, .int .i64 (noR).hx, .int .i64 (noR).hy]) (by simp [results, Try.results43, go_sem, noR, z0, z1, z2, z3, z4]) rfl ⟨rfl, (by repeat (first | with_reducible exact Below.refl _ _ | with_reducible assumption | with_reducible refine Below.drew ?_ | with_reducible refine below_drewN ?_ _ | with_reducible refine Below.alloc ?_ (by simp <;> omega) _ | with_reducible refine Below.setCell ?_ (by simp <;> omega) _))⟩
end Go.Proofs.Ytjlahomjhadnkaa
