/- The document's Good, Has and Union; no statement of the seat is proved here. -/
import Derived.Test.YtpmfedimjjifaaaGreatDoorJ14
import Derived.Test.YtpmfedimjjifaaaGreatDoorJ16
namespace Go.Proofs.YtpmfedimjjifaaaGreatDoor
namespace Bxs
open Go.RowKit Go.Maps

def hasR (r : Rect) : Bool := goodR r && !r.n
set_option maxRecDepth 100000 in
theorem has_or (r : Rect) : (orR r).n = !hasR r := by
  unfold hasR orR
  cases hg : goodR r <;> simp [noR]
set_option maxRecDepth 100000 in
theorem or_has' {r : Rect} (h : hasR r = true) : orR r = r := or_of (by unfold hasR at h; simp at h; exact h.1)
set_option maxRecDepth 100000 in
theorem or_hasn {r : Rect} (h : hasR r = false) : orR r = noR := or_none (by rw [has_or, h]; rfl)
set_option maxRecDepth 100000 in
theorem has_n {r : Rect} (h : hasR r = true) : r.n = false := by unfold hasR at h; simp at h; exact h.2

set_option maxRecDepth 100000 in
set_option maxHeartbeats 1000000 in
theorem rgood_call (r : Rect) (w : World) : Calls Tryz.prog 27 #[.agg #[.bool (r).n, .int .i64 (r).lx, .int .i64 (r).ly, .int .i64 (r).hx, .int .i64 (r).hy]] w fun e w' => e = .returned (.bool (goodR r)) ∧ Below w.heap.size w w' := by
  obtain ⟨n, a, b, c, d⟩ := r
  cases n with
  | true =>
    have PE : ∀ W, (binOp .eql 27 (.agg #[.bool true, .int .i64 a, .int .i64 b, .int .i64 c, .int .i64 d]) (.agg #[.bool true, .int .i64 0, .int .i64 0, .int .i64 0, .int .i64 0])).run Tryz.prog W = .ok (.bool (goodR ⟨true, a, b, c, d⟩)) W := fun W => (box_eql ⟨true, a, b, c, d⟩ noR W).trans (by simp [goodR])
    generalize goodR ⟨true, a, b, c, d⟩ = g at *
    go_enter Tryz.func27, Tryz.ntmps27
    go_wp2
    go_ret
    exact ⟨rfl, (by repeat (first | with_reducible exact Below.refl _ _ | with_reducible assumption | with_reducible refine Below.drew ?_ | with_reducible refine below_drewN ?_ _ | with_reducible refine Below.alloc ?_ (by simp <;> omega) _ | with_reducible refine Below.setCell ?_ (by simp <;> omega) _))⟩
  | false =>
    by_cases h : a ≤ c
    · rw [show goodR ⟨false, a, b, c, d⟩ = decide (b ≤ d) by simp [goodR, h]]
      go_enter Tryz.func27, Tryz.ntmps27
      go_wp2
      go_ret
      exact ⟨rfl, (by repeat (first | with_reducible exact Below.refl _ _ | with_reducible assumption | with_reducible refine Below.drew ?_ | with_reducible refine below_drewN ?_ _ | with_reducible refine Below.alloc ?_ (by simp <;> omega) _ | with_reducible refine Below.setCell ?_ (by simp <;> omega) _))⟩
    · rw [show goodR ⟨false, a, b, c, d⟩ = false by simp [goodR, h]]
      go_enter Tryz.func27, Tryz.ntmps27
      go_wp2
      go_ret
      exact ⟨rfl, (by repeat (first | with_reducible exact Below.refl _ _ | with_reducible assumption | with_reducible refine Below.drew ?_ | with_reducible refine below_drewN ?_ _ | with_reducible refine Below.alloc ?_ (by simp <;> omega) _ | with_reducible refine Below.setCell ?_ (by simp <;> omega) _))⟩
set_option maxRecDepth 100000 in
set_option maxHeartbeats 1000000 in
theorem rhas_call (r : Rect) (w : World) : Calls Tryz.prog 72 #[.agg #[.bool (r).n, .int .i64 (r).lx, .int .i64 (r).ly, .int .i64 (r).hx, .int .i64 (r).hy]] w fun e w' => e = .returned (.bool (hasR r)) ∧ Below w.heap.size w w' := by
  have GC := hid (rgood_call r)
  have D0 := hid (B5.new w r)
  cases hg : goodR r with
  | true =>
    rw [hg] at GC
    rw [show hasR r = !r.n by simp [hasR, hg]]
    clear hg
    go_enter Tryz.func72, Tryz.ntmps72
    go_wp2_with (go_at_call 27; refine (GC.out _).mono ?_; rintro e w6 ⟨rfl, h6⟩; have hb := gt (ext1 _) h6; have D1 := D0.out.keep h6; obtain ⟨x0, x1, x2, x3, x4⟩ := D1.c; clear h6)
    go_ret
    exact ⟨rfl, (by repeat (first | with_reducible exact Below.refl _ _ | with_reducible assumption | with_reducible refine Below.drew ?_ | with_reducible refine below_drewN ?_ _ | with_reducible refine Below.alloc ?_ (by simp <;> omega) _ | with_reducible refine Below.setCell ?_ (by simp <;> omega) _))⟩
  | false =>
    rw [hg] at GC
    rw [show hasR r = false by simp [hasR, hg]]
    clear hg
    go_enter Tryz.func72, Tryz.ntmps72
    go_wp2_with (go_at_call 27; refine (GC.out _).mono ?_; rintro e w6 ⟨rfl, h6⟩; have hb := gt (ext1 _) h6; clear h6)
    go_ret
    exact ⟨rfl, (by repeat (first | with_reducible exact Below.refl _ _ | with_reducible assumption | with_reducible refine Below.drew ?_ | with_reducible refine below_drewN ?_ _ | with_reducible refine Below.alloc ?_ (by simp <;> omega) _ | with_reducible refine Below.setCell ?_ (by simp <;> omega) _))⟩
set_option maxRecDepth 100000 in
set_option maxHeartbeats 1000000 in
theorem bleast_call (a b : Int) (w : World) : Calls Tryz.prog 73 #[.int .i64 a, .int .i64 b] w fun e w' => e = .returned (.int .i64 (min a b)) ∧ Below w.heap.size w w' := by
  by_cases h : a < b
  · rw [show min a b = a by omega]
    go_enter Tryz.func73, Tryz.ntmps73
    go_wp2
    go_ret
    exact ⟨rfl, Below.refl _ _⟩
  · rw [show min a b = b by omega]
    have h' : b ≤ a := by omega
    go_enter Tryz.func73, Tryz.ntmps73
    go_wp2
    go_ret
    exact ⟨rfl, Below.refl _ _⟩
set_option maxRecDepth 100000 in
set_option maxHeartbeats 1000000 in
theorem bmost_call (a b : Int) (w : World) : Calls Tryz.prog 74 #[.int .i64 a, .int .i64 b] w fun e w' => e = .returned (.int .i64 (max a b)) ∧ Below w.heap.size w w' := by
  by_cases h : a > b
  · rw [show max a b = a by omega]
    go_enter Tryz.func74, Tryz.ntmps74
    go_wp2
    go_ret
    exact ⟨rfl, Below.refl _ _⟩
  · rw [show max a b = b by omega]
    have h' : a ≤ b := by omega
    go_enter Tryz.func74, Tryz.ntmps74
    go_wp2
    go_ret
    exact ⟨rfl, Below.refl _ _⟩
set_option maxRecDepth 100000 in
set_option maxHeartbeats 4000000 in
theorem runion_call (a b : Rect) (w : World) : Calls Tryz.prog 45 #[.agg #[.bool (a).n, .int .i64 (a).lx, .int .i64 (a).ly, .int .i64 (a).hx, .int .i64 (a).hy], .agg #[.bool (b).n, .int .i64 (b).lx, .int .i64 (b).ly, .int .i64 (b).hx, .int .i64 (b).hy]] w fun e w' => e = .returned (.agg #[.bool (uniR a b).n, .int .i64 (uniR a b).lx, .int .i64 (uniR a b).ly, .int .i64 (uniR a b).hx, .int .i64 (uniR a b).hy]) ∧ Below w.heap.size w w' := by
  have HA := rhas_call a
  have HB := rhas_call b
  have LX := hid (bleast_call a.lx b.lx)
  have LY := hid (bleast_call a.ly b.ly)
  have HX := hid (bmost_call a.hx b.hx)
  have HY := hid (bmost_call a.hy b.hy)
  have F := hid (show (fun W : World => C5 W (w.heap.size) a ∧ C5 W (w.heap.size + 1) b ∧ B5 W (w.heap.size + 1 + 1) ⟨false, 0, 0, 0, 0⟩ ∧ Below w.heap.size w W) (((w.alloc (.cells #[.bool (a).n, .int .i64 (a).lx, .int .i64 (a).ly, .int .i64 (a).hx, .int .i64 (a).hy] 27)).alloc (.cells #[.bool (b).n, .int .i64 (b).lx, .int .i64 (b).ly, .int .i64 (b).hx, .int .i64 (b).hy] 27)).alloc (.cells #[.bool false, .int .i64 0, .int .i64 0, .int .i64 0, .int .i64 0] 27)) from ⟨by exact C5.of (by repeat (first | (refine at_new ?_; first | with_reducible rfl | (simp only [World.size_alloc]; done)) | refine at_old ?_)), by exact C5.of (by repeat (first | (refine at_new ?_; first | with_reducible rfl | (simp only [World.size_alloc]; done)) | refine at_old ?_)), (by repeat (first | (refine at_new ?_; first | with_reducible rfl | (simp only [World.size_alloc]; done)) | refine at_old ?_)), (by repeat (first | with_reducible exact Below.refl _ _ | with_reducible assumption | with_reducible refine Below.drew ?_ | with_reducible refine below_drewN ?_ _ | with_reducible refine Below.alloc ?_ (by simp <;> omega) _ | with_reducible refine Below.setCell ?_ (by simp <;> omega) _))⟩)
  obtain ⟨y0_0, y0_1, y0_2, y0_3, y0_4⟩ := F.out.1
  obtain ⟨y1_0, y1_1, y1_2, y1_3, y1_4⟩ := F.out.2.1
  obtain ⟨y2_0, y2_1, y2_2, y2_3, y2_4⟩ := F.out.2.2.1.c
  have f2_0 := F.out.2.2.1.fz 0
  have f2_1 := F.out.2.2.1.fz 1
  have f2_2 := F.out.2.2.1.fz 2
  have f2_3 := F.out.2.2.1.fz 3
  have f2_4 := F.out.2.2.1.fz 4
  have hlow := F.out.2.2.2
  cases ha : hasR a with
  | false =>
    cases hb : hasR b with
    | false =>
      rw [show uniR a b = noR by rw [uni_v, or_hasn ha, or_hasn hb]; rfl]
      rw [ha] at HA
      rw [hb] at HB
      clear ha hb
      have H0 := hid HA
      have H1 := hid HB
      clear HA HB
      go_enter Tryz.func45, Tryz.ntmps45
      go_wp2_with (first | (go_at_call 72; refine (H0.out _).mono ?_; rintro e w6 ⟨rfl, h6⟩; clear y0_0 y0_1 y0_2 y0_3 y0_4 y1_0 y1_1 y1_2 y1_3 y1_4 y2_0 y2_1 y2_2 y2_3 y2_4 f2_0 f2_1 f2_2 f2_3 f2_4 hlow; have F := hid (show (fun W : World => C5 W (w.heap.size) a ∧ C5 W (w.heap.size + 1) b ∧ B5 W (w.heap.size + 1 + 1) ⟨false, 0, 0, 0, 0⟩ ∧ Below w.heap.size w W) w6 from ⟨F.out.1.keep h6, F.out.2.1.keep h6, F.out.2.2.1.keep h6, gt F.out.2.2.2 h6⟩); clear h6 H0; obtain ⟨y0_0, y0_1, y0_2, y0_3, y0_4⟩ := F.out.1; obtain ⟨y1_0, y1_1, y1_2, y1_3, y1_4⟩ := F.out.2.1; obtain ⟨y2_0, y2_1, y2_2, y2_3, y2_4⟩ := F.out.2.2.1.c; have f2_0 := F.out.2.2.1.fz 0; have f2_1 := F.out.2.2.1.fz 1; have f2_2 := F.out.2.2.1.fz 2; have f2_3 := F.out.2.2.1.fz 3; have f2_4 := F.out.2.2.1.fz 4; have hlow := F.out.2.2.2) | (go_at_call 72; refine (H1.out _).mono ?_; rintro e w6 ⟨rfl, h6⟩; clear y0_0 y0_1 y0_2 y0_3 y0_4 y1_0 y1_1 y1_2 y1_3 y1_4 y2_0 y2_1 y2_2 y2_3 y2_4 f2_0 f2_1 f2_2 f2_3 f2_4 hlow; have F := hid (show (fun W : World => C5 W (w.heap.size) a ∧ C5 W (w.heap.size + 1) b ∧ B5 W (w.heap.size + 1 + 1) ⟨false, 0, 0, 0, 0⟩ ∧ Below w.heap.size w W) w6 from ⟨F.out.1.keep h6, F.out.2.1.keep h6, F.out.2.2.1.keep h6, gt F.out.2.2.2 h6⟩); clear h6 H1; obtain ⟨y0_0, y0_1, y0_2, y0_3, y0_4⟩ := F.out.1; obtain ⟨y1_0, y1_1, y1_2, y1_3, y1_4⟩ := F.out.2.1; obtain ⟨y2_0, y2_1, y2_2, y2_3, y2_4⟩ := F.out.2.2.1.c; have f2_0 := F.out.2.2.1.fz 0; have f2_1 := F.out.2.2.1.fz 1; have f2_2 := F.out.2.2.1.fz 2; have f2_3 := F.out.2.2.1.fz 3; have f2_4 := F.out.2.2.1.fz 4; have hlow := F.out.2.2.2))
      obtain ⟨z0, z1, z2, z3, z4⟩ := (F.out.2.2.1.set (noR)).c
      simp only [noR] at z0 z1 z2 z3 z4
      exact bodyPost_ret (v := .agg #[.bool (noR).n, .int .i64 (noR).lx, .int .i64 (noR).ly, .int .i64 (noR).hx, .int .i64 (noR).hy]) (by simp [results, Tryz.results45, go_sem, noR, z0, z1, z2, z3, z4]) rfl ⟨rfl, (by repeat (first | with_reducible exact Below.refl _ _ | with_reducible assumption | with_reducible refine Below.drew ?_ | with_reducible refine below_drewN ?_ _ | with_reducible refine Below.alloc ?_ (by simp <;> omega) _ | with_reducible refine Below.setCell ?_ (by simp <;> omega) _))⟩
    | true =>
      rw [show uniR a b = b by rw [uni_v, or_hasn ha, or_has' hb]; rfl]
      rw [ha] at HA
      rw [hb] at HB
      clear ha hb
      have H0 := hid HA
      have H1 := hid HB
      have H2 := hid HA
      clear HA HB
      go_enter Tryz.func45, Tryz.ntmps45
      go_wp2_with (first | (go_at_call 72; refine (H0.out _).mono ?_; rintro e w6 ⟨rfl, h6⟩; clear y0_0 y0_1 y0_2 y0_3 y0_4 y1_0 y1_1 y1_2 y1_3 y1_4 y2_0 y2_1 y2_2 y2_3 y2_4 f2_0 f2_1 f2_2 f2_3 f2_4 hlow; have F := hid (show (fun W : World => C5 W (w.heap.size) a ∧ C5 W (w.heap.size + 1) b ∧ B5 W (w.heap.size + 1 + 1) ⟨false, 0, 0, 0, 0⟩ ∧ Below w.heap.size w W) w6 from ⟨F.out.1.keep h6, F.out.2.1.keep h6, F.out.2.2.1.keep h6, gt F.out.2.2.2 h6⟩); clear h6 H0; obtain ⟨y0_0, y0_1, y0_2, y0_3, y0_4⟩ := F.out.1; obtain ⟨y1_0, y1_1, y1_2, y1_3, y1_4⟩ := F.out.2.1; obtain ⟨y2_0, y2_1, y2_2, y2_3, y2_4⟩ := F.out.2.2.1.c; have f2_0 := F.out.2.2.1.fz 0; have f2_1 := F.out.2.2.1.fz 1; have f2_2 := F.out.2.2.1.fz 2; have f2_3 := F.out.2.2.1.fz 3; have f2_4 := F.out.2.2.1.fz 4; have hlow := F.out.2.2.2) | (go_at_call 72; refine (H1.out _).mono ?_; rintro e w6 ⟨rfl, h6⟩; clear y0_0 y0_1 y0_2 y0_3 y0_4 y1_0 y1_1 y1_2 y1_3 y1_4 y2_0 y2_1 y2_2 y2_3 y2_4 f2_0 f2_1 f2_2 f2_3 f2_4 hlow; have F := hid (show (fun W : World => C5 W (w.heap.size) a ∧ C5 W (w.heap.size + 1) b ∧ B5 W (w.heap.size + 1 + 1) ⟨false, 0, 0, 0, 0⟩ ∧ Below w.heap.size w W) w6 from ⟨F.out.1.keep h6, F.out.2.1.keep h6, F.out.2.2.1.keep h6, gt F.out.2.2.2 h6⟩); clear h6 H1; obtain ⟨y0_0, y0_1, y0_2, y0_3, y0_4⟩ := F.out.1; obtain ⟨y1_0, y1_1, y1_2, y1_3, y1_4⟩ := F.out.2.1; obtain ⟨y2_0, y2_1, y2_2, y2_3, y2_4⟩ := F.out.2.2.1.c; have f2_0 := F.out.2.2.1.fz 0; have f2_1 := F.out.2.2.1.fz 1; have f2_2 := F.out.2.2.1.fz 2; have f2_3 := F.out.2.2.1.fz 3; have f2_4 := F.out.2.2.1.fz 4; have hlow := F.out.2.2.2) | (go_at_call 72; refine (H2.out _).mono ?_; rintro e w6 ⟨rfl, h6⟩; clear y0_0 y0_1 y0_2 y0_3 y0_4 y1_0 y1_1 y1_2 y1_3 y1_4 y2_0 y2_1 y2_2 y2_3 y2_4 f2_0 f2_1 f2_2 f2_3 f2_4 hlow; have F := hid (show (fun W : World => C5 W (w.heap.size) a ∧ C5 W (w.heap.size + 1) b ∧ B5 W (w.heap.size + 1 + 1) ⟨false, 0, 0, 0, 0⟩ ∧ Below w.heap.size w W) w6 from ⟨F.out.1.keep h6, F.out.2.1.keep h6, F.out.2.2.1.keep h6, gt F.out.2.2.2 h6⟩); clear h6 H2; obtain ⟨y0_0, y0_1, y0_2, y0_3, y0_4⟩ := F.out.1; obtain ⟨y1_0, y1_1, y1_2, y1_3, y1_4⟩ := F.out.2.1; obtain ⟨y2_0, y2_1, y2_2, y2_3, y2_4⟩ := F.out.2.2.1.c; have f2_0 := F.out.2.2.1.fz 0; have f2_1 := F.out.2.2.1.fz 1; have f2_2 := F.out.2.2.1.fz 2; have f2_3 := F.out.2.2.1.fz 3; have f2_4 := F.out.2.2.1.fz 4; have hlow := F.out.2.2.2))
      obtain ⟨z0, z1, z2, z3, z4⟩ := (F.out.2.2.1.set (b)).c
      exact bodyPost_ret (v := .agg #[.bool (b).n, .int .i64 (b).lx, .int .i64 (b).ly, .int .i64 (b).hx, .int .i64 (b).hy]) (by simp [results, Tryz.results45, go_sem, z0, z1, z2, z3, z4]) rfl ⟨rfl, (by repeat (first | with_reducible exact Below.refl _ _ | with_reducible assumption | with_reducible refine Below.drew ?_ | with_reducible refine below_drewN ?_ _ | with_reducible refine Below.alloc ?_ (by simp <;> omega) _ | with_reducible refine Below.setCell ?_ (by simp <;> omega) _))⟩
  | true =>
    cases hb : hasR b with
    | false =>
      rw [show uniR a b = a by rw [uni_v, or_has' ha, or_hasn hb]; unfold uniV; rw [has_n ha]; rfl]
      rw [ha] at HA
      rw [hb] at HB
      clear ha hb
      have H0 := hid HA
      have H1 := hid HA
      have H2 := hid HB
      clear HA HB
      go_enter Tryz.func45, Tryz.ntmps45
      go_wp2_with (first | (go_at_call 72; refine (H0.out _).mono ?_; rintro e w6 ⟨rfl, h6⟩; clear y0_0 y0_1 y0_2 y0_3 y0_4 y1_0 y1_1 y1_2 y1_3 y1_4 y2_0 y2_1 y2_2 y2_3 y2_4 f2_0 f2_1 f2_2 f2_3 f2_4 hlow; have F := hid (show (fun W : World => C5 W (w.heap.size) a ∧ C5 W (w.heap.size + 1) b ∧ B5 W (w.heap.size + 1 + 1) ⟨false, 0, 0, 0, 0⟩ ∧ Below w.heap.size w W) w6 from ⟨F.out.1.keep h6, F.out.2.1.keep h6, F.out.2.2.1.keep h6, gt F.out.2.2.2 h6⟩); clear h6 H0; obtain ⟨y0_0, y0_1, y0_2, y0_3, y0_4⟩ := F.out.1; obtain ⟨y1_0, y1_1, y1_2, y1_3, y1_4⟩ := F.out.2.1; obtain ⟨y2_0, y2_1, y2_2, y2_3, y2_4⟩ := F.out.2.2.1.c; have f2_0 := F.out.2.2.1.fz 0; have f2_1 := F.out.2.2.1.fz 1; have f2_2 := F.out.2.2.1.fz 2; have f2_3 := F.out.2.2.1.fz 3; have f2_4 := F.out.2.2.1.fz 4; have hlow := F.out.2.2.2) | (go_at_call 72; refine (H1.out _).mono ?_; rintro e w6 ⟨rfl, h6⟩; clear y0_0 y0_1 y0_2 y0_3 y0_4 y1_0 y1_1 y1_2 y1_3 y1_4 y2_0 y2_1 y2_2 y2_3 y2_4 f2_0 f2_1 f2_2 f2_3 f2_4 hlow; have F := hid (show (fun W : World => C5 W (w.heap.size) a ∧ C5 W (w.heap.size + 1) b ∧ B5 W (w.heap.size + 1 + 1) ⟨false, 0, 0, 0, 0⟩ ∧ Below w.heap.size w W) w6 from ⟨F.out.1.keep h6, F.out.2.1.keep h6, F.out.2.2.1.keep h6, gt F.out.2.2.2 h6⟩); clear h6 H1; obtain ⟨y0_0, y0_1, y0_2, y0_3, y0_4⟩ := F.out.1; obtain ⟨y1_0, y1_1, y1_2, y1_3, y1_4⟩ := F.out.2.1; obtain ⟨y2_0, y2_1, y2_2, y2_3, y2_4⟩ := F.out.2.2.1.c; have f2_0 := F.out.2.2.1.fz 0; have f2_1 := F.out.2.2.1.fz 1; have f2_2 := F.out.2.2.1.fz 2; have f2_3 := F.out.2.2.1.fz 3; have f2_4 := F.out.2.2.1.fz 4; have hlow := F.out.2.2.2) | (go_at_call 72; refine (H2.out _).mono ?_; rintro e w6 ⟨rfl, h6⟩; clear y0_0 y0_1 y0_2 y0_3 y0_4 y1_0 y1_1 y1_2 y1_3 y1_4 y2_0 y2_1 y2_2 y2_3 y2_4 f2_0 f2_1 f2_2 f2_3 f2_4 hlow; have F := hid (show (fun W : World => C5 W (w.heap.size) a ∧ C5 W (w.heap.size + 1) b ∧ B5 W (w.heap.size + 1 + 1) ⟨false, 0, 0, 0, 0⟩ ∧ Below w.heap.size w W) w6 from ⟨F.out.1.keep h6, F.out.2.1.keep h6, F.out.2.2.1.keep h6, gt F.out.2.2.2 h6⟩); clear h6 H2; obtain ⟨y0_0, y0_1, y0_2, y0_3, y0_4⟩ := F.out.1; obtain ⟨y1_0, y1_1, y1_2, y1_3, y1_4⟩ := F.out.2.1; obtain ⟨y2_0, y2_1, y2_2, y2_3, y2_4⟩ := F.out.2.2.1.c; have f2_0 := F.out.2.2.1.fz 0; have f2_1 := F.out.2.2.1.fz 1; have f2_2 := F.out.2.2.1.fz 2; have f2_3 := F.out.2.2.1.fz 3; have f2_4 := F.out.2.2.1.fz 4; have hlow := F.out.2.2.2))
      obtain ⟨z0, z1, z2, z3, z4⟩ := (F.out.2.2.1.set (a)).c
      exact bodyPost_ret (v := .agg #[.bool (a).n, .int .i64 (a).lx, .int .i64 (a).ly, .int .i64 (a).hx, .int .i64 (a).hy]) (by simp [results, Tryz.results45, go_sem, z0, z1, z2, z3, z4]) rfl ⟨rfl, (by repeat (first | with_reducible exact Below.refl _ _ | with_reducible assumption | with_reducible refine Below.drew ?_ | with_reducible refine below_drewN ?_ _ | with_reducible refine Below.alloc ?_ (by simp <;> omega) _ | with_reducible refine Below.setCell ?_ (by simp <;> omega) _))⟩
    | true =>
      rw [show uniR a b = ⟨false, min a.lx b.lx, min a.ly b.ly, max a.hx b.hx, max a.hy b.hy⟩ by rw [uni_v, or_has' ha, or_has' hb]; unfold uniV; rw [has_n ha, has_n hb]; rfl]
      rw [ha] at HA
      rw [hb] at HB
      clear ha hb
      have H0 := hid HA
      have H1 := hid HA
      have H2 := hid HB
      clear HA HB
      go_enter Tryz.func45, Tryz.ntmps45
      go_wp2_with (first | (go_at_call 72; refine (H0.out _).mono ?_; rintro e w6 ⟨rfl, h6⟩; clear y0_0 y0_1 y0_2 y0_3 y0_4 y1_0 y1_1 y1_2 y1_3 y1_4 y2_0 y2_1 y2_2 y2_3 y2_4 f2_0 f2_1 f2_2 f2_3 f2_4 hlow; have F := hid (show (fun W : World => C5 W (w.heap.size) a ∧ C5 W (w.heap.size + 1) b ∧ B5 W (w.heap.size + 1 + 1) ⟨false, 0, 0, 0, 0⟩ ∧ Below w.heap.size w W) w6 from ⟨F.out.1.keep h6, F.out.2.1.keep h6, F.out.2.2.1.keep h6, gt F.out.2.2.2 h6⟩); clear h6 H0; obtain ⟨y0_0, y0_1, y0_2, y0_3, y0_4⟩ := F.out.1; obtain ⟨y1_0, y1_1, y1_2, y1_3, y1_4⟩ := F.out.2.1; obtain ⟨y2_0, y2_1, y2_2, y2_3, y2_4⟩ := F.out.2.2.1.c; have f2_0 := F.out.2.2.1.fz 0; have f2_1 := F.out.2.2.1.fz 1; have f2_2 := F.out.2.2.1.fz 2; have f2_3 := F.out.2.2.1.fz 3; have f2_4 := F.out.2.2.1.fz 4; have hlow := F.out.2.2.2) | (go_at_call 72; refine (H1.out _).mono ?_; rintro e w6 ⟨rfl, h6⟩; clear y0_0 y0_1 y0_2 y0_3 y0_4 y1_0 y1_1 y1_2 y1_3 y1_4 y2_0 y2_1 y2_2 y2_3 y2_4 f2_0 f2_1 f2_2 f2_3 f2_4 hlow; have F := hid (show (fun W : World => C5 W (w.heap.size) a ∧ C5 W (w.heap.size + 1) b ∧ B5 W (w.heap.size + 1 + 1) ⟨false, 0, 0, 0, 0⟩ ∧ Below w.heap.size w W) w6 from ⟨F.out.1.keep h6, F.out.2.1.keep h6, F.out.2.2.1.keep h6, gt F.out.2.2.2 h6⟩); clear h6 H1; obtain ⟨y0_0, y0_1, y0_2, y0_3, y0_4⟩ := F.out.1; obtain ⟨y1_0, y1_1, y1_2, y1_3, y1_4⟩ := F.out.2.1; obtain ⟨y2_0, y2_1, y2_2, y2_3, y2_4⟩ := F.out.2.2.1.c; have f2_0 := F.out.2.2.1.fz 0; have f2_1 := F.out.2.2.1.fz 1; have f2_2 := F.out.2.2.1.fz 2; have f2_3 := F.out.2.2.1.fz 3; have f2_4 := F.out.2.2.1.fz 4; have hlow := F.out.2.2.2) | (go_at_call 72; refine (H2.out _).mono ?_; rintro e w6 ⟨rfl, h6⟩; clear y0_0 y0_1 y0_2 y0_3 y0_4 y1_0 y1_1 y1_2 y1_3 y1_4 y2_0 y2_1 y2_2 y2_3 y2_4 f2_0 f2_1 f2_2 f2_3 f2_4 hlow; have F := hid (show (fun W : World => C5 W (w.heap.size) a ∧ C5 W (w.heap.size + 1) b ∧ B5 W (w.heap.size + 1 + 1) ⟨false, 0, 0, 0, 0⟩ ∧ Below w.heap.size w W) w6 from ⟨F.out.1.keep h6, F.out.2.1.keep h6, F.out.2.2.1.keep h6, gt F.out.2.2.2 h6⟩); clear h6 H2; obtain ⟨y0_0, y0_1, y0_2, y0_3, y0_4⟩ := F.out.1; obtain ⟨y1_0, y1_1, y1_2, y1_3, y1_4⟩ := F.out.2.1; obtain ⟨y2_0, y2_1, y2_2, y2_3, y2_4⟩ := F.out.2.2.1.c; have f2_0 := F.out.2.2.1.fz 0; have f2_1 := F.out.2.2.1.fz 1; have f2_2 := F.out.2.2.1.fz 2; have f2_3 := F.out.2.2.1.fz 3; have f2_4 := F.out.2.2.1.fz 4; have hlow := F.out.2.2.2))
      refine wp_region_K (S := (fun W : World => C5 W (w.heap.size) a ∧ C5 W (w.heap.size + 1) b ∧ B5 W (w.heap.size + 1 + 1) ⟨false, 0, 0, 0, 0⟩ ∧ Below w.heap.size w W)) (fun i => i == 31) (by kernel_rfl) (by exact ⟨F.out.1, F.out.2.1, F.out.2.2.1, (by repeat (first | with_reducible exact Below.refl _ _ | with_reducible assumption | with_reducible refine Below.drew ?_ | with_reducible refine below_drewN ?_ _ | with_reducible refine Below.alloc ?_ (by simp <;> omega) _ | with_reducible refine Below.setCell ?_ (by simp <;> omega) _))⟩) (fun hHeld => ?_)
      refine gkp 0 ?_
      refine gkp 1 ?_
      refine gkt 2 ?_ (h := by intro W hSw; obtain ⟨⟨y0, y1, y2, y3, y4⟩, ⟨y5, y6, y7, y8, y9⟩, _, _⟩ := hSw; go_simp; first | done | with_reducible rfl)
      refine gkp 3 ?_
      refine gkp 4 ?_
      refine gkt 5 ?_ (h := by intro W hSw; obtain ⟨⟨y0, y1, y2, y3, y4⟩, ⟨y5, y6, y7, y8, y9⟩, _, _⟩ := hSw; go_simp; first | done | with_reducible rfl)
      refine gkp 7 ?_
      refine gkp 8 ?_
      refine gkt 9 ?_ (h := by intro W hSw; obtain ⟨⟨y0, y1, y2, y3, y4⟩, ⟨y5, y6, y7, y8, y9⟩, _, _⟩ := hSw; go_simp; first | done | with_reducible rfl)
      refine gkp 10 ?_
      refine gkp 11 ?_
      refine gkt 12 ?_ (h := by intro W hSw; obtain ⟨⟨y0, y1, y2, y3, y4⟩, ⟨y5, y6, y7, y8, y9⟩, _, _⟩ := hSw; go_simp; first | done | with_reducible rfl)
      refine gkp 15 ?_
      refine gkp 16 ?_
      refine gkt 17 ?_ (h := by intro W hSw; obtain ⟨⟨y0, y1, y2, y3, y4⟩, ⟨y5, y6, y7, y8, y9⟩, _, _⟩ := hSw; go_simp; first | done | with_reducible rfl)
      refine gkp 18 ?_
      refine gkp 19 ?_
      refine gkt 20 ?_ (h := by intro W hSw; obtain ⟨⟨y0, y1, y2, y3, y4⟩, ⟨y5, y6, y7, y8, y9⟩, _, _⟩ := hSw; go_simp; first | done | with_reducible rfl)
      refine gkp 22 ?_
      refine gkp 23 ?_
      refine gkt 24 ?_ (h := by intro W hSw; obtain ⟨⟨y0, y1, y2, y3, y4⟩, ⟨y5, y6, y7, y8, y9⟩, _, _⟩ := hSw; go_simp; first | done | with_reducible rfl)
      refine gkp 25 ?_
      refine gkp 26 ?_
      refine gkt 27 ?_ (h := by intro W hSw; obtain ⟨⟨y0, y1, y2, y3, y4⟩, ⟨y5, y6, y7, y8, y9⟩, _, _⟩ := hSw; go_simp; first | done | with_reducible rfl)
      refine gk1 6 (fun K hK => ?_)
      go_simp
      go_at_call 73; refine (LX.out _).mono ?_; rintro e w6 ⟨rfl, h6⟩; have hR : (fun W : World => C5 W (w.heap.size) a ∧ C5 W (w.heap.size + 1) b ∧ B5 W (w.heap.size + 1 + 1) ⟨false, 0, 0, 0, 0⟩ ∧ Below w.heap.size w W) w6 := ⟨hHeld.1.keep h6, hHeld.2.1.keep h6, hHeld.2.2.1.keep h6, gt hHeld.2.2.2 h6⟩; clear h6
      refine hK.out _ _ hR (fun hHeld => ?_)
      clear hK K
      (try simp only [Act.put, sA, sZ, sS])
      refine gk1 13 (fun K hK => ?_)
      go_simp
      go_at_call 73; refine (LY.out _).mono ?_; rintro e w6 ⟨rfl, h6⟩; have hR : (fun W : World => C5 W (w.heap.size) a ∧ C5 W (w.heap.size + 1) b ∧ B5 W (w.heap.size + 1 + 1) ⟨false, 0, 0, 0, 0⟩ ∧ Below w.heap.size w W) w6 := ⟨hHeld.1.keep h6, hHeld.2.1.keep h6, hHeld.2.2.1.keep h6, gt hHeld.2.2.2 h6⟩; clear h6
      refine hK.out _ _ hR (fun hHeld => ?_)
      clear hK K
      (try simp only [Act.put, sA, sZ, sS])
      refine gkp 14 ?_
      refine gk1 21 (fun K hK => ?_)
      go_simp
      go_at_call 74; refine (HX.out _).mono ?_; rintro e w6 ⟨rfl, h6⟩; have hR : (fun W : World => C5 W (w.heap.size) a ∧ C5 W (w.heap.size + 1) b ∧ B5 W (w.heap.size + 1 + 1) ⟨false, 0, 0, 0, 0⟩ ∧ Below w.heap.size w W) w6 := ⟨hHeld.1.keep h6, hHeld.2.1.keep h6, hHeld.2.2.1.keep h6, gt hHeld.2.2.2 h6⟩; clear h6
      refine hK.out _ _ hR (fun hHeld => ?_)
      clear hK K
      (try simp only [Act.put, sA, sZ, sS])
      refine gk1 28 (fun K hK => ?_)
      go_simp
      go_at_call 74; refine (HY.out _).mono ?_; rintro e w6 ⟨rfl, h6⟩; have hR : (fun W : World => C5 W (w.heap.size) a ∧ C5 W (w.heap.size + 1) b ∧ B5 W (w.heap.size + 1 + 1) ⟨false, 0, 0, 0, 0⟩ ∧ Below w.heap.size w W) w6 := ⟨hHeld.1.keep h6, hHeld.2.1.keep h6, hHeld.2.2.1.keep h6, gt hHeld.2.2.2 h6⟩; have B := hR.2.2.1; obtain ⟨x0, x1, x2, x3, x4⟩ := B.c; have f0 := B.fz 0; have f1 := B.fz 1; have f2 := B.fz 2; have f3 := B.fz 3; have f4 := B.fz 4; have hb := hR.2.2.2; clear h6
      refine hK.out _ _ hR (fun hHeld => ?_)
      clear hK K
      (try simp only [Act.put, sA, sZ, sS])
      refine gkp 29 ?_
      refine gkp 30 ?_
      refine gkl 31 (fun K hK => ?_)
      go_simp
      refine hK.out _ _ ?_
      clear hK K
      (try simp only [Act.put, sA, sZ, sS])
      refine wpAnyK_done (by kernel_rfl) ?_ _
      go_wp2
      obtain ⟨z0, z1, z2, z3, z4⟩ := (B.set (⟨false, min a.lx b.lx, min a.ly b.ly, max a.hx b.hx, max a.hy b.hy⟩)).c
      simp only at z0 z1 z2 z3 z4
      exact bodyPost_ret (v := .agg #[.bool false, .int .i64 (min a.lx b.lx), .int .i64 (min a.ly b.ly), .int .i64 (max a.hx b.hx), .int .i64 (max a.hy b.hy)]) (by simp [results, Tryz.results45, go_sem, z0, z1, z2, z3, z4]) rfl ⟨rfl, (by repeat (first | with_reducible exact Below.refl _ _ | with_reducible assumption | with_reducible refine Below.drew ?_ | with_reducible refine below_drewN ?_ _ | with_reducible refine Below.alloc ?_ (by simp <;> omega) _ | with_reducible refine Below.setCell ?_ (by simp <;> omega) _))⟩
end Bxs
end Go.Proofs.YtpmfedimjjifaaaGreatDoor

/- Both sides' All, and the document's Of; no statement of the seat is proved here. -/
namespace Go.Proofs.YtpmfedimjjifaaaGreatDoor
namespace Bxs
open Go.RowKit Go.Maps

/-- A row of boxes. -/
def RB (S : Nat → Prop) (w : World) (bo : Option Addr) (l : List Rect) : Prop :=
  l = [] ∨ ∃ b off, bo = some ⟨b, off, none⟩ ∧ S b ∧ ∀ i r, l[i]? = some r → w.cell? ⟨b, off + i * 5, none⟩ = some (.bool r.n) ∧ w.cell? ⟨b, off + i * 5 + 1, none⟩ = some (.int .i64 r.lx) ∧ w.cell? ⟨b, off + i * 5 + 2, none⟩ = some (.int .i64 r.ly) ∧ w.cell? ⟨b, off + i * 5 + 3, none⟩ = some (.int .i64 r.hx) ∧ w.cell? ⟨b, off + i * 5 + 4, none⟩ = some (.int .i64 r.hy)
set_option maxRecDepth 100000 in
theorem RB.of {S T : Nat → Prop} {w w' : World} {bo : Option Addr} {l : List Rect} (h : RB S w bo l) (hb : ∀ b, S b → w'.heap[b]? = w.heap[b]? ∧ T b) : RB T w' bo l := by
  rcases h with h | ⟨b, off, e, hS, h⟩
  · exact .inl h
  · refine .inr ⟨b, off, e, (hb b hS).2, fun i p hi => ?_⟩
    have c : ∀ j, w'.cell? ⟨b, j, none⟩ = w.cell? ⟨b, j, none⟩ := fun j => World.cell?_of_block (a := ⟨b, j, none⟩) (hb b hS).1
    rw [c, c, c, c, c]; exact h i p hi
/-- The box around boxes. -/
def boxB (l : List Rect) : Rect := l.foldl uniR noR
set_option maxRecDepth 100000 in
theorem boxB_snoc (l : List Rect) (k : Nat) (p : Rect) (h : l[k]? = some p) : boxB (l.take (k + 1)) = uniR (boxB (l.take k)) p := by
  unfold boxB
  rw [List.take_add_one, h, List.foldl_append]
  rfl
set_option maxRecDepth 100000 in
theorem n_run (W : World) : (binOp .lss 3 (.int .i64 0) (.int .i64 0)).run Tryz.prog W = .ok (.bool false) W := by kernel_rfl

set_option maxRecDepth 100000 in
set_option maxHeartbeats 4000000 in
theorem rof_call (s : Sh) (w : World) (h : In (fun b => b < w.heap.size) w s) (h4 : (ptsOf s).length ≤ 4000) : Calls Tryz.prog 19 #[.agg #[.int .i64 (s).k, .slice (s).xo (s).xn (s).xc, .slice (s).po (s).pn (s).pc]] w fun e w' => e = .returned (.agg #[.bool (boxL (ptsOf s)).n, .int .i64 (boxL (ptsOf s)).lx, .int .i64 (boxL (ptsOf s)).ly, .int .i64 (boxL (ptsOf s)).hx, .int .i64 (boxL (ptsOf s)).hy]) ∧ Below w.heap.size w w' := by
  have UC := hid runion_call
  have RC := hid (fun W (hb : Below w.heap.size w W) => refAll_call _ s (Nat.le_refl _) h4 W (h.grow hb))
  have BX := hid ((Bx.new w s).keep (gt (ext1 (.cells #[.bool false, .int .i64 0, .int .i64 0, .int .i64 0, .int .i64 0] 27)) (ext1 (.cells #[.bool true, .int .i64 0, .int .i64 0, .int .i64 0, .int .i64 0] 27))))
  obtain ⟨x0, x1, x2⟩ := BX.out.cells
  obtain ⟨pts, hpts⟩ : ∃ l, Hid (l = ptsOf s) := ⟨_, hid rfl⟩
  rw [← hpts.out] at RC
  have HN := hid (show pts.length ≤ 8000 by rw [hpts.out]; omega)
  have HL := hid (show pts.length = pts.length from rfl)
  have A0 := hid (show B5 (((w.alloc (.cells #[.int .i64 (s).k, .slice (s).xo (s).xn (s).xc, .slice (s).po (s).pn (s).pc] 39)).alloc (.cells #[.bool false, .int .i64 0, .int .i64 0, .int .i64 0, .int .i64 0] 27)).alloc (.cells #[.bool true, .int .i64 0, .int .i64 0, .int .i64 0, .int .i64 0] 27)) (w.heap.size + 1 + 1) noR from (by repeat (first | (refine at_new ?_; first | with_reducible rfl | (simp only [World.size_alloc]; done)) | refine at_old ?_)))
  have S0 := hid (show B5 (((w.alloc (.cells #[.int .i64 (s).k, .slice (s).xo (s).xn (s).xc, .slice (s).po (s).pn (s).pc] 39)).alloc (.cells #[.bool false, .int .i64 0, .int .i64 0, .int .i64 0, .int .i64 0] 27)).alloc (.cells #[.bool true, .int .i64 0, .int .i64 0, .int .i64 0, .int .i64 0] 27)) (w.heap.size + 1) ⟨false, 0, 0, 0, 0⟩ from (by repeat (first | (refine at_new ?_; first | with_reducible rfl | (simp only [World.size_alloc]; done)) | refine at_old ?_)))
  clear h h4
  go_enter Tryz.func19, Tryz.ntmps19
  go_wp2_with (go_at_call 44; refine (RC.out _ (gt below2 (ext1 _))).mono ?_; rintro e v3 ⟨⟨ao, c, rfl, hz, hx⟩, h3⟩; have K3 := hid (gt (gt below2 (ext1 _)) h3); have AL0 := hid (A0.out.keep h3); have RS0 := hid (S0.out.keep h3); have XX := hid hx; clear h3 hx hz)
  have hk3 := K3.out.size
  have hAl3 := AL0.out.lt
  go_loopw [10] (fun i W => ∃ k : Nat, k ≤ pts.length ∧ i = .int .i64 (k : Int) ∧ Hid (Fr (fun i => i = w.heap.size + 1 + 1) v3 W) ∧ Hid (B5 W (w.heap.size + 1 + 1) (boxL (pts.take k))) ∧ Hid (B5 W (w.heap.size + 1) ⟨false, 0, 0, 0, 0⟩)) (fun i _ => pts.length - (intOf i).toNat)
  case atStart => exact ⟨0, by omega, rfl, hid (Fr.refl _ _), hid AL0.out, hid RS0.out⟩
  case round =>
    obtain ⟨k, hk, rfl, hb, hA, hS⟩ := hrel
    have hwr := hb.out.size
    by_cases hik : k < pts.length
    · obtain ⟨p, hp⟩ : ∃ p, pts[k]? = some p := ⟨_, List.getElem?_eq_getElem (by have := HL.out; omega)⟩
      obtain ⟨rb, off, hpo, hbl, hat⟩ := XX.out.resolve_left (by intro e; rw [e] at hp; simp at hp)
      obtain ⟨z0, z1⟩ := hat k p hp
      have CZ : ∀ j, wr.cell? ⟨rb, j, none⟩ = v3.cell? ⟨rb, j, none⟩ := fun j => World.cell?_of_block (a := ⟨rb, j, none⟩) (hb.out.blk rb hbl.2 (by have := hbl.1; simp only [World.size_alloc] at this; omega))
      rw [← CZ] at z0
      rw [← CZ] at z1
      clear CZ
      subst hpo
      have hk9 : k < 9000 := by have := HN.out; omega
      have A1 := hid (hA.out.keep (ext1 (.cells #[.int .i64 p.1, .int .i64 p.2] 25)))
      have S1 := hid (hS.out.keep (ext1 (.cells #[.int .i64 p.1, .int .i64 p.2] 25)))
      have P1 := hid (show C2 (wr.alloc (.cells #[.int .i64 p.1, .int .i64 p.2] 25)) wr.heap.size p.1 p.2 from C2.of (heap_alloc_new _ _))
      have hAl := hA.out.lt
      have hSl := hS.out.lt
      obtain ⟨y0, y1, y2, y3, y4⟩ := A1.out.c
      obtain ⟨q0, q1⟩ := P1.out
      have FS := hid (boxL_snoc pts k p hp)
      have BB := hid (hb.out.trans (Fr.alloc _ _ (.cells #[.int .i64 p.1, .int .i64 p.2] 25)))
      clear hat hp hb hA hS
      generalize boxL (pts.take k) = R at *
      go_wp2_with (go_at_call 45; refine (UC.out R (ptR p) _).mono ?_; rintro e w7 ⟨rfl, h7⟩; have A2 := hid (A1.out.keep h7); have S2 := hid (S1.out.keep h7); have B2 := hid (BB.out.trans (Fr.of_below h7)); clear h7 y0 y1 y2 y3 y4; obtain ⟨y0, y1, y2, y3, y4⟩ := A2.out.c; have f0 := A2.out.fz 0; have f1 := A2.out.fz 1; have f2 := A2.out.fz 2; have f3 := A2.out.fz 3; have f4 := A2.out.fz 4)
      go_roundw
      case measure => simp [intOf]; omega
      case rel =>
        refine ⟨k + 1, by omega, by go_num, hid ?_, hid ?_, hid (S2.out.far5 (by omega) _ _ _ _ _)⟩
        · exact B2.out.trans (((((Fr.set _ _ _ _).trans (Fr.set _ _ _ _)).trans (Fr.set _ _ _ _)).trans (Fr.set _ _ _ _)).trans (Fr.set _ _ _ _))
        · rw [FS.out]; exact A2.out.set _
    · have hkn : k = pts.length := by omega
      have hA1 := hA.out
      rw [hkn, show pts.take pts.length = pts by rw [List.take_length]] at hA1
      clear hkn
      have hAl := hA.out.lt
      have hSl := hS.out.lt
      obtain ⟨y0, y1, y2, y3, y4⟩ := hA1.c
      obtain ⟨u0, u1, u2, u3, u4⟩ := hS.out.c
      have f0 := hS.out.fz 0; have f1 := hS.out.fz 1; have f2 := hS.out.fz 2; have f3 := hS.out.fz 3; have f4 := hS.out.fz 4
      have KE := show Below w.heap.size w wr from K3.out.trans (hb.out.below hk3 (fun k hk e => by omega))
      clear hA1 hA hb
      go_wp2
      obtain ⟨z0, z1, z2, z3, z4⟩ := (hS.out.set (boxL pts)).c
      exact bodyPost_ret (v := .agg #[.bool (boxL pts).n, .int .i64 (boxL pts).lx, .int .i64 (boxL pts).ly, .int .i64 (boxL pts).hx, .int .i64 (boxL pts).hy]) (by simp [results, Tryz.results19, go_sem, z0, z1, z2, z3, z4]) rfl ⟨by rw [hpts.out], (by repeat (first | with_reducible exact Below.refl _ _ | with_reducible assumption | with_reducible refine Below.drew ?_ | with_reducible refine below_drewN ?_ _ | with_reducible refine Below.alloc ?_ (by simp <;> omega) _ | with_reducible refine Below.setCell ?_ (by simp <;> omega) _))⟩
end Bxs
end Go.Proofs.YtpmfedimjjifaaaGreatDoor
