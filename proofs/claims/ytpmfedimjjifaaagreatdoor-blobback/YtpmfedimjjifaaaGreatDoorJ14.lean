/- The program's Union; no statement of the seat is proved here. -/
import Derived.Test.YtpmfedimjjifaaaGreatDoorJ13
import Derived.Test.YtpmfedimjjifaaaGreatDoorJ10
import Derived.Test.YtpmfedimjjifaaaGreatDoorJ09
namespace Go.Proofs.YtpmfedimjjifaaaGreatDoor
namespace Bxs
open Go.RowKit Go.Maps

def uniV (A B : Rect) : Rect := if A.n then B else if B.n then A else ⟨false, min A.lx B.lx, min A.ly B.ly, max A.hx B.hx, max A.hy B.hy⟩
set_option maxRecDepth 100000 in
theorem uni_v (a b : Rect) : uniR a b = uniV (orR a) (orR b) := rfl
set_option maxRecDepth 100000 in
set_option maxHeartbeats 4000000 in
theorem union_call (a b : Rect) (w : World) : Calls Tryz.prog 59 #[.agg #[.bool (a).n, .int .i64 (a).lx, .int .i64 (a).ly, .int .i64 (a).hx, .int .i64 (a).hy], .agg #[.bool (b).n, .int .i64 (b).lx, .int .i64 (b).ly, .int .i64 (b).hx, .int .i64 (b).hy]] w fun e w' => e = .returned (.agg #[.bool (uniR a b).n, .int .i64 (uniR a b).lx, .int .i64 (uniR a b).ly, .int .i64 (uniR a b).hx, .int .i64 (uniR a b).hy]) ∧ Below w.heap.size w w' := by
  have OA := hid (orNone_call a)
  have OB := hid (orNone_call b)
  have LC := hid low_call
  have HC := hid high_call
  rw [uni_v]
  generalize orR a = A at *
  generalize orR b = B at *
  obtain ⟨an, a0, a1, a2, a3⟩ := A
  obtain ⟨bn, b0, b1, b2, b3⟩ := B
  simp only at OA OB
  cases an with
  | true =>
    rw [show uniV ⟨true, a0, a1, a2, a3⟩ ⟨bn, b0, b1, b2, b3⟩ = ⟨bn, b0, b1, b2, b3⟩ from rfl]
    go_enter Tryz.func59, Tryz.ntmps59
    go_wp2
    have D0 := hid (show B5 (World.drew (((w.alloc (.cells #[.bool (a).n, .int .i64 (a).lx, .int .i64 (a).ly, .int .i64 (a).hx, .int .i64 (a).hy] 27)).alloc (.cells #[.bool (b).n, .int .i64 (b).lx, .int .i64 (b).ly, .int .i64 (b).hx, .int .i64 (b).hy] 27)).alloc (.cells #[.bool false, .int .i64 0, .int .i64 0, .int .i64 0, .int .i64 0] 27))) w.heap.size a from (by repeat (first | (refine at_new ?_; first | with_reducible rfl | (simp only [World.size_alloc]; done)) | refine at_old ?_)))
    obtain ⟨d0, d1, d2, d3, d4⟩ := D0.out.c
    refine wp_region_K (S := (fun W : World => C5 W (w.heap.size + 1) b ∧ B5 W (w.heap.size + 1) b ∧ B5 W (w.heap.size + 1 + 1) ⟨false, 0, 0, 0, 0⟩ ∧ Below w.heap.size w W)) (fun i => i == 5) (by kernel_rfl) (⟨by exact C5.of (by repeat (first | (refine at_new ?_; first | with_reducible rfl | (simp only [World.size_alloc]; done)) | refine at_old ?_)), (by repeat (first | (refine at_new ?_; first | with_reducible rfl | (simp only [World.size_alloc]; done)) | refine at_old ?_)), (by repeat (first | (refine at_new ?_; first | with_reducible rfl | (simp only [World.size_alloc]; done)) | refine at_old ?_)), (by repeat (first | with_reducible exact Below.refl _ _ | with_reducible assumption | with_reducible refine Below.drew ?_ | with_reducible refine below_drewN ?_ _ | with_reducible refine Below.alloc ?_ (by simp <;> omega) _ | with_reducible refine Below.setCell ?_ (by simp <;> omega) _))⟩) (fun hHeld => ?_)
    refine gkt 2 ?_ (h := by intro W hSw; obtain ⟨⟨y0, y1, y2, y3, y4⟩, _, _, _⟩ := hSw; go_simp; first | done | with_reducible rfl)
    refine gk1 0 (fun K hK => ?_)
    go_simp
    have hR := hHeld
    refine hK.out _ _ hR (fun hHeld => ?_)
    clear hK K
    (try simp only [Act.put, sA, sZ, sS])
    refine gk1 1 (fun K hK => ?_)
    go_simp
    go_at_call 95; refine (OA.out _).mono ?_; rintro e w6 ⟨rfl, h6⟩; have hR : (fun W : World => C5 W (w.heap.size + 1) b ∧ B5 W (w.heap.size + 1) b ∧ B5 W (w.heap.size + 1 + 1) ⟨false, 0, 0, 0, 0⟩ ∧ Below w.heap.size w W) w6 := ⟨hHeld.1.keep h6, hHeld.2.1.keep h6, hHeld.2.2.1.keep h6, gt hHeld.2.2.2 h6⟩; have D1 := hid (D0.out.keep h6); clear h6
    refine hK.out _ _ hR (fun hHeld => ?_)
    clear hK K
    (try simp only [Act.put, sA, sZ, sS])
    refine gk1 3 (fun K hK => ?_)
    go_simp
    go_at_call 95; refine (OB.out _).mono ?_; rintro e w6 ⟨rfl, h6⟩; have hR : (fun W : World => C5 W (w.heap.size + 1) b ∧ B5 W (w.heap.size + 1) b ∧ B5 W (w.heap.size + 1 + 1) ⟨false, 0, 0, 0, 0⟩ ∧ Below w.heap.size w W) w6 := ⟨hHeld.1.keep h6, hHeld.2.1.keep h6, hHeld.2.2.1.keep h6, gt hHeld.2.2.2 h6⟩; have D2 := D1.out.keep h6; obtain ⟨x0, x1, x2, x3, x4⟩ := D2.c; have f0 := D2.fz 0; have f1 := D2.fz 1; have f2 := D2.fz 2; have f3 := D2.fz 3; have f4 := D2.fz 4; have hb := hR.2.2.2; clear h6
    refine hK.out _ _ hR (fun hHeld => ?_)
    clear hK K
    (try simp only [Act.put, sA, sZ, sS])
    refine gk1 4 (fun K hK => ?_)
    go_simp
    have hR : (fun W : World => C5 W (w.heap.size + 1) b ∧ B5 W (w.heap.size + 1) b ∧ B5 W (w.heap.size + 1 + 1) ⟨false, 0, 0, 0, 0⟩ ∧ Below w.heap.size w W) (((((((((((w6).setCell ⟨w.heap.size, 0, none⟩ (.bool true))).setCell ⟨w.heap.size, 1, none⟩ (.int .i64 a0))).setCell ⟨w.heap.size, 2, none⟩ (.int .i64 a1))).setCell ⟨w.heap.size, 3, none⟩ (.int .i64 a2))).setCell ⟨w.heap.size, 4, none⟩ (.int .i64 a3))) := ⟨(hHeld.2.1.far5 (by omega) _ _ _ _ _).c, hHeld.2.1.far5 (by omega) _ _ _ _ _, hHeld.2.2.1.far5 (by omega) _ _ _ _ _, (by repeat (first | with_reducible exact Below.refl _ _ | with_reducible assumption | with_reducible refine Below.drew ?_ | with_reducible refine below_drewN ?_ _ | with_reducible refine Below.alloc ?_ (by simp <;> omega) _ | with_reducible refine Below.setCell ?_ (by simp <;> omega) _))⟩; have E1 := hR.2.1; have E2 := hR.2.2.1; obtain ⟨u0, u1, u2, u3, u4⟩ := E1.c; have g0 := E1.fz 0; have g1 := E1.fz 1; have g2 := E1.fz 2; have g3 := E1.fz 3; have g4 := E1.fz 4; have hc := hR.2.2.2
    refine hK.out _ _ hR (fun hHeld => ?_)
    clear hK K
    (try simp only [Act.put, sA, sZ, sS])
    refine gkl 5 (fun K hK => ?_)
    go_simp
    refine hK.out _ _ ?_
    clear hK K
    (try simp only [Act.put, sA, sZ, sS])
    refine wpAnyK_done (by kernel_rfl) ?_ _
    have FA : B5 (((((((((((((((((((((w6).setCell ⟨w.heap.size, 0, none⟩ (.bool true))).setCell ⟨w.heap.size, 1, none⟩ (.int .i64 a0))).setCell ⟨w.heap.size, 2, none⟩ (.int .i64 a1))).setCell ⟨w.heap.size, 3, none⟩ (.int .i64 a2))).setCell ⟨w.heap.size, 4, none⟩ (.int .i64 a3))).setCell ⟨w.heap.size + 1, 0, none⟩ (.bool bn))).setCell ⟨w.heap.size + 1, 1, none⟩ (.int .i64 b0))).setCell ⟨w.heap.size + 1, 2, none⟩ (.int .i64 b1))).setCell ⟨w.heap.size + 1, 3, none⟩ (.int .i64 b2))).setCell ⟨w.heap.size + 1, 4, none⟩ (.int .i64 b3))) (w.heap.size) ⟨true, a0, a1, a2, a3⟩ := (D2.set ⟨true, a0, a1, a2, a3⟩).far5 (by omega) _ _ _ _ _
    have FB : B5 (((((((((((((((((((((w6).setCell ⟨w.heap.size, 0, none⟩ (.bool true))).setCell ⟨w.heap.size, 1, none⟩ (.int .i64 a0))).setCell ⟨w.heap.size, 2, none⟩ (.int .i64 a1))).setCell ⟨w.heap.size, 3, none⟩ (.int .i64 a2))).setCell ⟨w.heap.size, 4, none⟩ (.int .i64 a3))).setCell ⟨w.heap.size + 1, 0, none⟩ (.bool bn))).setCell ⟨w.heap.size + 1, 1, none⟩ (.int .i64 b0))).setCell ⟨w.heap.size + 1, 2, none⟩ (.int .i64 b1))).setCell ⟨w.heap.size + 1, 3, none⟩ (.int .i64 b2))).setCell ⟨w.heap.size + 1, 4, none⟩ (.int .i64 b3))) (w.heap.size + 1) ⟨bn, b0, b1, b2, b3⟩ := E1.set ⟨bn, b0, b1, b2, b3⟩
    have FZ : B5 (((((((((((((((((((((w6).setCell ⟨w.heap.size, 0, none⟩ (.bool true))).setCell ⟨w.heap.size, 1, none⟩ (.int .i64 a0))).setCell ⟨w.heap.size, 2, none⟩ (.int .i64 a1))).setCell ⟨w.heap.size, 3, none⟩ (.int .i64 a2))).setCell ⟨w.heap.size, 4, none⟩ (.int .i64 a3))).setCell ⟨w.heap.size + 1, 0, none⟩ (.bool bn))).setCell ⟨w.heap.size + 1, 1, none⟩ (.int .i64 b0))).setCell ⟨w.heap.size + 1, 2, none⟩ (.int .i64 b1))).setCell ⟨w.heap.size + 1, 3, none⟩ (.int .i64 b2))).setCell ⟨w.heap.size + 1, 4, none⟩ (.int .i64 b3))) (w.heap.size + 1 + 1) ⟨false, 0, 0, 0, 0⟩ := E2.far5 (by omega) _ _ _ _ _
    have FW : Below w.heap.size w (((((((((((((((((((((w6).setCell ⟨w.heap.size, 0, none⟩ (.bool true))).setCell ⟨w.heap.size, 1, none⟩ (.int .i64 a0))).setCell ⟨w.heap.size, 2, none⟩ (.int .i64 a1))).setCell ⟨w.heap.size, 3, none⟩ (.int .i64 a2))).setCell ⟨w.heap.size, 4, none⟩ (.int .i64 a3))).setCell ⟨w.heap.size + 1, 0, none⟩ (.bool bn))).setCell ⟨w.heap.size + 1, 1, none⟩ (.int .i64 b0))).setCell ⟨w.heap.size + 1, 2, none⟩ (.int .i64 b1))).setCell ⟨w.heap.size + 1, 3, none⟩ (.int .i64 b2))).setCell ⟨w.heap.size + 1, 4, none⟩ (.int .i64 b3))) := (by repeat (first | with_reducible exact Below.refl _ _ | with_reducible assumption | with_reducible refine Below.drew ?_ | with_reducible refine below_drewN ?_ _ | with_reducible refine Below.alloc ?_ (by simp <;> omega) _ | with_reducible refine Below.setCell ?_ (by simp <;> omega) _))

    clear hR hHeld D0 D1 D2 E1 E2 hb hc d0 d1 d2 d3 d4 x0 x1 x2 x3 x4 u0 u1 u2 u3 u4 f0 f1 f2 f3 f4 g0 g1 g2 g3 g4
    generalize ((((((((((((((((((((w6).setCell ⟨w.heap.size, 0, none⟩ (.bool true))).setCell ⟨w.heap.size, 1, none⟩ (.int .i64 a0))).setCell ⟨w.heap.size, 2, none⟩ (.int .i64 a1))).setCell ⟨w.heap.size, 3, none⟩ (.int .i64 a2))).setCell ⟨w.heap.size, 4, none⟩ (.int .i64 a3))).setCell ⟨w.heap.size + 1, 0, none⟩ (.bool bn))).setCell ⟨w.heap.size + 1, 1, none⟩ (.int .i64 b0))).setCell ⟨w.heap.size + 1, 2, none⟩ (.int .i64 b1))).setCell ⟨w.heap.size + 1, 3, none⟩ (.int .i64 b2))).setCell ⟨w.heap.size + 1, 4, none⟩ (.int .i64 b3)) = w7 at *
    obtain ⟨x0, x1, x2, x3, x4⟩ := FA.c
    obtain ⟨u0, u1, u2, u3, u4⟩ := FB.c
    obtain ⟨v0, v1, v2, v3, v4⟩ := FZ.c
    have f0 := FZ.fz 0; have f1 := FZ.fz 1; have f2 := FZ.fz 2; have f3 := FZ.fz 3; have f4 := FZ.fz 4
    go_wp2
    obtain ⟨z0, z1, z2, z3, z4⟩ := (FZ.set (⟨bn, b0, b1, b2, b3⟩)).c
    simp only at z0 z1 z2 z3 z4
    exact bodyPost_ret (v := .agg #[.bool bn, .int .i64 (b0), .int .i64 (b1), .int .i64 (b2), .int .i64 (b3)]) (by simp [results, Tryz.results59, go_sem, z0, z1, z2, z3, z4]) rfl ⟨rfl, (by repeat (first | with_reducible exact Below.refl _ _ | with_reducible assumption | with_reducible refine Below.drew ?_ | with_reducible refine below_drewN ?_ _ | with_reducible refine Below.alloc ?_ (by simp <;> omega) _ | with_reducible refine Below.setCell ?_ (by simp <;> omega) _))⟩
  | false =>
    cases bn with
    | true =>
      rw [show uniV ⟨false, a0, a1, a2, a3⟩ ⟨true, b0, b1, b2, b3⟩ = ⟨false, a0, a1, a2, a3⟩ from rfl]
      go_enter Tryz.func59, Tryz.ntmps59
      go_wp2
      have D0 := hid (show B5 (World.drew (((w.alloc (.cells #[.bool (a).n, .int .i64 (a).lx, .int .i64 (a).ly, .int .i64 (a).hx, .int .i64 (a).hy] 27)).alloc (.cells #[.bool (b).n, .int .i64 (b).lx, .int .i64 (b).ly, .int .i64 (b).hx, .int .i64 (b).hy] 27)).alloc (.cells #[.bool false, .int .i64 0, .int .i64 0, .int .i64 0, .int .i64 0] 27))) w.heap.size a from (by repeat (first | (refine at_new ?_; first | with_reducible rfl | (simp only [World.size_alloc]; done)) | refine at_old ?_)))
      obtain ⟨d0, d1, d2, d3, d4⟩ := D0.out.c
      refine wp_region_K (S := (fun W : World => C5 W (w.heap.size + 1) b ∧ B5 W (w.heap.size + 1) b ∧ B5 W (w.heap.size + 1 + 1) ⟨false, 0, 0, 0, 0⟩ ∧ Below w.heap.size w W)) (fun i => i == 5) (by kernel_rfl) (⟨by exact C5.of (by repeat (first | (refine at_new ?_; first | with_reducible rfl | (simp only [World.size_alloc]; done)) | refine at_old ?_)), (by repeat (first | (refine at_new ?_; first | with_reducible rfl | (simp only [World.size_alloc]; done)) | refine at_old ?_)), (by repeat (first | (refine at_new ?_; first | with_reducible rfl | (simp only [World.size_alloc]; done)) | refine at_old ?_)), (by repeat (first | with_reducible exact Below.refl _ _ | with_reducible assumption | with_reducible refine Below.drew ?_ | with_reducible refine below_drewN ?_ _ | with_reducible refine Below.alloc ?_ (by simp <;> omega) _ | with_reducible refine Below.setCell ?_ (by simp <;> omega) _))⟩) (fun hHeld => ?_)
      refine gkt 2 ?_ (h := by intro W hSw; obtain ⟨⟨y0, y1, y2, y3, y4⟩, _, _, _⟩ := hSw; go_simp; first | done | with_reducible rfl)
      refine gk1 0 (fun K hK => ?_)
      go_simp
      have hR := hHeld
      refine hK.out _ _ hR (fun hHeld => ?_)
      clear hK K
      (try simp only [Act.put, sA, sZ, sS])
      refine gk1 1 (fun K hK => ?_)
      go_simp
      go_at_call 95; refine (OA.out _).mono ?_; rintro e w6 ⟨rfl, h6⟩; have hR : (fun W : World => C5 W (w.heap.size + 1) b ∧ B5 W (w.heap.size + 1) b ∧ B5 W (w.heap.size + 1 + 1) ⟨false, 0, 0, 0, 0⟩ ∧ Below w.heap.size w W) w6 := ⟨hHeld.1.keep h6, hHeld.2.1.keep h6, hHeld.2.2.1.keep h6, gt hHeld.2.2.2 h6⟩; have D1 := hid (D0.out.keep h6); clear h6
      refine hK.out _ _ hR (fun hHeld => ?_)
      clear hK K
      (try simp only [Act.put, sA, sZ, sS])
      refine gk1 3 (fun K hK => ?_)
      go_simp
      go_at_call 95; refine (OB.out _).mono ?_; rintro e w6 ⟨rfl, h6⟩; have hR : (fun W : World => C5 W (w.heap.size + 1) b ∧ B5 W (w.heap.size + 1) b ∧ B5 W (w.heap.size + 1 + 1) ⟨false, 0, 0, 0, 0⟩ ∧ Below w.heap.size w W) w6 := ⟨hHeld.1.keep h6, hHeld.2.1.keep h6, hHeld.2.2.1.keep h6, gt hHeld.2.2.2 h6⟩; have D2 := D1.out.keep h6; obtain ⟨x0, x1, x2, x3, x4⟩ := D2.c; have f0 := D2.fz 0; have f1 := D2.fz 1; have f2 := D2.fz 2; have f3 := D2.fz 3; have f4 := D2.fz 4; have hb := hR.2.2.2; clear h6
      refine hK.out _ _ hR (fun hHeld => ?_)
      clear hK K
      (try simp only [Act.put, sA, sZ, sS])
      refine gk1 4 (fun K hK => ?_)
      go_simp
      have hR : (fun W : World => C5 W (w.heap.size + 1) b ∧ B5 W (w.heap.size + 1) b ∧ B5 W (w.heap.size + 1 + 1) ⟨false, 0, 0, 0, 0⟩ ∧ Below w.heap.size w W) (((((((((((w6).setCell ⟨w.heap.size, 0, none⟩ (.bool false))).setCell ⟨w.heap.size, 1, none⟩ (.int .i64 a0))).setCell ⟨w.heap.size, 2, none⟩ (.int .i64 a1))).setCell ⟨w.heap.size, 3, none⟩ (.int .i64 a2))).setCell ⟨w.heap.size, 4, none⟩ (.int .i64 a3))) := ⟨(hHeld.2.1.far5 (by omega) _ _ _ _ _).c, hHeld.2.1.far5 (by omega) _ _ _ _ _, hHeld.2.2.1.far5 (by omega) _ _ _ _ _, (by repeat (first | with_reducible exact Below.refl _ _ | with_reducible assumption | with_reducible refine Below.drew ?_ | with_reducible refine below_drewN ?_ _ | with_reducible refine Below.alloc ?_ (by simp <;> omega) _ | with_reducible refine Below.setCell ?_ (by simp <;> omega) _))⟩; have E1 := hR.2.1; have E2 := hR.2.2.1; obtain ⟨u0, u1, u2, u3, u4⟩ := E1.c; have g0 := E1.fz 0; have g1 := E1.fz 1; have g2 := E1.fz 2; have g3 := E1.fz 3; have g4 := E1.fz 4; have hc := hR.2.2.2
      refine hK.out _ _ hR (fun hHeld => ?_)
      clear hK K
      (try simp only [Act.put, sA, sZ, sS])
      refine gkl 5 (fun K hK => ?_)
      go_simp
      refine hK.out _ _ ?_
      clear hK K
      (try simp only [Act.put, sA, sZ, sS])
      refine wpAnyK_done (by kernel_rfl) ?_ _
      have FA : B5 (((((((((((((((((((((w6).setCell ⟨w.heap.size, 0, none⟩ (.bool false))).setCell ⟨w.heap.size, 1, none⟩ (.int .i64 a0))).setCell ⟨w.heap.size, 2, none⟩ (.int .i64 a1))).setCell ⟨w.heap.size, 3, none⟩ (.int .i64 a2))).setCell ⟨w.heap.size, 4, none⟩ (.int .i64 a3))).setCell ⟨w.heap.size + 1, 0, none⟩ (.bool true))).setCell ⟨w.heap.size + 1, 1, none⟩ (.int .i64 b0))).setCell ⟨w.heap.size + 1, 2, none⟩ (.int .i64 b1))).setCell ⟨w.heap.size + 1, 3, none⟩ (.int .i64 b2))).setCell ⟨w.heap.size + 1, 4, none⟩ (.int .i64 b3))) (w.heap.size) ⟨false, a0, a1, a2, a3⟩ := (D2.set ⟨false, a0, a1, a2, a3⟩).far5 (by omega) _ _ _ _ _
      have FB : B5 (((((((((((((((((((((w6).setCell ⟨w.heap.size, 0, none⟩ (.bool false))).setCell ⟨w.heap.size, 1, none⟩ (.int .i64 a0))).setCell ⟨w.heap.size, 2, none⟩ (.int .i64 a1))).setCell ⟨w.heap.size, 3, none⟩ (.int .i64 a2))).setCell ⟨w.heap.size, 4, none⟩ (.int .i64 a3))).setCell ⟨w.heap.size + 1, 0, none⟩ (.bool true))).setCell ⟨w.heap.size + 1, 1, none⟩ (.int .i64 b0))).setCell ⟨w.heap.size + 1, 2, none⟩ (.int .i64 b1))).setCell ⟨w.heap.size + 1, 3, none⟩ (.int .i64 b2))).setCell ⟨w.heap.size + 1, 4, none⟩ (.int .i64 b3))) (w.heap.size + 1) ⟨true, b0, b1, b2, b3⟩ := E1.set ⟨true, b0, b1, b2, b3⟩
      have FZ : B5 (((((((((((((((((((((w6).setCell ⟨w.heap.size, 0, none⟩ (.bool false))).setCell ⟨w.heap.size, 1, none⟩ (.int .i64 a0))).setCell ⟨w.heap.size, 2, none⟩ (.int .i64 a1))).setCell ⟨w.heap.size, 3, none⟩ (.int .i64 a2))).setCell ⟨w.heap.size, 4, none⟩ (.int .i64 a3))).setCell ⟨w.heap.size + 1, 0, none⟩ (.bool true))).setCell ⟨w.heap.size + 1, 1, none⟩ (.int .i64 b0))).setCell ⟨w.heap.size + 1, 2, none⟩ (.int .i64 b1))).setCell ⟨w.heap.size + 1, 3, none⟩ (.int .i64 b2))).setCell ⟨w.heap.size + 1, 4, none⟩ (.int .i64 b3))) (w.heap.size + 1 + 1) ⟨false, 0, 0, 0, 0⟩ := E2.far5 (by omega) _ _ _ _ _
      have FW : Below w.heap.size w (((((((((((((((((((((w6).setCell ⟨w.heap.size, 0, none⟩ (.bool false))).setCell ⟨w.heap.size, 1, none⟩ (.int .i64 a0))).setCell ⟨w.heap.size, 2, none⟩ (.int .i64 a1))).setCell ⟨w.heap.size, 3, none⟩ (.int .i64 a2))).setCell ⟨w.heap.size, 4, none⟩ (.int .i64 a3))).setCell ⟨w.heap.size + 1, 0, none⟩ (.bool true))).setCell ⟨w.heap.size + 1, 1, none⟩ (.int .i64 b0))).setCell ⟨w.heap.size + 1, 2, none⟩ (.int .i64 b1))).setCell ⟨w.heap.size + 1, 3, none⟩ (.int .i64 b2))).setCell ⟨w.heap.size + 1, 4, none⟩ (.int .i64 b3))) := (by repeat (first | with_reducible exact Below.refl _ _ | with_reducible assumption | with_reducible refine Below.drew ?_ | with_reducible refine below_drewN ?_ _ | with_reducible refine Below.alloc ?_ (by simp <;> omega) _ | with_reducible refine Below.setCell ?_ (by simp <;> omega) _))

      clear hR hHeld D0 D1 D2 E1 E2 hb hc d0 d1 d2 d3 d4 x0 x1 x2 x3 x4 u0 u1 u2 u3 u4 f0 f1 f2 f3 f4 g0 g1 g2 g3 g4
      generalize ((((((((((((((((((((w6).setCell ⟨w.heap.size, 0, none⟩ (.bool false))).setCell ⟨w.heap.size, 1, none⟩ (.int .i64 a0))).setCell ⟨w.heap.size, 2, none⟩ (.int .i64 a1))).setCell ⟨w.heap.size, 3, none⟩ (.int .i64 a2))).setCell ⟨w.heap.size, 4, none⟩ (.int .i64 a3))).setCell ⟨w.heap.size + 1, 0, none⟩ (.bool true))).setCell ⟨w.heap.size + 1, 1, none⟩ (.int .i64 b0))).setCell ⟨w.heap.size + 1, 2, none⟩ (.int .i64 b1))).setCell ⟨w.heap.size + 1, 3, none⟩ (.int .i64 b2))).setCell ⟨w.heap.size + 1, 4, none⟩ (.int .i64 b3)) = w7 at *
      obtain ⟨x0, x1, x2, x3, x4⟩ := FA.c
      obtain ⟨u0, u1, u2, u3, u4⟩ := FB.c
      obtain ⟨v0, v1, v2, v3, v4⟩ := FZ.c
      have f0 := FZ.fz 0; have f1 := FZ.fz 1; have f2 := FZ.fz 2; have f3 := FZ.fz 3; have f4 := FZ.fz 4
      go_wp2
      obtain ⟨z0, z1, z2, z3, z4⟩ := (FZ.set (⟨false, a0, a1, a2, a3⟩)).c
      simp only at z0 z1 z2 z3 z4
      exact bodyPost_ret (v := .agg #[.bool false, .int .i64 (a0), .int .i64 (a1), .int .i64 (a2), .int .i64 (a3)]) (by simp [results, Tryz.results59, go_sem, z0, z1, z2, z3, z4]) rfl ⟨rfl, (by repeat (first | with_reducible exact Below.refl _ _ | with_reducible assumption | with_reducible refine Below.drew ?_ | with_reducible refine below_drewN ?_ _ | with_reducible refine Below.alloc ?_ (by simp <;> omega) _ | with_reducible refine Below.setCell ?_ (by simp <;> omega) _))⟩
    | false =>
      rw [show uniV ⟨false, a0, a1, a2, a3⟩ ⟨false, b0, b1, b2, b3⟩ = ⟨false, min a0 b0, min a1 b1, max a2 b2, max a3 b3⟩ from rfl]
      go_enter Tryz.func59, Tryz.ntmps59
      go_wp2
      have D0 := hid (show B5 (World.drew (((w.alloc (.cells #[.bool (a).n, .int .i64 (a).lx, .int .i64 (a).ly, .int .i64 (a).hx, .int .i64 (a).hy] 27)).alloc (.cells #[.bool (b).n, .int .i64 (b).lx, .int .i64 (b).ly, .int .i64 (b).hx, .int .i64 (b).hy] 27)).alloc (.cells #[.bool false, .int .i64 0, .int .i64 0, .int .i64 0, .int .i64 0] 27))) w.heap.size a from (by repeat (first | (refine at_new ?_; first | with_reducible rfl | (simp only [World.size_alloc]; done)) | refine at_old ?_)))
      obtain ⟨d0, d1, d2, d3, d4⟩ := D0.out.c
      refine wp_region_K (S := (fun W : World => C5 W (w.heap.size + 1) b ∧ B5 W (w.heap.size + 1) b ∧ B5 W (w.heap.size + 1 + 1) ⟨false, 0, 0, 0, 0⟩ ∧ Below w.heap.size w W)) (fun i => i == 5) (by kernel_rfl) (⟨by exact C5.of (by repeat (first | (refine at_new ?_; first | with_reducible rfl | (simp only [World.size_alloc]; done)) | refine at_old ?_)), (by repeat (first | (refine at_new ?_; first | with_reducible rfl | (simp only [World.size_alloc]; done)) | refine at_old ?_)), (by repeat (first | (refine at_new ?_; first | with_reducible rfl | (simp only [World.size_alloc]; done)) | refine at_old ?_)), (by repeat (first | with_reducible exact Below.refl _ _ | with_reducible assumption | with_reducible refine Below.drew ?_ | with_reducible refine below_drewN ?_ _ | with_reducible refine Below.alloc ?_ (by simp <;> omega) _ | with_reducible refine Below.setCell ?_ (by simp <;> omega) _))⟩) (fun hHeld => ?_)
      refine gkt 2 ?_ (h := by intro W hSw; obtain ⟨⟨y0, y1, y2, y3, y4⟩, _, _, _⟩ := hSw; go_simp; first | done | with_reducible rfl)
      refine gk1 0 (fun K hK => ?_)
      go_simp
      have hR := hHeld
      refine hK.out _ _ hR (fun hHeld => ?_)
      clear hK K
      (try simp only [Act.put, sA, sZ, sS])
      refine gk1 1 (fun K hK => ?_)
      go_simp
      go_at_call 95; refine (OA.out _).mono ?_; rintro e w6 ⟨rfl, h6⟩; have hR : (fun W : World => C5 W (w.heap.size + 1) b ∧ B5 W (w.heap.size + 1) b ∧ B5 W (w.heap.size + 1 + 1) ⟨false, 0, 0, 0, 0⟩ ∧ Below w.heap.size w W) w6 := ⟨hHeld.1.keep h6, hHeld.2.1.keep h6, hHeld.2.2.1.keep h6, gt hHeld.2.2.2 h6⟩; have D1 := hid (D0.out.keep h6); clear h6
      refine hK.out _ _ hR (fun hHeld => ?_)
      clear hK K
      (try simp only [Act.put, sA, sZ, sS])
      refine gk1 3 (fun K hK => ?_)
      go_simp
      go_at_call 95; refine (OB.out _).mono ?_; rintro e w6 ⟨rfl, h6⟩; have hR : (fun W : World => C5 W (w.heap.size + 1) b ∧ B5 W (w.heap.size + 1) b ∧ B5 W (w.heap.size + 1 + 1) ⟨false, 0, 0, 0, 0⟩ ∧ Below w.heap.size w W) w6 := ⟨hHeld.1.keep h6, hHeld.2.1.keep h6, hHeld.2.2.1.keep h6, gt hHeld.2.2.2 h6⟩; have D2 := D1.out.keep h6; obtain ⟨x0, x1, x2, x3, x4⟩ := D2.c; have f0 := D2.fz 0; have f1 := D2.fz 1; have f2 := D2.fz 2; have f3 := D2.fz 3; have f4 := D2.fz 4; have hb := hR.2.2.2; clear h6
      refine hK.out _ _ hR (fun hHeld => ?_)
      clear hK K
      (try simp only [Act.put, sA, sZ, sS])
      refine gk1 4 (fun K hK => ?_)
      go_simp
      have hR : (fun W : World => C5 W (w.heap.size + 1) b ∧ B5 W (w.heap.size + 1) b ∧ B5 W (w.heap.size + 1 + 1) ⟨false, 0, 0, 0, 0⟩ ∧ Below w.heap.size w W) (((((((((((w6).setCell ⟨w.heap.size, 0, none⟩ (.bool false))).setCell ⟨w.heap.size, 1, none⟩ (.int .i64 a0))).setCell ⟨w.heap.size, 2, none⟩ (.int .i64 a1))).setCell ⟨w.heap.size, 3, none⟩ (.int .i64 a2))).setCell ⟨w.heap.size, 4, none⟩ (.int .i64 a3))) := ⟨(hHeld.2.1.far5 (by omega) _ _ _ _ _).c, hHeld.2.1.far5 (by omega) _ _ _ _ _, hHeld.2.2.1.far5 (by omega) _ _ _ _ _, (by repeat (first | with_reducible exact Below.refl _ _ | with_reducible assumption | with_reducible refine Below.drew ?_ | with_reducible refine below_drewN ?_ _ | with_reducible refine Below.alloc ?_ (by simp <;> omega) _ | with_reducible refine Below.setCell ?_ (by simp <;> omega) _))⟩; have E1 := hR.2.1; have E2 := hR.2.2.1; obtain ⟨u0, u1, u2, u3, u4⟩ := E1.c; have g0 := E1.fz 0; have g1 := E1.fz 1; have g2 := E1.fz 2; have g3 := E1.fz 3; have g4 := E1.fz 4; have hc := hR.2.2.2
      refine hK.out _ _ hR (fun hHeld => ?_)
      clear hK K
      (try simp only [Act.put, sA, sZ, sS])
      refine gkl 5 (fun K hK => ?_)
      go_simp
      refine hK.out _ _ ?_
      clear hK K
      (try simp only [Act.put, sA, sZ, sS])
      refine wpAnyK_done (by kernel_rfl) ?_ _
      have FA : B5 (((((((((((((((((((((w6).setCell ⟨w.heap.size, 0, none⟩ (.bool false))).setCell ⟨w.heap.size, 1, none⟩ (.int .i64 a0))).setCell ⟨w.heap.size, 2, none⟩ (.int .i64 a1))).setCell ⟨w.heap.size, 3, none⟩ (.int .i64 a2))).setCell ⟨w.heap.size, 4, none⟩ (.int .i64 a3))).setCell ⟨w.heap.size + 1, 0, none⟩ (.bool false))).setCell ⟨w.heap.size + 1, 1, none⟩ (.int .i64 b0))).setCell ⟨w.heap.size + 1, 2, none⟩ (.int .i64 b1))).setCell ⟨w.heap.size + 1, 3, none⟩ (.int .i64 b2))).setCell ⟨w.heap.size + 1, 4, none⟩ (.int .i64 b3))) (w.heap.size) ⟨false, a0, a1, a2, a3⟩ := (D2.set ⟨false, a0, a1, a2, a3⟩).far5 (by omega) _ _ _ _ _
      have FB : B5 (((((((((((((((((((((w6).setCell ⟨w.heap.size, 0, none⟩ (.bool false))).setCell ⟨w.heap.size, 1, none⟩ (.int .i64 a0))).setCell ⟨w.heap.size, 2, none⟩ (.int .i64 a1))).setCell ⟨w.heap.size, 3, none⟩ (.int .i64 a2))).setCell ⟨w.heap.size, 4, none⟩ (.int .i64 a3))).setCell ⟨w.heap.size + 1, 0, none⟩ (.bool false))).setCell ⟨w.heap.size + 1, 1, none⟩ (.int .i64 b0))).setCell ⟨w.heap.size + 1, 2, none⟩ (.int .i64 b1))).setCell ⟨w.heap.size + 1, 3, none⟩ (.int .i64 b2))).setCell ⟨w.heap.size + 1, 4, none⟩ (.int .i64 b3))) (w.heap.size + 1) ⟨false, b0, b1, b2, b3⟩ := E1.set ⟨false, b0, b1, b2, b3⟩
      have FZ : B5 (((((((((((((((((((((w6).setCell ⟨w.heap.size, 0, none⟩ (.bool false))).setCell ⟨w.heap.size, 1, none⟩ (.int .i64 a0))).setCell ⟨w.heap.size, 2, none⟩ (.int .i64 a1))).setCell ⟨w.heap.size, 3, none⟩ (.int .i64 a2))).setCell ⟨w.heap.size, 4, none⟩ (.int .i64 a3))).setCell ⟨w.heap.size + 1, 0, none⟩ (.bool false))).setCell ⟨w.heap.size + 1, 1, none⟩ (.int .i64 b0))).setCell ⟨w.heap.size + 1, 2, none⟩ (.int .i64 b1))).setCell ⟨w.heap.size + 1, 3, none⟩ (.int .i64 b2))).setCell ⟨w.heap.size + 1, 4, none⟩ (.int .i64 b3))) (w.heap.size + 1 + 1) ⟨false, 0, 0, 0, 0⟩ := E2.far5 (by omega) _ _ _ _ _
      have FW : Below w.heap.size w (((((((((((((((((((((w6).setCell ⟨w.heap.size, 0, none⟩ (.bool false))).setCell ⟨w.heap.size, 1, none⟩ (.int .i64 a0))).setCell ⟨w.heap.size, 2, none⟩ (.int .i64 a1))).setCell ⟨w.heap.size, 3, none⟩ (.int .i64 a2))).setCell ⟨w.heap.size, 4, none⟩ (.int .i64 a3))).setCell ⟨w.heap.size + 1, 0, none⟩ (.bool false))).setCell ⟨w.heap.size + 1, 1, none⟩ (.int .i64 b0))).setCell ⟨w.heap.size + 1, 2, none⟩ (.int .i64 b1))).setCell ⟨w.heap.size + 1, 3, none⟩ (.int .i64 b2))).setCell ⟨w.heap.size + 1, 4, none⟩ (.int .i64 b3))) := (by repeat (first | with_reducible exact Below.refl _ _ | with_reducible assumption | with_reducible refine Below.drew ?_ | with_reducible refine below_drewN ?_ _ | with_reducible refine Below.alloc ?_ (by simp <;> omega) _ | with_reducible refine Below.setCell ?_ (by simp <;> omega) _))

      clear hR hHeld D0 D1 D2 E1 E2 hb hc d0 d1 d2 d3 d4 x0 x1 x2 x3 x4 u0 u1 u2 u3 u4 f0 f1 f2 f3 f4 g0 g1 g2 g3 g4
      generalize ((((((((((((((((((((w6).setCell ⟨w.heap.size, 0, none⟩ (.bool false))).setCell ⟨w.heap.size, 1, none⟩ (.int .i64 a0))).setCell ⟨w.heap.size, 2, none⟩ (.int .i64 a1))).setCell ⟨w.heap.size, 3, none⟩ (.int .i64 a2))).setCell ⟨w.heap.size, 4, none⟩ (.int .i64 a3))).setCell ⟨w.heap.size + 1, 0, none⟩ (.bool false))).setCell ⟨w.heap.size + 1, 1, none⟩ (.int .i64 b0))).setCell ⟨w.heap.size + 1, 2, none⟩ (.int .i64 b1))).setCell ⟨w.heap.size + 1, 3, none⟩ (.int .i64 b2))).setCell ⟨w.heap.size + 1, 4, none⟩ (.int .i64 b3)) = w7 at *
      obtain ⟨x0, x1, x2, x3, x4⟩ := FA.c
      obtain ⟨u0, u1, u2, u3, u4⟩ := FB.c
      obtain ⟨v0, v1, v2, v3, v4⟩ := FZ.c
      have f0 := FZ.fz 0; have f1 := FZ.fz 1; have f2 := FZ.fz 2; have f3 := FZ.fz 3; have f4 := FZ.fz 4
      go_wp2
      refine wp_region_K (S := (fun W : World => C5 W (w.heap.size) ⟨false, a0, a1, a2, a3⟩ ∧ C5 W (w.heap.size + 1) ⟨false, b0, b1, b2, b3⟩ ∧ B5 W (w.heap.size + 1 + 1) ⟨false, 0, 0, 0, 0⟩ ∧ Below w.heap.size w W)) (fun i => i == 11) (by kernel_rfl) (by exact ⟨FA.c, FB.c, FZ, (by repeat (first | with_reducible exact Below.refl _ _ | with_reducible assumption | with_reducible refine Below.drew ?_ | with_reducible refine below_drewN ?_ _ | with_reducible refine Below.alloc ?_ (by simp <;> omega) _ | with_reducible refine Below.setCell ?_ (by simp <;> omega) _))⟩) (fun hHeld => ?_)
      refine gkp 0 ?_
      refine gkt 1 ?_ (h := by intro W hSw; obtain ⟨⟨y0, y1, y2, y3, y4⟩, ⟨y5, y6, y7, y8, y9⟩, _, _⟩ := hSw; go_simp; first | done | with_reducible rfl)
      refine gkp 2 ?_
      refine gkt 3 ?_ (h := by intro W hSw; obtain ⟨⟨y0, y1, y2, y3, y4⟩, ⟨y5, y6, y7, y8, y9⟩, _, _⟩ := hSw; go_simp; first | done | with_reducible rfl)
      refine gkp 5 ?_
      refine gkt 6 ?_ (h := by intro W hSw; obtain ⟨⟨y0, y1, y2, y3, y4⟩, ⟨y5, y6, y7, y8, y9⟩, _, _⟩ := hSw; go_simp; first | done | with_reducible rfl)
      refine gkp 7 ?_
      refine gkt 8 ?_ (h := by intro W hSw; obtain ⟨⟨y0, y1, y2, y3, y4⟩, ⟨y5, y6, y7, y8, y9⟩, _, _⟩ := hSw; go_simp; first | done | with_reducible rfl)
      refine gk1 4 (fun K hK => ?_)
      go_simp
      go_at_call 83; refine (LC.out _ _ _ _ _).mono ?_; rintro e w6 ⟨rfl, h6⟩; have hR : (fun W : World => C5 W (w.heap.size) ⟨false, a0, a1, a2, a3⟩ ∧ C5 W (w.heap.size + 1) ⟨false, b0, b1, b2, b3⟩ ∧ B5 W (w.heap.size + 1 + 1) ⟨false, 0, 0, 0, 0⟩ ∧ Below w.heap.size w W) w6 := ⟨hHeld.1.keep h6, hHeld.2.1.keep h6, hHeld.2.2.1.keep h6, gt hHeld.2.2.2 h6⟩; clear h6
      refine hK.out _ _ hR (fun hHeld => ?_)
      clear hK K
      (try simp only [Act.put, sA, sZ, sS])
      refine gk1 9 (fun K hK => ?_)
      go_simp
      go_at_call 84; refine (HC.out _ _ _ _ _).mono ?_; rintro e w6 ⟨rfl, h6⟩; have hR : (fun W : World => C5 W (w.heap.size) ⟨false, a0, a1, a2, a3⟩ ∧ C5 W (w.heap.size + 1) ⟨false, b0, b1, b2, b3⟩ ∧ B5 W (w.heap.size + 1 + 1) ⟨false, 0, 0, 0, 0⟩ ∧ Below w.heap.size w W) w6 := ⟨hHeld.1.keep h6, hHeld.2.1.keep h6, hHeld.2.2.1.keep h6, gt hHeld.2.2.2 h6⟩; have B := hR.2.2.1; obtain ⟨x0, x1, x2, x3, x4⟩ := B.c; have f0 := B.fz 0; have f1 := B.fz 1; have f2 := B.fz 2; have f3 := B.fz 3; have f4 := B.fz 4; have hb := hR.2.2.2; clear h6
      refine hK.out _ _ hR (fun hHeld => ?_)
      clear hK K
      (try simp only [Act.put, sA, sZ, sS])
      refine gkp 10 ?_
      refine gkl 11 (fun K hK => ?_)
      go_simp
      refine hK.out _ _ ?_
      clear hK K
      (try simp only [Act.put, sA, sZ, sS])
      refine wpAnyK_done (by kernel_rfl) ?_ _
      go_wp2
      obtain ⟨z0, z1, z2, z3, z4⟩ := (B.set (⟨false, min a0 b0, min a1 b1, max a2 b2, max a3 b3⟩)).c
      simp only at z0 z1 z2 z3 z4
      exact bodyPost_ret (v := .agg #[.bool false, .int .i64 (min a0 b0), .int .i64 (min a1 b1), .int .i64 (max a2 b2), .int .i64 (max a3 b3)]) (by simp [results, Tryz.results59, go_sem, z0, z1, z2, z3, z4]) rfl ⟨rfl, (by repeat (first | with_reducible exact Below.refl _ _ | with_reducible assumption | with_reducible refine Below.drew ?_ | with_reducible refine below_drewN ?_ _ | with_reducible refine Below.alloc ?_ (by simp <;> omega) _ | with_reducible refine Below.setCell ?_ (by simp <;> omega) _))⟩
end Bxs
end Go.Proofs.YtpmfedimjjifaaaGreatDoor

/- Boxes as plain values: what is alike, what a union is; no statement of the seat is proved here. -/
namespace Go.Proofs.YtpmfedimjjifaaaGreatDoor
namespace Bxs
open Go.RowKit Go.Maps

/-- Ordinates are numbers of a machine. -/
def Bd (r : Rect) : Prop := (-9223372036854775808 ≤ r.lx ∧ r.lx ≤ 9223372036854775807) ∧ (-9223372036854775808 ≤ r.ly ∧ r.ly ≤ 9223372036854775807) ∧ (-9223372036854775808 ≤ r.hx ∧ r.hx ≤ 9223372036854775807) ∧ (-9223372036854775808 ≤ r.hy ∧ r.hy ≤ 9223372036854775807)
set_option maxRecDepth 100000 in
theorem bd_no : Bd noR := by unfold Bd noR; simp
set_option maxRecDepth 100000 in
theorem bd_or {r : Rect} (h : Bd r) : Bd (orR r) := by
  unfold orR
  split
  · exact h
  · exact bd_no
set_option maxRecDepth 100000 in
theorem bd_uni {a b : Rect} (ha : Bd a) (hb : Bd b) : Bd (uniR a b) := by
  have h1 := bd_or ha
  have h2 := bd_or hb
  unfold uniR
  split
  · exact h2
  · split
    · exact h1
    · unfold Bd at *
      simp only
      omega
set_option maxRecDepth 100000 in
theorem good_no : goodR noR = true := by decide
set_option maxRecDepth 100000 in
theorem or_good (r : Rect) : goodR (orR r) = true := by
  unfold orR
  split
  · assumption
  · exact good_no
set_option maxRecDepth 100000 in
theorem or_of {r : Rect} (h : goodR r = true) : orR r = r := by unfold orR; rw [if_pos h]
set_option maxRecDepth 100000 in
theorem or_or (r : Rect) : orR (orR r) = orR r := or_of (or_good r)
set_option maxRecDepth 100000 in
theorem or_none {r : Rect} (h : (orR r).n = true) : orR r = noR := by
  have := or_good r
  unfold goodR at this
  rw [if_pos h] at this
  exact eqR_iff.1 this
set_option maxRecDepth 100000 in
theorem or_has {r : Rect} (h : (orR r).n = false) : (orR r).lx ≤ (orR r).hx ∧ (orR r).ly ≤ (orR r).hy := by
  have := or_good r
  unfold goodR at this
  rw [if_neg (by rw [h]; decide)] at this
  simpa using this
set_option maxRecDepth 100000 in
theorem uni_has {a b : Rect} (ha : (orR a).n = false) (hb : (orR b).n = false) : uniR a b = ⟨false, min (orR a).lx (orR b).lx, min (orR a).ly (orR b).ly, max (orR a).hx (orR b).hx, max (orR a).hy (orR b).hy⟩ := by
  unfold uniR
  rw [ha, hb]
  rfl
set_option maxRecDepth 100000 in
theorem good_uni (a b : Rect) : goodR (uniR a b) = true := by
  cases ha : (orR a).n with
  | true => unfold uniR; rw [if_pos ha]; exact or_good b
  | false =>
    cases hb : (orR b).n with
    | true => unfold uniR; rw [if_neg (by rw [ha]; decide), if_pos hb]; exact or_good a
    | false =>
      rw [uni_has ha hb]
      have h1 := or_has ha
      have h2 := or_has hb
      simp [goodR]
      omega
set_option maxRecDepth 100000 in
theorem or_uni (a b : Rect) : orR (uniR a b) = uniR a b := or_of (good_uni a b)
set_option maxRecDepth 100000 in
theorem or_cases (r : Rect) : orR r = noR ∨ ∃ a b c d, orR r = ⟨false, a, b, c, d⟩ ∧ a ≤ c ∧ b ≤ d := by
  cases h : (orR r).n with
  | true => exact .inl (or_none h)
  | false =>
    refine .inr ⟨(orR r).lx, (orR r).ly, (orR r).hx, (orR r).hy, ?_, or_has h⟩
    generalize orR r = q at *
    obtain ⟨n, a, b, c, d⟩ := q
    simp only at h
    subst h
    rfl
set_option maxRecDepth 100000 in
theorem uni_comm (a b : Rect) : uniR a b = uniR b a := by
  rw [uni_v, uni_v]
  rcases or_cases a with ha | ⟨a0, a1, a2, a3, ha, _⟩ <;> rcases or_cases b with hb | ⟨b0, b1, b2, b3, hb, _⟩ <;> rw [ha, hb] <;> simp [uniV, noR] <;> omega
end Bxs
end Go.Proofs.YtpmfedimjjifaaaGreatDoor

/- Shapes are compared by the program; no statement of the seat is proved here. -/
namespace Go.Proofs.YtpmfedimjjifaaaGreatDoor
namespace Bxs
open Go.RowKit Go.Maps

set_option maxRecDepth 100000 in
theorem Bx.new2 (w : World) (o : Obj) (s : Sh) : Bx ((w.alloc o).alloc (.cells #[.int .i64 (s).k, .slice (s).xo (s).xn (s).xc, .slice (s).po (s).pn (s).pc] 39)) (w.heap.size + 1) s := by have h := Bx.new (w.alloc o) s; rw [World.size_alloc] at h; exact h
def EfI (ps qs : List Sh) (n : Nat) (w : World) (c : Value) (W : World) : Prop := ∃ i : Nat, i ≤ n ∧ c = .int .i64 (i : Int) ∧ Hid (eqL ps qs = eqL (ps.drop i) (qs.drop i)) ∧ Hid (Below w.heap.size w W)
/-- A box of a number. -/
def Nx (w : World) (b : Nat) (d : Int) : Prop := w.heap[b]? = some (.cells #[.int .i64 d] 3)
set_option maxRecDepth 100000 in
theorem Nx.cell {w : World} {b : Nat} {d : Int} (h : Nx w b d) : w.cell? ⟨b, 0, none⟩ = some (.int .i64 d) := by unfold Nx at h; simp [World.cell?, h]
set_option maxRecDepth 100000 in
theorem Nx.lt {w : World} {b : Nat} {d : Int} (h : Nx w b d) : b < w.heap.size := (Array.getElem?_eq_some_iff.1 h).1
set_option maxRecDepth 100000 in
theorem Nx.keep {w w' : World} {b : Nat} {d : Int} (h : Nx w b d) (hb : Below w.heap.size w w') : Nx w' b d := (hb.block b h.lt).trans h
end Bxs
end Go.Proofs.YtpmfedimjjifaaaGreatDoor
