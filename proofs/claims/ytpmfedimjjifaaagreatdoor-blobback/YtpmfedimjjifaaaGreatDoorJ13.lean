/- Boxes: what they are in memory, how they are compared, low, high and None; no statement of the seat is proved here. -/
import Derived.Test.YtpmfedimjjifaaaGreatDoorJ04
import Derived.Test.YtpmfedimjjifaaaGreatDoorJ01
namespace Go.Proofs.YtpmfedimjjifaaaGreatDoor
namespace Bxs
open Go.RowKit Go.Maps

/-- A box. -/
structure Rect where
  n : Bool
  lx : Int
  ly : Int
  hx : Int
  hy : Int
/-- The box of nothing. -/
def noR : Rect := ⟨true, 0, 0, 0, 0⟩
/-- Alike in all. -/
def eqR (a b : Rect) : Bool := (a.n == b.n) && ((a.lx, a.ly) == (b.lx, b.ly)) && ((a.hx, a.hy) == (b.hx, b.hy))
set_option maxRecDepth 100000 in
theorem eqR_iff {a b : Rect} : eqR a b = true ↔ a = b := by
  obtain ⟨a0, a1, a2, a3, a4⟩ := a
  obtain ⟨b0, b1, b2, b3, b4⟩ := b
  simp [eqR, and_assoc]
set_option maxRecDepth 100000 in
theorem eqR_false {a b : Rect} : eqR a b = false ↔ ¬ a = b := by rw [← eqR_iff]; simp

set_option maxRecDepth 100000 in
theorem part25 (W : World) (a b c d e : Value) : (part 4 #[a, b, c, d, e] 0).run Tryz.prog W = .ok a W ∧ (part 25 #[a, b, c, d, e] 1).run Tryz.prog W = .ok (.agg #[b, c]) W ∧ (part 25 #[a, b, c, d, e] 3).run Tryz.prog W = .ok (.agg #[d, e]) W := ⟨by kernel_rfl, by kernel_rfl, by kernel_rfl⟩
set_option maxRecDepth 100000 in
theorem box_eqlIn (a b : Rect) (W : World) : (Op.equalIn 10000 27 (.agg #[.bool (a).n, .int .i64 (a).lx, .int .i64 (a).ly, .int .i64 (a).hx, .int .i64 (a).hy]) (.agg #[.bool (b).n, .int .i64 (b).lx, .int .i64 (b).ly, .int .i64 (b).hx, .int .i64 (b).hy])).run Tryz.prog W = .ok (eqR a b) W := by
  have e2 : ∀ (x y : Bool), (Op.equalIn 9999 4 (.bool x) (.bool y)).run Tryz.prog W = .ok (x == y) W := fun x y => by cases x <;> cases y <;> kernel_rfl
  have e3 : ∀ (x y : Int), (Op.equalIn 9998 3 (.int .i64 x) (.int .i64 y)).run Tryz.prog W = .ok (x == y) W := fun x y => run_equalIn_int W 9997 3 .i64 .i64 x y Tryz.underlying3
  have e4 : ∀ (x y z t : Int), (Op.equalIn 9999 25 (.agg #[.int .i64 x, .int .i64 y]) (.agg #[.int .i64 z, .int .i64 t])).run Tryz.prog W = .ok ((x, y) == (z, t)) W := by
    intro x y z t
    rw [show (9999 : Nat) = 9998 + 1 from rfl, run_equalIn_struct W 9998 25 _ _ (by simp [Program.fieldsOf, Tryz.underlying25]) (by kernel_rfl)]
    simp only [Program.fieldsOf, Tryz.underlying25, Op.eqFields]
    simp [part41, e3, Sem.run_bind, Result.andThen]
    by_cases h1 : x = z <;> by_cases h2 : y = t <;> simp [h1, h2]
  rw [show (10000 : Nat) = 9999 + 1 from rfl, run_equalIn_struct W 9999 27 _ _ (by simp [Program.fieldsOf, Tryz.underlying27]) (by kernel_rfl)]
  simp only [Program.fieldsOf, Tryz.underlying27, Op.eqFields]
  simp [part25, e2, e4, Sem.run_bind, Result.andThen]
  unfold eqR
  by_cases h1 : a.n = b.n <;> by_cases h2 : a.lx = b.lx <;> by_cases h3 : a.ly = b.ly <;> by_cases h4 : a.hx = b.hx <;> by_cases h5 : a.hy = b.hy <;> simp [h1, h2, h3, h4, h5]
set_option maxRecDepth 100000 in
theorem box_eql (a b : Rect) (W : World) : (binOp .eql 27 (.agg #[.bool (a).n, .int .i64 (a).lx, .int .i64 (a).ly, .int .i64 (a).hx, .int .i64 (a).hy]) (.agg #[.bool (b).n, .int .i64 (b).lx, .int .i64 (b).ly, .int .i64 (b).hx, .int .i64 (b).hy])).run Tryz.prog W = .ok (.bool (eqR a b)) W := by
  rw [run_eql_struct, box_eqlIn]; rfl

/-- A box in a block of its own. -/
def B5 (W : World) (b : Nat) (r : Rect) : Prop := W.heap[b]? = some (.cells #[.bool (r).n, .int .i64 (r).lx, .int .i64 (r).ly, .int .i64 (r).hx, .int .i64 (r).hy] 27)
/-- What is read of it. -/
def C5 (W : World) (b : Nat) (r : Rect) : Prop := W.cell? ⟨b, 0, none⟩ = some (.bool r.n) ∧ W.cell? ⟨b, 1, none⟩ = some (.int .i64 r.lx) ∧ W.cell? ⟨b, 2, none⟩ = some (.int .i64 r.ly) ∧ W.cell? ⟨b, 3, none⟩ = some (.int .i64 r.hx) ∧ W.cell? ⟨b, 4, none⟩ = some (.int .i64 r.hy)
set_option maxRecDepth 100000 in
theorem B5.c {W : World} {b : Nat} {r : Rect} (h : B5 W b r) : C5 W b r := by
  unfold B5 at h
  refine ⟨?_, ?_, ?_, ?_, ?_⟩ <;> simp [World.cell?, h]
set_option maxRecDepth 100000 in
theorem B5.fz {W : World} {b : Nat} {r : Rect} (h : B5 W b r) (i : Nat) : W.frozen? ⟨b, i, none⟩ = false := by
  unfold B5 at h
  simp [World.frozen?, h]
set_option maxRecDepth 100000 in
theorem B5.lt {W : World} {b : Nat} {r : Rect} (h : B5 W b r) : b < W.heap.size := (Array.getElem?_eq_some_iff.1 h).1
set_option maxRecDepth 100000 in
theorem B5.keep {w w' : World} {b : Nat} {r : Rect} (h : B5 w b r) (k : Below w.heap.size w w') : B5 w' b r := (k.block b h.lt).trans h
set_option maxRecDepth 100000 in
theorem C5.keep {w w' : World} {b : Nat} {r : Rect} (h : C5 w b r) (k : Below w.heap.size w w') : C5 w' b r := ⟨keep_old k h.1, keep_old k h.2.1, keep_old k h.2.2.1, keep_old k h.2.2.2.1, keep_old k h.2.2.2.2⟩
set_option maxRecDepth 100000 in
theorem B5.new (w : World) (r : Rect) : B5 (w.alloc (.cells #[.bool (r).n, .int .i64 (r).lx, .int .i64 (r).ly, .int .i64 (r).hx, .int .i64 (r).hy] 27)) w.heap.size r := heap_alloc_new w _
set_option maxRecDepth 100000 in
theorem B5.set {W : World} {b : Nat} {r : Rect} (h : B5 W b r) (q : Rect) : B5 (((((W.setCell ⟨b, 0, none⟩ (.bool q.n)).setCell ⟨b, 1, none⟩ (.int .i64 q.lx)).setCell ⟨b, 2, none⟩ (.int .i64 q.ly)).setCell ⟨b, 3, none⟩ (.int .i64 q.hx)).setCell ⟨b, 4, none⟩ (.int .i64 q.hy)) b q := by
  have h0 := heap_setCell_same W b 0 _ 27 (.bool q.n) h
  have h1 := heap_setCell_same _ b 1 _ 27 (.int .i64 q.lx) h0
  have h2 := heap_setCell_same _ b 2 _ 27 (.int .i64 q.ly) h1
  have h3 := heap_setCell_same _ b 3 _ 27 (.int .i64 q.hx) h2
  have h4 := heap_setCell_same _ b 4 _ 27 (.int .i64 q.hy) h3
  unfold B5
  simpa using h4
set_option maxRecDepth 100000 in
theorem B5.far {W : World} {b c : Nat} {r : Rect} (h : B5 W c r) (hc : c ≠ b) (i : Nat) (v : Value) : B5 (W.setCell ⟨b, i, none⟩ v) c r := by
  unfold B5 at *
  rw [← h]
  exact heap_setCell_other _ _ _ _ hc
set_option maxRecDepth 100000 in
theorem B5.far5 {W : World} {b c : Nat} {r : Rect} (h : B5 W c r) (hc : c ≠ b) (v0 v1 v2 v3 v4 : Value) : B5 (((((W.setCell ⟨b, 0, none⟩ v0).setCell ⟨b, 1, none⟩ v1).setCell ⟨b, 2, none⟩ v2).setCell ⟨b, 3, none⟩ v3).setCell ⟨b, 4, none⟩ v4) c r := ((((h.far hc _ _).far hc _ _).far hc _ _).far hc _ _).far hc _ _
/-- A point in a block of its own, as it is read. -/
def C2 (W : World) (b : Nat) (x y : Int) : Prop := W.cell? ⟨b, 0, none⟩ = some (.int .i64 x) ∧ W.cell? ⟨b, 1, none⟩ = some (.int .i64 y)
set_option maxRecDepth 100000 in
theorem C2.keep {w w' : World} {b : Nat} {x y : Int} (h : C2 w b x y) (k : Below w.heap.size w w') : C2 w' b x y := ⟨keep_old k h.1, keep_old k h.2⟩
set_option maxRecDepth 100000 in
theorem C2.of {W : World} {b : Nat} {x y : Int} (h : W.heap[b]? = some (.cells #[.int .i64 x, .int .i64 y] 25)) : C2 W b x y := by constructor <;> simp [World.cell?, h]
set_option maxRecDepth 100000 in
theorem C5.of {W : World} {b : Nat} {r : Rect} (h : W.heap[b]? = some (.cells #[.bool (r).n, .int .i64 (r).lx, .int .i64 (r).ly, .int .i64 (r).hx, .int .i64 (r).hy] 27)) : C5 W b r := B5.c h
/-- What may be stored into. -/
structure F5 (W : World) (b : Nat) : Prop where
  has : ∃ r : Rect, B5 W b r
set_option maxRecDepth 100000 in
theorem B5.drew {w : World} {b : Nat} {r : Rect} (h : B5 w b r) : B5 w.drew b r := h

set_option maxRecDepth 100000 in
set_option maxHeartbeats 400000 in
theorem low_call (a b c d : Int) (w : World) : Calls Tryz.prog 83 #[.agg #[.int .i64 a, .int .i64 b], .agg #[.int .i64 c, .int .i64 d]] w fun e w' => e = .returned (.agg #[.int .i64 (min a c), .int .i64 (min b d)]) ∧ Below w.heap.size w w' := by
  go_enter Tryz.func83, Tryz.ntmps83
  go_wp2
  all_goals exact bodyPost_ret (v := .agg #[.int .i64 (min a c), .int .i64 (min b d)]) (by simp [results, Tryz.results83, go_sem] <;> omega) rfl ⟨rfl, (by repeat (first | with_reducible exact Below.refl _ _ | with_reducible assumption | with_reducible refine Below.drew ?_ | with_reducible refine below_drewN ?_ _ | with_reducible refine Below.alloc ?_ (by simp <;> omega) _ | with_reducible refine Below.setCell ?_ (by simp <;> omega) _))⟩
set_option maxRecDepth 100000 in
set_option maxHeartbeats 400000 in
theorem high_call (a b c d : Int) (w : World) : Calls Tryz.prog 84 #[.agg #[.int .i64 a, .int .i64 b], .agg #[.int .i64 c, .int .i64 d]] w fun e w' => e = .returned (.agg #[.int .i64 (max a c), .int .i64 (max b d)]) ∧ Below w.heap.size w w' := by
  go_enter Tryz.func84, Tryz.ntmps84
  go_wp2
  all_goals exact bodyPost_ret (v := .agg #[.int .i64 (max a c), .int .i64 (max b d)]) (by simp [results, Tryz.results84, go_sem] <;> omega) rfl ⟨rfl, (by repeat (first | with_reducible exact Below.refl _ _ | with_reducible assumption | with_reducible refine Below.drew ?_ | with_reducible refine below_drewN ?_ _ | with_reducible refine Below.alloc ?_ (by simp <;> omega) _ | with_reducible refine Below.setCell ?_ (by simp <;> omega) _))⟩
set_option maxRecDepth 100000 in
set_option maxHeartbeats 400000 in
theorem none_call (w : World) : Calls Tryz.prog 50 #[] w fun e w' => e = .returned (.agg #[.bool true, .int .i64 0, .int .i64 0, .int .i64 0, .int .i64 0]) ∧ Below w.heap.size w w' := by
  go_enter Tryz.func50, Tryz.ntmps50
  go_wp2
  exact bodyPost_ret (v := .agg #[.bool true, .int .i64 0, .int .i64 0, .int .i64 0, .int .i64 0]) (by simp [results, Tryz.results50, go_sem]) rfl ⟨rfl, (by repeat (first | with_reducible exact Below.refl _ _ | with_reducible assumption | with_reducible refine Below.drew ?_ | with_reducible refine below_drewN ?_ _ | with_reducible refine Below.alloc ?_ (by simp <;> omega) _ | with_reducible refine Below.setCell ?_ (by simp <;> omega) _))⟩
end Bxs
end Go.Proofs.YtpmfedimjjifaaaGreatDoor

/- The program's around, Good, orNone and Union; no statement of the seat is proved here. -/
namespace Go.Proofs.YtpmfedimjjifaaaGreatDoor
namespace Bxs
open Go.RowKit Go.Maps

/-- The least box about two points. -/
def arR (a b c d : Int) : Rect := ⟨false, min a c, min b d, max a c, max b d⟩
/-- May it be a box? -/
def goodR (r : Rect) : Bool := if r.n then eqR r noR else decide (r.lx ≤ r.hx) && decide (r.ly ≤ r.hy)
set_option maxRecDepth 100000 in
theorem good_ar (r : Rect) (h : r.n = false) : eqR r (arR r.lx r.ly r.hx r.hy) = goodR r := by
  obtain ⟨n, a, b, c, d⟩ := r
  simp only at h
  subst h
  rw [Bool.eq_iff_iff, eqR_iff]
  simp [goodR, arR]
  omega
def orR (r : Rect) : Rect := if goodR r then r else noR
def uniR (a b : Rect) : Rect := if (orR a).n then orR b else if (orR b).n then orR a else ⟨false, min (orR a).lx (orR b).lx, min (orR a).ly (orR b).ly, max (orR a).hx (orR b).hx, max (orR a).hy (orR b).hy⟩

set_option maxRecDepth 100000 in
set_option maxHeartbeats 4000000 in
theorem around_call (a b c d : Int) (w : World) : Calls Tryz.prog 52 #[.agg #[.int .i64 a, .int .i64 b], .agg #[.int .i64 c, .int .i64 d]] w fun e w' => e = .returned (.agg #[.bool false, .int .i64 (min a c), .int .i64 (min b d), .int .i64 (max a c), .int .i64 (max b d)]) ∧ Below w.heap.size w w' := by
  have LC := hid low_call
  have HC := hid high_call
  go_enter Tryz.func52, Tryz.ntmps52
  go_wp2
  refine wp_region_K (S := (fun W : World => C2 W (w.heap.size) a b ∧ C2 W (w.heap.size + 1) c d ∧ B5 W (w.heap.size + 1 + 1) ⟨false, 0, 0, 0, 0⟩ ∧ Below w.heap.size w W)) (fun i => i == 7) (by kernel_rfl) (⟨by exact C2.of (by repeat (first | (refine at_new ?_; first | with_reducible rfl | (simp only [World.size_alloc]; done)) | refine at_old ?_)), by exact C2.of (by repeat (first | (refine at_new ?_; first | with_reducible rfl | (simp only [World.size_alloc]; done)) | refine at_old ?_)), (by repeat (first | (refine at_new ?_; first | with_reducible rfl | (simp only [World.size_alloc]; done)) | refine at_old ?_)), (by repeat (first | with_reducible exact Below.refl _ _ | with_reducible assumption | with_reducible refine Below.drew ?_ | with_reducible refine below_drewN ?_ _ | with_reducible refine Below.alloc ?_ (by simp <;> omega) _ | with_reducible refine Below.setCell ?_ (by simp <;> omega) _))⟩) (fun hHeld => ?_)
  refine gkt 0 ?_ (h := by intro W hSw; obtain ⟨⟨y0, y1⟩, ⟨y2, y3⟩, _, _⟩ := hSw; go_simp; first | done | with_reducible rfl)
  refine gkt 1 ?_ (h := by intro W hSw; obtain ⟨⟨y0, y1⟩, ⟨y2, y3⟩, _, _⟩ := hSw; go_simp; first | done | with_reducible rfl)
  refine gkt 3 ?_ (h := by intro W hSw; obtain ⟨⟨y0, y1⟩, ⟨y2, y3⟩, _, _⟩ := hSw; go_simp; first | done | with_reducible rfl)
  refine gkt 4 ?_ (h := by intro W hSw; obtain ⟨⟨y0, y1⟩, ⟨y2, y3⟩, _, _⟩ := hSw; go_simp; first | done | with_reducible rfl)
  refine gk1 2 (fun K hK => ?_)
  go_simp
  go_at_call 83; refine (LC.out _ _ _ _ _).mono ?_; rintro e w6 ⟨rfl, h6⟩; have hR : (fun W : World => C2 W (w.heap.size) a b ∧ C2 W (w.heap.size + 1) c d ∧ B5 W (w.heap.size + 1 + 1) ⟨false, 0, 0, 0, 0⟩ ∧ Below w.heap.size w W) w6 := ⟨hHeld.1.keep h6, hHeld.2.1.keep h6, hHeld.2.2.1.keep h6, gt hHeld.2.2.2 h6⟩; clear h6
  refine hK.out _ _ hR (fun hHeld => ?_)
  clear hK K
  (try simp only [Act.put, sA, sZ, sS])
  refine gk1 5 (fun K hK => ?_)
  go_simp
  go_at_call 84; refine (HC.out _ _ _ _ _).mono ?_; rintro e w6 ⟨rfl, h6⟩; have hR : (fun W : World => C2 W (w.heap.size) a b ∧ C2 W (w.heap.size + 1) c d ∧ B5 W (w.heap.size + 1 + 1) ⟨false, 0, 0, 0, 0⟩ ∧ Below w.heap.size w W) w6 := ⟨hHeld.1.keep h6, hHeld.2.1.keep h6, hHeld.2.2.1.keep h6, gt hHeld.2.2.2 h6⟩; have B := hR.2.2.1; obtain ⟨x0, x1, x2, x3, x4⟩ := B.c; have f0 := B.fz 0; have f1 := B.fz 1; have f2 := B.fz 2; have f3 := B.fz 3; have f4 := B.fz 4; have hb := hR.2.2.2; clear h6
  refine hK.out _ _ hR (fun hHeld => ?_)
  clear hK K
  (try simp only [Act.put, sA, sZ, sS])
  refine gkp 6 ?_
  refine gkl 7 (fun K hK => ?_)
  go_simp
  refine hK.out _ _ ?_
  clear hK K
  (try simp only [Act.put, sA, sZ, sS])
  refine wpAnyK_done (by kernel_rfl) ?_ _
  go_wp2
  obtain ⟨z0, z1, z2, z3, z4⟩ := (B.set (⟨false, min a c, min b d, max a c, max b d⟩)).c
  simp only at z0 z1 z2 z3 z4
  exact bodyPost_ret (v := .agg #[.bool false, .int .i64 (min a c), .int .i64 (min b d), .int .i64 (max a c), .int .i64 (max b d)]) (by simp [results, Tryz.results52, go_sem, z0, z1, z2, z3, z4]) rfl ⟨rfl, (by repeat (first | with_reducible exact Below.refl _ _ | with_reducible assumption | with_reducible refine Below.drew ?_ | with_reducible refine below_drewN ?_ _ | with_reducible refine Below.alloc ?_ (by simp <;> omega) _ | with_reducible refine Below.setCell ?_ (by simp <;> omega) _))⟩
set_option maxRecDepth 100000 in
set_option maxHeartbeats 4000000 in
theorem good_v (n : Bool) (a b c d : Int) (w : World) : Calls Tryz.prog 23 #[.agg #[.bool n, .int .i64 (a), .int .i64 (b), .int .i64 (c), .int .i64 (d)]] w fun e w' => e = .returned (.bool (goodR ⟨n, a, b, c, d⟩)) ∧ Below w.heap.size w w' := by
  have NC := hid none_call
  have AC := hid (around_call a b c d)
  cases n with
  | true =>
    have PE : ∀ W, (binOp .eql 27 (.agg #[.bool true, .int .i64 (a), .int .i64 (b), .int .i64 (c), .int .i64 (d)]) (.agg #[.bool true, .int .i64 (0), .int .i64 (0), .int .i64 (0), .int .i64 (0)])).run Tryz.prog W = .ok (.bool (goodR ⟨true, a, b, c, d⟩)) W := fun W => (box_eql ⟨true, a, b, c, d⟩ noR W).trans (by simp [goodR])
    generalize goodR ⟨true, a, b, c, d⟩ = g at *
    go_enter Tryz.func23, Tryz.ntmps23
    go_wp2
    refine wp_region_K (S := (fun W : World => C5 W (w.heap.size) ⟨true, a, b, c, d⟩ ∧ Below w.heap.size w W)) (fun _ => false) (by kernel_rfl) (⟨by exact C5.of (by repeat (first | (refine at_new ?_; first | with_reducible rfl | (simp only [World.size_alloc]; done)) | refine at_old ?_)), (by repeat (first | with_reducible exact Below.refl _ _ | with_reducible assumption | with_reducible refine Below.drew ?_ | with_reducible refine below_drewN ?_ _ | with_reducible refine Below.alloc ?_ (by simp <;> omega) _ | with_reducible refine Below.setCell ?_ (by simp <;> omega) _))⟩) (fun hHeld => ?_)
    refine gkt 0 ?_ (h := by intro W hSw; obtain ⟨⟨y0, y1, y2, y3, y4⟩, _⟩ := hSw; go_simp; first | done | with_reducible rfl)
    refine gk1 1 (fun K hK => ?_)
    go_simp
    go_at_call 50; refine (NC.out _).mono ?_; rintro e w6 ⟨rfl, h6⟩; have hR : (fun W : World => C5 W (w.heap.size) ⟨true, a, b, c, d⟩ ∧ Below w.heap.size w W) w6 := ⟨hHeld.1.keep h6, gt hHeld.2 h6⟩; have hb := hR.2; clear h6
    refine hK.out _ _ hR (fun hHeld => ?_)
    clear hK K
    (try simp only [Act.put, sA, sZ, sS])
    refine gkp 2 ?_ (v := .bool g) (h := by intro W hSw; go_simp; first | done | with_reducible rfl)
    refine gkp 3 ?_
    refine wpAnyK_done (by kernel_rfl) ?_ _
    go_wp2
    go_ret
    exact ⟨rfl, (by repeat (first | with_reducible exact Below.refl _ _ | with_reducible assumption | with_reducible refine Below.drew ?_ | with_reducible refine below_drewN ?_ _ | with_reducible refine Below.alloc ?_ (by simp <;> omega) _ | with_reducible refine Below.setCell ?_ (by simp <;> omega) _))⟩
  | false =>
    have PE : ∀ W, (binOp .eql 27 (.agg #[.bool false, .int .i64 (a), .int .i64 (b), .int .i64 (c), .int .i64 (d)]) (.agg #[.bool false, .int .i64 (min a c), .int .i64 (min b d), .int .i64 (max a c), .int .i64 (max b d)])).run Tryz.prog W = .ok (.bool (goodR ⟨false, a, b, c, d⟩)) W := fun W => (box_eql ⟨false, a, b, c, d⟩ ⟨false, min a c, min b d, max a c, max b d⟩ W).trans (by rw [show eqR ⟨false, a, b, c, d⟩ ⟨false, min a c, min b d, max a c, max b d⟩ = goodR ⟨false, a, b, c, d⟩ from good_ar ⟨false, a, b, c, d⟩ rfl])
    generalize goodR ⟨false, a, b, c, d⟩ = g at *
    go_enter Tryz.func23, Tryz.ntmps23
    go_wp2
    refine wp_region_K (S := (fun W : World => C5 W (w.heap.size) ⟨false, a, b, c, d⟩ ∧ Below w.heap.size w W)) (fun _ => false) (by kernel_rfl) (⟨by exact C5.of (by repeat (first | (refine at_new ?_; first | with_reducible rfl | (simp only [World.size_alloc]; done)) | refine at_old ?_)), (by repeat (first | with_reducible exact Below.refl _ _ | with_reducible assumption | with_reducible refine Below.drew ?_ | with_reducible refine below_drewN ?_ _ | with_reducible refine Below.alloc ?_ (by simp <;> omega) _ | with_reducible refine Below.setCell ?_ (by simp <;> omega) _))⟩) (fun hHeld => ?_)
    refine gkt 0 ?_ (h := by intro W hSw; obtain ⟨⟨y0, y1, y2, y3, y4⟩, _⟩ := hSw; go_simp; first | done | with_reducible rfl)
    refine gkp 1 ?_
    refine gkt 2 ?_ (h := by intro W hSw; obtain ⟨⟨y0, y1, y2, y3, y4⟩, _⟩ := hSw; go_simp; first | done | with_reducible rfl)
    refine gkp 3 ?_
    refine gkt 4 ?_ (h := by intro W hSw; obtain ⟨⟨y0, y1, y2, y3, y4⟩, _⟩ := hSw; go_simp; first | done | with_reducible rfl)
    refine gk1 5 (fun K hK => ?_)
    go_simp
    go_at_call 52; refine (AC.out _).mono ?_; rintro e w6 ⟨rfl, h6⟩; have hR : (fun W : World => C5 W (w.heap.size) ⟨false, a, b, c, d⟩ ∧ Below w.heap.size w W) w6 := ⟨hHeld.1.keep h6, gt hHeld.2 h6⟩; have hb := hR.2; clear h6
    refine hK.out _ _ hR (fun hHeld => ?_)
    clear hK K
    (try simp only [Act.put, sA, sZ, sS])
    refine gkp 6 ?_ (v := .bool g) (h := by intro W hSw; go_simp; first | done | with_reducible rfl)
    refine gkp 7 ?_
    refine wpAnyK_done (by kernel_rfl) ?_ _
    go_wp2
    go_ret
    exact ⟨rfl, (by repeat (first | with_reducible exact Below.refl _ _ | with_reducible assumption | with_reducible refine Below.drew ?_ | with_reducible refine below_drewN ?_ _ | with_reducible refine Below.alloc ?_ (by simp <;> omega) _ | with_reducible refine Below.setCell ?_ (by simp <;> omega) _))⟩
set_option maxRecDepth 100000 in
theorem good_call (r : Rect) (w : World) : Calls Tryz.prog 23 #[.agg #[.bool (r).n, .int .i64 (r).lx, .int .i64 (r).ly, .int .i64 (r).hx, .int .i64 (r).hy]] w fun e w' => e = .returned (.bool (goodR r)) ∧ Below w.heap.size w w' := good_v r.n r.lx r.ly r.hx r.hy w
set_option maxRecDepth 100000 in
set_option maxHeartbeats 4000000 in
theorem orNone_call (r : Rect) (w : World) : Calls Tryz.prog 95 #[.agg #[.bool (r).n, .int .i64 (r).lx, .int .i64 (r).ly, .int .i64 (r).hx, .int .i64 (r).hy]] w fun e w' => e = .returned (.agg #[.bool (orR r).n, .int .i64 (orR r).lx, .int .i64 (orR r).ly, .int .i64 (orR r).hx, .int .i64 (orR r).hy]) ∧ Below w.heap.size w w' := by
  have GC := hid (good_call r)
  have NC := hid none_call
  have BT := hid ((B5.new w r).keep (ext1 (.cells #[.bool false, .int .i64 0, .int .i64 0, .int .i64 0, .int .i64 0] 27)))
  have BZ : Hid (B5 ((w.alloc (.cells #[.bool (r).n, .int .i64 (r).lx, .int .i64 (r).ly, .int .i64 (r).hx, .int .i64 (r).hy] 27)).alloc (.cells #[.bool false, .int .i64 0, .int .i64 0, .int .i64 0, .int .i64 0] 27)) (w.heap.size + 1) ⟨false, 0, 0, 0, 0⟩) := hid (by repeat (first | (refine at_new ?_; first | with_reducible rfl | (simp only [World.size_alloc]; done)) | refine at_old ?_))
  obtain ⟨y0, y1, y2, y3, y4⟩ := BT.out.c
  cases hg : goodR r with
  | true =>
    rw [show orR r = r by simp [orR, hg]]
    rw [hg] at GC
    clear hg
    go_enter Tryz.func95, Tryz.ntmps95
    go_wp2_with (go_at_call 23; refine (GC.out _).mono ?_; rintro e w6 ⟨rfl, h6⟩; have hb := gt below2 h6; have C1 := BT.out.keep h6; have B1 := BZ.out.keep h6; obtain ⟨c0, c1, c2, c3, c4⟩ := C1.c; obtain ⟨x0, x1, x2, x3, x4⟩ := B1.c; have f0 := B1.fz 0; have f1 := B1.fz 1; have f2 := B1.fz 2; have f3 := B1.fz 3; have f4 := B1.fz 4)
    obtain ⟨z0, z1, z2, z3, z4⟩ := (B1.set r).c
    exact bodyPost_ret (v := .agg #[.bool (r).n, .int .i64 (r).lx, .int .i64 (r).ly, .int .i64 (r).hx, .int .i64 (r).hy]) (by simp [results, Tryz.results95, go_sem, z0, z1, z2, z3, z4]) rfl ⟨rfl, (by repeat (first | with_reducible exact Below.refl _ _ | with_reducible assumption | with_reducible refine Below.drew ?_ | with_reducible refine below_drewN ?_ _ | with_reducible refine Below.alloc ?_ (by simp <;> omega) _ | with_reducible refine Below.setCell ?_ (by simp <;> omega) _))⟩
  | false =>
    rw [show orR r = noR by simp [orR, hg]]
    rw [hg] at GC
    clear hg
    go_enter Tryz.func95, Tryz.ntmps95
    go_wp2_with (first | (go_at_call 23; refine (GC.out _).mono ?_; rintro e w6 ⟨rfl, h6⟩; have hb := gt below2 h6; have B1 := hid (BZ.out.keep h6)) | (go_at_call 50; refine (NC.out _).mono ?_; rintro e w7 ⟨rfl, h7⟩; have hb7 := gt hb h7; have B2 := B1.out.keep h7; obtain ⟨x0, x1, x2, x3, x4⟩ := B2.c; have f0 := B2.fz 0; have f1 := B2.fz 1; have f2 := B2.fz 2; have f3 := B2.fz 3; have f4 := B2.fz 4))
    obtain ⟨z0, z1, z2, z3, z4⟩ := (B2.set noR).c
    simp only [noR] at z0 z1 z2 z3 z4
    exact bodyPost_ret (v := .agg #[.bool (noR).n, .int .i64 (noR).lx, .int .i64 (noR).ly, .int .i64 (noR).hx, .int .i64 (noR).hy]) (by simp [results, Tryz.results95, go_sem, noR, z0, z1, z2, z3, z4]) rfl ⟨rfl, (by repeat (first | with_reducible exact Below.refl _ _ | with_reducible assumption | with_reducible refine Below.drew ?_ | with_reducible refine below_drewN ?_ _ | with_reducible refine Below.alloc ?_ (by simp <;> omega) _ | with_reducible refine Below.setCell ?_ (by simp <;> omega) _))⟩
end Bxs
end Go.Proofs.YtpmfedimjjifaaaGreatDoor
