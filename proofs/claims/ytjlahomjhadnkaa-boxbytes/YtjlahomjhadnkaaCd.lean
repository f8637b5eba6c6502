/- The program's Meets, Holds, Equal and Area; no statement of the seat is proved here. -/
import Derived.Test.YtjlahomjhadnkaaCc
import Derived.Test.YtjlahomjhadnkaaWWa
namespace Go.Proofs.Ytjlahomjhadnkaa
open Go.RowKit Go.Maps Wid

/-- A number in three words, in a block of its own. -/
def B3 (W : World) (b n : Nat) : Prop := W.heap[b]? = some (.cells #[.int .u64 (W0 n), .int .u64 (W1 n), .int .u64 (W2 n)] 28)
theorem B3.c {W : World} {b n : Nat} (h : B3 W b n) : W.cell? ⟨b, 0, none⟩ = some (.int .u64 (W0 n)) ∧ W.cell? ⟨b, 1, none⟩ = some (.int .u64 (W1 n)) ∧ W.cell? ⟨b, 2, none⟩ = some (.int .u64 (W2 n)) := by
  unfold B3 at h
  refine ⟨?_, ?_, ?_⟩ <;> simp [World.cell?, h]
theorem B3.fz {W : World} {b n : Nat} (h : B3 W b n) (i : Nat) : W.frozen? ⟨b, i, none⟩ = false := by
  unfold B3 at h
  simp [World.frozen?, h]
theorem B3.lt {W : World} {b n : Nat} (h : B3 W b n) : b < W.heap.size := (Array.getElem?_eq_some_iff.1 h).1
theorem B3.keep {w w' : World} {b n : Nat} (h : B3 w b n) (k : Below w.heap.size w w') : B3 w' b n := (k.block b h.lt).trans h
theorem B3.set {W : World} {b n : Nat} (h : B3 W b n) (m : Nat) : B3 (((W.setCell ⟨b, 0, none⟩ (.int .u64 (W0 m))).setCell ⟨b, 1, none⟩ (.int .u64 (W1 m))).setCell ⟨b, 2, none⟩ (.int .u64 (W2 m))) b m := by
  have h0 := heap_setCell_same W b 0 _ 28 (.int .u64 (W0 m)) h
  have h1 := heap_setCell_same _ b 1 _ 28 (.int .u64 (W1 m)) h0
  have h2 := heap_setCell_same _ b 2 _ 28 (.int .u64 (W2 m)) h1
  unfold B3
  simpa using h2
theorem B3.far {W : World} {b c n : Nat} (h : B3 W c n) (hc : c ≠ b) (i : Nat) (v : Value) : B3 (W.setCell ⟨b, i, none⟩ v) c n := by
  unfold B3 at *
  rw [← h]
  exact heap_setCell_other _ _ _ _ hc
theorem B3.far3 {W : World} {b c n : Nat} (h : B3 W c n) (hc : c ≠ b) (u v x : Value) : B3 (((W.setCell ⟨b, 0, none⟩ u).setCell ⟨b, 1, none⟩ v).setCell ⟨b, 2, none⟩ x) c n := ((h.far hc _ _).far hc _ _).far hc _ _
theorem B3.far5 {W : World} {b c n : Nat} (h : B3 W c n) (hc : c ≠ b) (u v x y z : Value) : B3 (((((W.setCell ⟨b, 0, none⟩ u).setCell ⟨b, 1, none⟩ v).setCell ⟨b, 2, none⟩ x).setCell ⟨b, 3, none⟩ y).setCell ⟨b, 4, none⟩ z) c n := ((((h.far hc _ _).far hc _ _).far hc _ _).far hc _ _).far hc _ _
theorem B3.zero {W : World} {b : Nat} (h : W.heap[b]? = some (.cells #[.int .u64 0, .int .u64 0, .int .u64 0] 28)) : B3 W b 0 := h
theorem B5.far3 {W : World} {b c : Nat} {r : Rect} (h : B5 W c r) (hc : c ≠ b) (u v x : Value) : B5 (((W.setCell ⟨b, 0, none⟩ u).setCell ⟨b, 1, none⟩ v).setCell ⟨b, 2, none⟩ x) c r := ((h.far hc _ _).far hc _ _).far hc _ _

/-- Ordinates are numbers of a machine. -/
def Bd (r : Rect) : Prop := (-9223372036854775808 ≤ r.lx ∧ r.lx ≤ 9223372036854775807) ∧ (-9223372036854775808 ≤ r.ly ∧ r.ly ≤ 9223372036854775807) ∧ (-9223372036854775808 ≤ r.hx ∧ r.hx ≤ 9223372036854775807) ∧ (-9223372036854775808 ≤ r.hy ∧ r.hy ≤ 9223372036854775807)
theorem bd_no : Bd noR := by unfold Bd noR; simp
theorem bd_or {r : Rect} (h : Bd r) : Bd (orR r) := by
  unfold orR
  split
  · exact h
  · exact bd_no
theorem bd_uni {a b : Rect} (ha : Bd a) (hb : Bd b) : Bd (uniR a b) := by
  have h1 := bd_or ha
  have h2 := bd_or hb
  unfold uniR
  split
  · exact h2
  · split
    · exact h1
    · unfold Bd at *
      simp only
      omega
def meetsR (a b : Rect) : Bool := !a.n && !b.n && goodR ⟨false, max a.lx b.lx, max a.ly b.ly, min a.hx b.hx, min a.hy b.hy⟩
def holdsR (a b : Rect) : Bool := eqR (uniR a b) (orR a)
def equalR (a b : Rect) : Bool := eqR (orR a) (orR b)
def areaN (r : Rect) : Nat := spanN (orR r).lx (orR r).hx * spanN (orR r).ly (orR r).hy
theorem area_lt {r : Rect} (h : Bd r) : areaN r < 340282366920938463463374607431768211456 := by
  have h1 := bd_or h
  unfold Bd at h1
  exact mul_lt _ _ (spanN_lt _ _ h1.1.1 h1.2.2.1.2) (spanN_lt _ _ h1.2.1.1 h1.2.2.2.2)

set_option maxRecDepth 100000 in
set_option maxHeartbeats 1000000 in
theorem meets_call (a b : Rect) (w : World) : Calls Try.prog 14 #[.agg #[.bool (a).n, .int .i64 (a).lx, .int .i64 (a).ly, .int .i64 (a).hx, .int .i64 (a).hy], .agg #[.bool (b).n, .int .i64 (b).lx, .int .i64 (b).ly, .int .i64 (b).hx, .int .i64 (b).hy]] w fun e w' => e = .returned (.bool (meetsR a b)) ∧ Below w.heap.size w w' := by
  obtain ⟨an, a0, a1, a2, a3⟩ := a
  obtain ⟨bn, b0, b1, b2, b3⟩ := b
  have LC := hid low_call
  have HC := hid high_call
  have GC := hid (good_v false (max a0 b0) (max a1 b1) (min a2 b2) (min a3 b3))
  cases an with
  | true =>
    rw [show meetsR ⟨true, a0, a1, a2, a3⟩ ⟨bn, b0, b1, b2, b3⟩ = false from rfl]
    go_enter Try.func14, Try.ntmps14
    go_wp2
    go_ret
    exact ⟨rfl, (by repeat (first | with_reducible exact Below.refl _ _ | with_reducible assumption | with_reducible refine Below.drew ?_ | with_reducible refine below_drewN ?_ _ | with_reducible refine Below.alloc ?_ (by simp <;> omega) _ | with_reducible refine Below.setCell ?_ (by simp <;> omega) _))⟩
  | false =>
    cases bn with
    | true =>
      rw [show meetsR ⟨false, a0, a1, a2, a3⟩ ⟨true, b0, b1, b2, b3⟩ = false from rfl]
      go_enter Try.func14, Try.ntmps14
      go_wp2
      go_ret
      exact ⟨rfl, (by repeat (first | with_reducible exact Below.refl _ _ | with_reducible assumption | with_reducible refine Below.drew ?_ | with_reducible refine below_drewN ?_ _ | with_reducible refine Below.alloc ?_ (by simp <;> omega) _ | with_reducible refine Below.setCell ?_ (by simp <;> omega) _))⟩
    | false =>
      rw [show meetsR ⟨false, a0, a1, a2, a3⟩ ⟨false, b0, b1, b2, b3⟩ = goodR ⟨false, max a0 b0, max a1 b1, min a2 b2, min a3 b3⟩ from by simp [meetsR]]
      generalize goodR ⟨false, max a0 b0, max a1 b1, min a2 b2, min a3 b3⟩ = g at *
      go_enter Try.func14, Try.ntmps14
      go_wp2
      refine wp_region_K (S := (fun W : World => C5 W (w.heap.size) ⟨false, a0, a1, a2, a3⟩ ∧ C5 W (w.heap.size + 1) ⟨false, b0, b1, b2, b3⟩ ∧ Below w.heap.size w W)) (fun _ => false) (by kernel_rfl) (⟨by exact C5.of (by repeat (first | (refine at_new ?_; first | with_reducible rfl | (simp only [World.size_alloc]; done)) | refine at_old ?_)), by exact C5.of (by repeat (first | (refine at_new ?_; first | with_reducible rfl | (simp only [World.size_alloc]; done)) | refine at_old ?_)), (by repeat (first | with_reducible exact Below.refl _ _ | with_reducible assumption | with_reducible refine Below.drew ?_ | with_reducible refine below_drewN ?_ _ | with_reducible refine Below.alloc ?_ (by simp <;> omega) _ | with_reducible refine Below.setCell ?_ (by simp <;> omega) _))⟩) (fun hHeld => ?_)
      refine gkp 0 ?_
      refine gkt 1 ?_ (h := by intro W hSw; obtain ⟨⟨y0, y1, y2, y3, y4⟩, ⟨y5, y6, y7, y8, y9⟩, _⟩ := hSw; go_simp; first | done | with_reducible rfl)
      refine gkp 2 ?_
      refine gkt 3 ?_ (h := by intro W hSw; obtain ⟨⟨y0, y1, y2, y3, y4⟩, ⟨y5, y6, y7, y8, y9⟩, _⟩ := hSw; go_simp; first | done | with_reducible rfl)
      refine gkp 5 ?_
      refine gkt 6 ?_ (h := by intro W hSw; obtain ⟨⟨y0, y1, y2, y3, y4⟩, ⟨y5, y6, y7, y8, y9⟩, _⟩ := hSw; go_simp; first | done | with_reducible rfl)
      refine gkp 7 ?_
      refine gkt 8 ?_ (h := by intro W hSw; obtain ⟨⟨y0, y1, y2, y3, y4⟩, ⟨y5, y6, y7, y8, y9⟩, _⟩ := hSw; go_simp; first | done | with_reducible rfl)
      refine gk1 4 (fun K hK => ?_)
      go_simp
      go_at_call 45; refine (HC.out _ _ _ _ _).mono ?_; rintro e w6 ⟨rfl, h6⟩; have hR : (fun W : World => C5 W (w.heap.size) ⟨false, a0, a1, a2, a3⟩ ∧ C5 W (w.heap.size + 1) ⟨false, b0, b1, b2, b3⟩ ∧ Below w.heap.size w W) w6 := ⟨hHeld.1.keep h6, hHeld.2.1.keep h6, gt hHeld.2.2 h6⟩; clear h6
      refine hK.out _ _ hR (fun hHeld => ?_)
      clear hK K
      (try simp only [Act.put, sA, sZ, sS])
      refine gk1 9 (fun K hK => ?_)
      go_simp
      go_at_call 44; refine (LC.out _ _ _ _ _).mono ?_; rintro e w6 ⟨rfl, h6⟩; have hR : (fun W : World => C5 W (w.heap.size) ⟨false, a0, a1, a2, a3⟩ ∧ C5 W (w.heap.size + 1) ⟨false, b0, b1, b2, b3⟩ ∧ Below w.heap.size w W) w6 := ⟨hHeld.1.keep h6, hHeld.2.1.keep h6, gt hHeld.2.2 h6⟩; clear h6
      refine hK.out _ _ hR (fun hHeld => ?_)
      clear hK K
      (try simp only [Act.put, sA, sZ, sS])
      refine gkp 10 ?_
      refine gk1 11 (fun K hK => ?_)
      go_simp
      go_at_call 10; refine (GC.out _).mono ?_; rintro e w6 ⟨rfl, h6⟩; have hR : (fun W : World => C5 W (w.heap.size) ⟨false, a0, a1, a2, a3⟩ ∧ C5 W (w.heap.size + 1) ⟨false, b0, b1, b2, b3⟩ ∧ Below w.heap.size w W) w6 := ⟨hHeld.1.keep h6, hHeld.2.1.keep h6, gt hHeld.2.2 h6⟩; have hb := hR.2.2; clear h6
      refine hK.out _ _ hR (fun hHeld => ?_)
      clear hK K
      (try simp only [Act.put, sA, sZ, sS])
      refine gkp 12 ?_
      refine wpAnyK_done (by kernel_rfl) ?_ _
      go_wp2
      go_ret
      exact ⟨rfl, (by repeat (first | with_reducible exact Below.refl _ _ | with_reducible assumption | with_reducible refine Below.drew ?_ | with_reducible refine below_drewN ?_ _ | with_reducible refine Below.alloc ?_ (by simp <;> omega) _ | with_reducible refine Below.setCell ?_ (by simp <;> omega) _))⟩
set_option maxRecDepth 100000 in
set_option maxHeartbeats 1000000 in
theorem holds_call (a b : Rect) (w : World) : Calls Try.prog 16 #[.agg #[.bool (a).n, .int .i64 (a).lx, .int .i64 (a).ly, .int .i64 (a).hx, .int .i64 (a).hy], .agg #[.bool (b).n, .int .i64 (b).lx, .int .i64 (b).ly, .int .i64 (b).hx, .int .i64 (b).hy]] w fun e w' => e = .returned (.bool (holdsR a b)) ∧ Below w.heap.size w w' := by
  have UC := hid (union_call a b)
  have OA := hid (orNone_call a)
  have PE := box_eql (uniR a b) (orR a)
  rw [show holdsR a b = eqR (uniR a b) (orR a) from rfl]
  generalize eqR (uniR a b) (orR a) = g at *
  generalize uniR a b = U at *
  generalize orR a = A at *
  go_enter Try.func16, Try.ntmps16
  go_wp2
  refine wp_region_K (S := (fun W : World => C5 W (w.heap.size) a ∧ C5 W (w.heap.size + 1) b ∧ Below w.heap.size w W)) (fun _ => false) (by kernel_rfl) (⟨by exact C5.of (by repeat (first | (refine at_new ?_; first | with_reducible rfl | (simp only [World.size_alloc]; done)) | refine at_old ?_)), by exact C5.of (by repeat (first | (refine at_new ?_; first | with_reducible rfl | (simp only [World.size_alloc]; done)) | refine at_old ?_)), (by repeat (first | with_reducible exact Below.refl _ _ | with_reducible assumption | with_reducible refine Below.drew ?_ | with_reducible refine below_drewN ?_ _ | with_reducible refine Below.alloc ?_ (by simp <;> omega) _ | with_reducible refine Below.setCell ?_ (by simp <;> omega) _))⟩) (fun hHeld => ?_)
  refine gkt 0 ?_ (h := by intro W hSw; obtain ⟨⟨y0, y1, y2, y3, y4⟩, ⟨y5, y6, y7, y8, y9⟩, _⟩ := hSw; go_simp; first | done | with_reducible rfl)
  refine gkt 1 ?_ (h := by intro W hSw; obtain ⟨⟨y0, y1, y2, y3, y4⟩, ⟨y5, y6, y7, y8, y9⟩, _⟩ := hSw; go_simp; first | done | with_reducible rfl)
  refine gkt 3 ?_ (h := by intro W hSw; obtain ⟨⟨y0, y1, y2, y3, y4⟩, ⟨y5, y6, y7, y8, y9⟩, _⟩ := hSw; go_simp; first | done | with_reducible rfl)
  refine gk1 2 (fun K hK => ?_)
  go_simp
  go_at_call 12; refine (UC.out _).mono ?_; rintro e w6 ⟨rfl, h6⟩; have hR : (fun W : World => C5 W (w.heap.size) a ∧ C5 W (w.heap.size + 1) b ∧ Below w.heap.size w W) w6 := ⟨hHeld.1.keep h6, hHeld.2.1.keep h6, gt hHeld.2.2 h6⟩; clear h6
  refine hK.out _ _ hR (fun hHeld => ?_)
  clear hK K
  (try simp only [Act.put, sA, sZ, sS])
  refine gk1 4 (fun K hK => ?_)
  go_simp
  go_at_call 43; refine (OA.out _).mono ?_; rintro e w6 ⟨rfl, h6⟩; have hR : (fun W : World => C5 W (w.heap.size) a ∧ C5 W (w.heap.size + 1) b ∧ Below w.heap.size w W) w6 := ⟨hHeld.1.keep h6, hHeld.2.1.keep h6, gt hHeld.2.2 h6⟩; have hb := hR.2.2; clear h6
  refine hK.out _ _ hR (fun hHeld => ?_)
  clear hK K
  (try simp only [Act.put, sA, sZ, sS])
  refine gkp 5 ?_ (v := .bool g) (h := by intro W hSw; go_simp; first | done | with_reducible rfl)
  refine gkp 6 ?_
  refine wpAnyK_done (by kernel_rfl) ?_ _
  go_wp2
  go_ret
  exact ⟨rfl, (by repeat (first | with_reducible exact Below.refl _ _ | with_reducible assumption | with_reducible refine Below.drew ?_ | with_reducible refine below_drewN ?_ _ | with_reducible refine Below.alloc ?_ (by simp <;> omega) _ | with_reducible refine Below.setCell ?_ (by simp <;> omega) _))⟩
set_option maxRecDepth 100000 in
set_option maxHeartbeats 1000000 in
theorem equal_call (a b : Rect) (w : World) : Calls Try.prog 18 #[.agg #[.bool (a).n, .int .i64 (a).lx, .int .i64 (a).ly, .int .i64 (a).hx, .int .i64 (a).hy], .agg #[.bool (b).n, .int .i64 (b).lx, .int .i64 (b).ly, .int .i64 (b).hx, .int .i64 (b).hy]] w fun e w' => e = .returned (.bool (equalR a b)) ∧ Below w.heap.size w w' := by
  have OA := hid (orNone_call a)
  have OB := hid (orNone_call b)
  have PE := box_eql (orR a) (orR b)
  rw [show equalR a b = eqR (orR a) (orR b) from rfl]
  generalize eqR (orR a) (orR b) = g at *
  generalize orR a = A at *
  generalize orR b = B at *
  go_enter Try.func18, Try.ntmps18
  go_wp2
  refine wp_region_K (S := (fun W : World => C5 W (w.heap.size) a ∧ C5 W (w.heap.size + 1) b ∧ Below w.heap.size w W)) (fun _ => false) (by kernel_rfl) (⟨by exact C5.of (by repeat (first | (refine at_new ?_; first | with_reducible rfl | (simp only [World.size_alloc]; done)) | refine at_old ?_)), by exact C5.of (by repeat (first | (refine at_new ?_; first | with_reducible rfl | (simp only [World.size_alloc]; done)) | refine at_old ?_)), (by repeat (first | with_reducible exact Below.refl _ _ | with_reducible assumption | with_reducible refine Below.drew ?_ | with_reducible refine below_drewN ?_ _ | with_reducible refine Below.alloc ?_ (by simp <;> omega) _ | with_reducible refine Below.setCell ?_ (by simp <;> omega) _))⟩) (fun hHeld => ?_)
  refine gkt 0 ?_ (h := by intro W hSw; obtain ⟨⟨y0, y1, y2, y3, y4⟩, ⟨y5, y6, y7, y8, y9⟩, _⟩ := hSw; go_simp; first | done | with_reducible rfl)
  refine gkt 2 ?_ (h := by intro W hSw; obtain ⟨⟨y0, y1, y2, y3, y4⟩, ⟨y5, y6, y7, y8, y9⟩, _⟩ := hSw; go_simp; first | done | with_reducible rfl)
  refine gk1 1 (fun K hK => ?_)
  go_simp
  go_at_call 43; refine (OA.out _).mono ?_; rintro e w6 ⟨rfl, h6⟩; have hR : (fun W : World => C5 W (w.heap.size) a ∧ C5 W (w.heap.size + 1) b ∧ Below w.heap.size w W) w6 := ⟨hHeld.1.keep h6, hHeld.2.1.keep h6, gt hHeld.2.2 h6⟩; clear h6
  refine hK.out _ _ hR (fun hHeld => ?_)
  clear hK K
  (try simp only [Act.put, sA, sZ, sS])
  refine gk1 3 (fun K hK => ?_)
  go_simp
  go_at_call 43; refine (OB.out _).mono ?_; rintro e w6 ⟨rfl, h6⟩; have hR : (fun W : World => C5 W (w.heap.size) a ∧ C5 W (w.heap.size + 1) b ∧ Below w.heap.size w W) w6 := ⟨hHeld.1.keep h6, hHeld.2.1.keep h6, gt hHeld.2.2 h6⟩; have hb := hR.2.2; clear h6
  refine hK.out _ _ hR (fun hHeld => ?_)
  clear hK K
  (try simp only [Act.put, sA, sZ, sS])
  refine gkp 4 ?_ (v := .bool g) (h := by intro W hSw; go_simp; first | done | with_reducible rfl)
  refine gkp 5 ?_
  refine wpAnyK_done (by kernel_rfl) ?_ _
  go_wp2
  go_ret
  exact ⟨rfl, (by repeat (first | with_reducible exact Below.refl _ _ | with_reducible assumption | with_reducible refine Below.drew ?_ | with_reducible refine below_drewN ?_ _ | with_reducible refine Below.alloc ?_ (by simp <;> omega) _ | with_reducible refine Below.setCell ?_ (by simp <;> omega) _))⟩
set_option maxRecDepth 100000 in
set_option maxHeartbeats 1000000 in
theorem area_call (r : Rect) (h : Bd r) (w : World) : Calls Try.prog 21 #[.agg #[.bool (r).n, .int .i64 (r).lx, .int .i64 (r).ly, .int .i64 (r).hx, .int .i64 (r).hy]] w fun e w' => e = .returned (.agg #[.int .u64 (W0 (areaN r)), .int .u64 (W1 (areaN r)), .int .u64 (W2 (areaN r))]) ∧ Below w.heap.size w w' := by
  have OC := hid (orNone_call r)
  have hq := bd_or h
  rw [show areaN r = spanN (orR r).lx (orR r).hx * spanN (orR r).ly (orR r).hy from rfl]
  generalize orR r = q at *
  obtain ⟨⟨c0, c1⟩, ⟨c2, c3⟩, ⟨c4, c5⟩, ⟨c6, c7⟩⟩ := hq
  have SX := hid (fun W => span_any q.lx q.hx W c0 c1 c4 c5)
  have SY := hid (fun W => span_any q.ly q.hy W c2 c3 c6 c7)
  have TC := hid (times_any (spanN q.lx q.hx) (spanN q.ly q.hy) (spanN_lt _ _ c0 c5) (spanN_lt _ _ c2 c7))
  clear c0 c1 c2 c3 c4 c5 c6 c7 h
  generalize spanN q.lx q.hx = sx at *
  generalize spanN q.ly q.hy = sy at *
  have D0 := hid (show B5 ((w.alloc (.cells #[.bool (r).n, .int .i64 (r).lx, .int .i64 (r).ly, .int .i64 (r).hx, .int .i64 (r).hy] 25)).alloc (.cells #[.int .u64 0, .int .u64 0, .int .u64 0] 28)) w.heap.size r from (by repeat (first | (refine at_new ?_; first | with_reducible rfl | (simp only [World.size_alloc]; done)) | refine at_old ?_)))
  have D1 := hid (show B3 ((w.alloc (.cells #[.bool (r).n, .int .i64 (r).lx, .int .i64 (r).ly, .int .i64 (r).hx, .int .i64 (r).hy] 25)).alloc (.cells #[.int .u64 0, .int .u64 0, .int .u64 0] 28)) (w.heap.size + 1) 0 from B3.zero (by repeat (first | (refine at_new ?_; first | with_reducible rfl | (simp only [World.size_alloc]; done)) | refine at_old ?_)))
  obtain ⟨d0, d1, d2, d3, d4⟩ := D0.out.c
  go_enter Try.func21, Try.ntmps21
  go_wp2_with (go_at_call 43; refine (OC.out _).mono ?_; rintro e w6 ⟨rfl, h6⟩; have hb := gt below2 h6; have E0 := D0.out.keep h6; have E1 := D1.out.keep h6; obtain ⟨x0, x1, x2, x3, x4⟩ := E0.c; have f0 := E0.fz 0; have f1 := E0.fz 1; have f2 := E0.fz 2; have f3 := E0.fz 3; have f4 := E0.fz 4; clear h6 D0 D1 d0 d1 d2 d3 d4)
  have F0 := E0.set q
  have F1 := E1.far5 (show w.heap.size + 1 ≠ w.heap.size by omega) (.bool q.n) (.int .i64 q.lx) (.int .i64 q.ly) (.int .i64 q.hx) (.int .i64 q.hy)
  have hc := show Below w.heap.size w (((((((((((w6).setCell ⟨w.heap.size, 0, none⟩ (.bool (q).n))).setCell ⟨w.heap.size, 1, none⟩ (.int .i64 (q).lx))).setCell ⟨w.heap.size, 2, none⟩ (.int .i64 (q).ly))).setCell ⟨w.heap.size, 3, none⟩ (.int .i64 (q).hx))).setCell ⟨w.heap.size, 4, none⟩ (.int .i64 (q).hy))) from (by repeat (first | with_reducible exact Below.refl _ _ | with_reducible assumption | with_reducible refine Below.drew ?_ | with_reducible refine below_drewN ?_ _ | with_reducible refine Below.alloc ?_ (by simp <;> omega) _ | with_reducible refine Below.setCell ?_ (by simp <;> omega) _))
  clear E0 E1 hb x0 x1 x2 x3 x4 f0 f1 f2 f3 f4
  generalize ((((((((((w6).setCell ⟨w.heap.size, 0, none⟩ (.bool (q).n))).setCell ⟨w.heap.size, 1, none⟩ (.int .i64 (q).lx))).setCell ⟨w.heap.size, 2, none⟩ (.int .i64 (q).ly))).setCell ⟨w.heap.size, 3, none⟩ (.int .i64 (q).hx))).setCell ⟨w.heap.size, 4, none⟩ (.int .i64 (q).hy)) = w7 at *
  refine wp_region_K (S := (fun W : World => C5 W (w.heap.size) q ∧ B3 W (w.heap.size + 1) 0 ∧ Below w.heap.size w W)) (fun i => i == 15) (by kernel_rfl) (by exact ⟨F0.c, F1, (by repeat (first | with_reducible exact Below.refl _ _ | with_reducible assumption | with_reducible refine Below.drew ?_ | with_reducible refine below_drewN ?_ _ | with_reducible refine Below.alloc ?_ (by simp <;> omega) _ | with_reducible refine Below.setCell ?_ (by simp <;> omega) _))⟩) (fun hHeld => ?_)
  refine gkp 0 ?_
  refine gkp 1 ?_
  refine gkt 2 ?_ (h := by intro W hSw; obtain ⟨⟨y0, y1, y2, y3, y4⟩, _, _⟩ := hSw; go_simp; first | done | with_reducible rfl)
  refine gkp 3 ?_
  refine gkp 4 ?_
  refine gkt 5 ?_ (h := by intro W hSw; obtain ⟨⟨y0, y1, y2, y3, y4⟩, _, _⟩ := hSw; go_simp; first | done | with_reducible rfl)
  refine gkp 7 ?_
  refine gkp 8 ?_
  refine gkt 9 ?_ (h := by intro W hSw; obtain ⟨⟨y0, y1, y2, y3, y4⟩, _, _⟩ := hSw; go_simp; first | done | with_reducible rfl)
  refine gkp 10 ?_
  refine gkp 11 ?_
  refine gkt 12 ?_ (h := by intro W hSw; obtain ⟨⟨y0, y1, y2, y3, y4⟩, _, _⟩ := hSw; go_simp; first | done | with_reducible rfl)
  refine gk1 6 (fun K hK => ?_)
  go_simp
  go_at_call 50; refine (SX.out _).mono ?_; rintro e w7 ⟨rfl, h7⟩; subst h7; have hR := hHeld
  refine hK.out _ _ hR (fun hHeld => ?_)
  clear hK K
  (try simp only [Act.put, sA, sZ, sS])
  refine gk1 13 (fun K hK => ?_)
  go_simp
  go_at_call 50; refine (SY.out _).mono ?_; rintro e w7 ⟨rfl, h7⟩; subst h7; have hR := hHeld
  refine hK.out _ _ hR (fun hHeld => ?_)
  clear hK K
  (try simp only [Act.put, sA, sZ, sS])
  refine gk1 14 (fun K hK => ?_)
  go_simp
  go_at_call 49; refine (TC.out _).mono ?_; rintro e w6 ⟨rfl, h6⟩; have hR : (fun W : World => C5 W (w.heap.size) q ∧ B3 W (w.heap.size + 1) 0 ∧ Below w.heap.size w W) w6 := ⟨hHeld.1.keep h6, hHeld.2.1.keep h6, gt hHeld.2.2 h6⟩; have Z := hR.2.1; obtain ⟨u0, u1, u2⟩ := Z.c; have g0 := Z.fz 0; have g1 := Z.fz 1; have g2 := Z.fz 2; have hc := hR.2.2; clear h6
  refine hK.out _ _ hR (fun hHeld => ?_)
  clear hK K
  (try simp only [Act.put, sA, sZ, sS])
  refine gkl 15 (fun K hK => ?_)
  go_simp
  refine hK.out _ _ ?_
  clear hK K
  (try simp only [Act.put, sA, sZ, sS])
  refine wpAnyK_done (by kernel_rfl) ?_ _
  go_wp2
  obtain ⟨z0, z1, z2⟩ := (Z.set (sx * sy)).c
  exact bodyPost_ret (v := .agg #[.int .u64 (W0 (sx * sy)), .int .u64 (W1 (sx * sy)), .int .u64 (W2 (sx * sy))]) (by simp [results, Try.results21, go_sem, z0, z1, z2]) rfl ⟨rfl, (by repeat (first | with_reducible exact Below.refl _ _ | with_reducible assumption | with_reducible refine Below.drew ?_ | with_reducible refine below_drewN ?_ _ | with_reducible refine Below.alloc ?_ (by simp <;> omega) _ | with_reducible refine Below.setCell ?_ (by simp <;> omega) _))⟩
end Go.Proofs.Ytjlahomjhadnkaa
