/- Flags, sizes, reference systems, numbers and beginnings; no statement of the seat is proved here. -/
import Derived.Test.YtpmfedimjjifaaaGreatDoorJ17
import Derived.Test.YtpmfedimjjifaaaGreatDoorJ16
namespace Go.Proofs.YtpmfedimjjifaaaGreatDoor
open Go.RowKit Go.Maps
open Bxs (Rect)

/-- The flags of a head, as a number. -/
def fl (l b e : Bool) : Nat := (if l then 1 else 0) + (if b then 2 else 0) + (if e then 16 else 0)
def szH (b : Bool) : Nat := if b then 40 else 8
set_option maxRecDepth 100000 in
set_option maxHeartbeats 4000000 in
theorem bit_t (f : Int) (w : World) : Calls Tryz.prog 76 #[.bool true, .int .u8 f] w fun e w' => e = .returned (.int .u8 f) ∧ Below w.heap.size w w' := by
  go_enter Tryz.func76, Tryz.ntmps76
  go_wp2
  go_ret
  exact ⟨rfl, (by repeat (first | with_reducible exact Below.refl _ _ | with_reducible assumption | with_reducible refine Below.drew ?_ | with_reducible refine below_drewN ?_ _ | with_reducible refine Below.alloc ?_ (by simp <;> omega) _ | with_reducible refine Below.setCell ?_ (by simp <;> omega) _))⟩
set_option maxRecDepth 100000 in
set_option maxHeartbeats 4000000 in
theorem bit_f (f : Int) (w : World) : Calls Tryz.prog 76 #[.bool false, .int .u8 f] w fun e w' => e = .returned (.int .u8 0) ∧ Below w.heap.size w w' := by
  go_enter Tryz.func76, Tryz.ntmps76
  go_wp2
  go_ret
  exact ⟨rfl, (by repeat (first | with_reducible exact Below.refl _ _ | with_reducible assumption | with_reducible refine Below.drew ?_ | with_reducible refine below_drewN ?_ _ | with_reducible refine Below.alloc ?_ (by simp <;> omega) _ | with_reducible refine Below.setCell ?_ (by simp <;> omega) _))⟩
set_option maxRecDepth 100000 in
set_option maxHeartbeats 4000000 in
theorem headSize_call (h : Hd) (w : World) : Calls Tryz.prog 21 #[.agg #[.int .i64 (h).srs, .bool (h).l, .bool (h).b, .bool (h).e, .bool (h).x.n, .int .i64 (h).x.lx, .int .i64 (h).x.ly, .int .i64 (h).x.hx, .int .i64 (h).x.hy]] w fun e w' => e = .returned (.int .i64 (szH h.b : Nat)) ∧ Below w.heap.size w w' := by
  obtain ⟨s, l, b, e, n, x0, x1, x2, x3⟩ := h
  simp only
  cases b
  · go_enter Tryz.func21, Tryz.ntmps21
    go_wp2
    go_ret
    exact ⟨rfl, (by repeat (first | with_reducible exact Below.refl _ _ | with_reducible assumption | with_reducible refine Below.drew ?_ | with_reducible refine below_drewN ?_ _ | with_reducible refine Below.alloc ?_ (by simp <;> omega) _ | with_reducible refine Below.setCell ?_ (by simp <;> omega) _))⟩
  · go_enter Tryz.func21, Tryz.ntmps21
    go_wp2
    go_ret
    exact ⟨rfl, (by repeat (first | with_reducible exact Below.refl _ _ | with_reducible assumption | with_reducible refine Below.drew ?_ | with_reducible refine below_drewN ?_ _ | with_reducible refine Below.alloc ?_ (by simp <;> omega) _ | with_reducible refine Below.setCell ?_ (by simp <;> omega) _))⟩
set_option maxRecDepth 100000 in
set_option maxHeartbeats 4000000 in
theorem goodSrs_call (n : Int) (w : World) : Calls Tryz.prog 34 #[.int .i64 n] w fun e w' => e = .returned (.bool (okS n)) ∧ Below w.heap.size w w' := by
  unfold okS
  by_cases h : -2147483648 ≤ n
  · rw [decide_eq_true h, Bool.true_and]
    go_enter Tryz.func34, Tryz.ntmps34
    go_wp2
    go_ret
    exact ⟨rfl, (by repeat (first | with_reducible exact Below.refl _ _ | with_reducible assumption | with_reducible refine Below.drew ?_ | with_reducible refine below_drewN ?_ _ | with_reducible refine Below.alloc ?_ (by simp <;> omega) _ | with_reducible refine Below.setCell ?_ (by simp <;> omega) _))⟩
  · rw [decide_eq_false h, Bool.false_and]
    go_enter Tryz.func34, Tryz.ntmps34
    go_wp2
    go_ret
    exact ⟨rfl, (by repeat (first | with_reducible exact Below.refl _ _ | with_reducible assumption | with_reducible refine Below.drew ?_ | with_reducible refine below_drewN ?_ _ | with_reducible refine Below.alloc ?_ (by simp <;> omega) _ | with_reducible refine Below.setCell ?_ (by simp <;> omega) _))⟩
set_option maxRecDepth 100000 in
set_option maxHeartbeats 4000000 in
theorem number_call (z : Int) (k : Nat) (hk : k ≤ 8) (l : Bool) (w : World) : Calls Tryz.prog 36 #[.int .i64 z, .int .i64 (k : Int), .bool l] w fun e w' => ∃ g, e = .returned (.slice (some ⟨g, 0, none⟩) k k) ∧ w'.ownsRow w.heap.size 5 1 (.slice (some ⟨g, 0, none⟩) k k) k (bs (putN (U z) k l)) ∧ Below w.heap.size w w' := by
  have PA := hid (put_any none 0 0 [] (U z) (k : Int) k l w (Rd.nil w) (by omega) hk (by omega))
  rw [Nat.zero_add, List.nil_append] at PA
  have cv : ∀ W, (convert 3 68 (.int .i64 z)).run Tryz.prog W = .ok (.int .u64 ((U z : Nat) : Int)) W := fun W => by
    rw [show ((U z : Nat) : Int) = IntKind.u64.wrap z by rw [IntKind.wrap_u64]; unfold U; omega]
    kernel_rfl
  generalize putN (U z) k l = xs at *
  generalize U z = u at *
  go_enter Tryz.func36, Tryz.ntmps36
  go_wp2_with (go_at_call 60; refine PA.out.mono ?_; rintro e w6 ⟨rfl, o6, b6⟩; have O6 := hid o6; have B6 := hid b6; clear o6 b6)
  go_ret
  exact ⟨w.heap.size, rfl, O6.out, B6.out⟩
set_option maxRecDepth 100000 in
set_option maxHeartbeats 4000000 in
theorem flags_0 (s : Int) (n : Bool) (x0 x1 x2 x3 : Int) (w : World) : Calls Tryz.prog 47 #[.agg #[.int .i64 s, .bool false, .bool false, .bool false, .bool n, .int .i64 x0, .int .i64 x1, .int .i64 x2, .int .i64 x3]] w fun e w' => e = .returned (.int .u8 0) ∧ Below w.heap.size w w' := by
  have BT := hid bit_t
  have BF := hid bit_f
  have o1 : bits .or .u8 0 0 = 0 := by decide +kernel
  have o2 : bits .or .u8 0 0 = 0 := by decide +kernel
  go_enter Tryz.func47, Tryz.ntmps47
  go_wp2
  refine wp_region_K (S := (fun W : World => C9 W w.heap.size ⟨s, false, false, false, n, x0, x1, x2, x3⟩ ∧ Below w.heap.size w W)) (fun _ => false) (by kernel_rfl) (by exact ⟨(B9.new w ⟨s, false, false, false, n, x0, x1, x2, x3⟩).c, (by repeat (first | with_reducible exact Below.refl _ _ | with_reducible assumption | with_reducible refine Below.drew ?_ | with_reducible refine below_drewN ?_ _ | with_reducible refine Below.alloc ?_ (by simp <;> omega) _ | with_reducible refine Below.setCell ?_ (by simp <;> omega) _))⟩) (fun hHeld => ?_)
  refine any_more (S' := (fun W : World => C9 W w.heap.size ⟨s, false, false, false, n, x0, x1, x2, x3⟩ ∧ Below w.heap.size w W)) hHeld (fun _ h => h) ?_; clear hHeld; intro W0 hHeld
  refine gkp 0 ?_
  refine gkt 1 ?_ (h := by intro W hSw; obtain ⟨⟨y0, y1, y2, y3, y4, y5, y6, y7, y8⟩, _⟩ := hSw; go_simp; first | done | with_reducible rfl)
  refine gkp 3 ?_
  refine gkt 4 ?_ (h := by intro W hSw; obtain ⟨⟨y0, y1, y2, y3, y4, y5, y6, y7, y8⟩, _⟩ := hSw; go_simp; first | done | with_reducible rfl)
  refine gkp 7 ?_
  refine gkt 8 ?_ (h := by intro W hSw; obtain ⟨⟨y0, y1, y2, y3, y4, y5, y6, y7, y8⟩, _⟩ := hSw; go_simp; first | done | with_reducible rfl)
  refine gk1 2 (fun K hK => ?_)
  go_simp
  go_at_call 76; refine (BF.out _ _).mono ?_; rintro e v1 ⟨rfl, h1⟩; have hR : (fun W : World => C9 W w.heap.size ⟨s, false, false, false, n, x0, x1, x2, x3⟩ ∧ Below w.heap.size w W) v1 := ⟨(hHeld.1).keep h1, gt hHeld.2 h1⟩
  refine hK.out _ _ hR (fun hHeld => ?_)
  clear hK K
  (try simp only [Act.put, sA, sZ, sS])
  refine any_more (S' := (fun W : World => C9 W w.heap.size ⟨s, false, false, false, n, x0, x1, x2, x3⟩ ∧ Below w.heap.size w W)) hHeld (fun _ h => h) ?_; clear hR hHeld; intro W1 hHeld
  refine gk1 5 (fun K hK => ?_)
  go_simp
  go_at_call 76; refine (BF.out _ _).mono ?_; rintro e v2 ⟨rfl, h2⟩; have hR : (fun W : World => C9 W w.heap.size ⟨s, false, false, false, n, x0, x1, x2, x3⟩ ∧ Below w.heap.size w W) v2 := ⟨(hHeld.1).keep h2, gt hHeld.2 h2⟩
  refine hK.out _ _ hR (fun hHeld => ?_)
  clear hK K
  (try simp only [Act.put, sA, sZ, sS])
  refine any_more (S' := (fun W : World => C9 W w.heap.size ⟨s, false, false, false, n, x0, x1, x2, x3⟩ ∧ Below w.heap.size w W)) hHeld (fun _ h => h) ?_; clear hR hHeld; intro W2 hHeld
  refine gkp 6 ?_
  refine gk1 9 (fun K hK => ?_)
  go_simp
  go_at_call 76; refine (BF.out _ _).mono ?_; rintro e v3 ⟨rfl, h3⟩; have hR : (fun W : World => C9 W w.heap.size ⟨s, false, false, false, n, x0, x1, x2, x3⟩ ∧ Below w.heap.size w W) v3 := ⟨(hHeld.1).keep h3, gt hHeld.2 h3⟩
  refine hK.out _ _ hR (fun hHeld => ?_)
  clear hK K
  (try simp only [Act.put, sA, sZ, sS])
  refine any_more (S' := (fun W : World => C9 W w.heap.size ⟨s, false, false, false, n, x0, x1, x2, x3⟩ ∧ Below w.heap.size w W)) hHeld (fun _ h => h) ?_; clear hR hHeld; intro W3 hHeld
  refine gkp 10 ?_
  refine gkp 11 ?_
  refine wpAnyK_done (by kernel_rfl) ?_ _
  have hb := (hHeld.2)
  go_wp2
  go_ret
  exact ⟨rfl, hb⟩
set_option maxRecDepth 100000 in
set_option maxHeartbeats 4000000 in
theorem flags_16 (s : Int) (n : Bool) (x0 x1 x2 x3 : Int) (w : World) : Calls Tryz.prog 47 #[.agg #[.int .i64 s, .bool false, .bool false, .bool true, .bool n, .int .i64 x0, .int .i64 x1, .int .i64 x2, .int .i64 x3]] w fun e w' => e = .returned (.int .u8 16) ∧ Below w.heap.size w w' := by
  have BT := hid bit_t
  have BF := hid bit_f
  have o1 : bits .or .u8 0 0 = 0 := by decide +kernel
  have o2 : bits .or .u8 0 16 = 16 := by decide +kernel
  go_enter Tryz.func47, Tryz.ntmps47
  go_wp2
  refine wp_region_K (S := (fun W : World => C9 W w.heap.size ⟨s, false, false, true, n, x0, x1, x2, x3⟩ ∧ Below w.heap.size w W)) (fun _ => false) (by kernel_rfl) (by exact ⟨(B9.new w ⟨s, false, false, true, n, x0, x1, x2, x3⟩).c, (by repeat (first | with_reducible exact Below.refl _ _ | with_reducible assumption | with_reducible refine Below.drew ?_ | with_reducible refine below_drewN ?_ _ | with_reducible refine Below.alloc ?_ (by simp <;> omega) _ | with_reducible refine Below.setCell ?_ (by simp <;> omega) _))⟩) (fun hHeld => ?_)
  refine any_more (S' := (fun W : World => C9 W w.heap.size ⟨s, false, false, true, n, x0, x1, x2, x3⟩ ∧ Below w.heap.size w W)) hHeld (fun _ h => h) ?_; clear hHeld; intro W0 hHeld
  refine gkp 0 ?_
  refine gkt 1 ?_ (h := by intro W hSw; obtain ⟨⟨y0, y1, y2, y3, y4, y5, y6, y7, y8⟩, _⟩ := hSw; go_simp; first | done | with_reducible rfl)
  refine gkp 3 ?_
  refine gkt 4 ?_ (h := by intro W hSw; obtain ⟨⟨y0, y1, y2, y3, y4, y5, y6, y7, y8⟩, _⟩ := hSw; go_simp; first | done | with_reducible rfl)
  refine gkp 7 ?_
  refine gkt 8 ?_ (h := by intro W hSw; obtain ⟨⟨y0, y1, y2, y3, y4, y5, y6, y7, y8⟩, _⟩ := hSw; go_simp; first | done | with_reducible rfl)
  refine gk1 2 (fun K hK => ?_)
  go_simp
  go_at_call 76; refine (BF.out _ _).mono ?_; rintro e v1 ⟨rfl, h1⟩; have hR : (fun W : World => C9 W w.heap.size ⟨s, false, false, true, n, x0, x1, x2, x3⟩ ∧ Below w.heap.size w W) v1 := ⟨(hHeld.1).keep h1, gt hHeld.2 h1⟩
  refine hK.out _ _ hR (fun hHeld => ?_)
  clear hK K
  (try simp only [Act.put, sA, sZ, sS])
  refine any_more (S' := (fun W : World => C9 W w.heap.size ⟨s, false, false, true, n, x0, x1, x2, x3⟩ ∧ Below w.heap.size w W)) hHeld (fun _ h => h) ?_; clear hR hHeld; intro W1 hHeld
  refine gk1 5 (fun K hK => ?_)
  go_simp
  go_at_call 76; refine (BF.out _ _).mono ?_; rintro e v2 ⟨rfl, h2⟩; have hR : (fun W : World => C9 W w.heap.size ⟨s, false, false, true, n, x0, x1, x2, x3⟩ ∧ Below w.heap.size w W) v2 := ⟨(hHeld.1).keep h2, gt hHeld.2 h2⟩
  refine hK.out _ _ hR (fun hHeld => ?_)
  clear hK K
  (try simp only [Act.put, sA, sZ, sS])
  refine any_more (S' := (fun W : World => C9 W w.heap.size ⟨s, false, false, true, n, x0, x1, x2, x3⟩ ∧ Below w.heap.size w W)) hHeld (fun _ h => h) ?_; clear hR hHeld; intro W2 hHeld
  refine gkp 6 ?_
  refine gk1 9 (fun K hK => ?_)
  go_simp
  go_at_call 76; refine (BT.out _ _).mono ?_; rintro e v3 ⟨rfl, h3⟩; have hR : (fun W : World => C9 W w.heap.size ⟨s, false, false, true, n, x0, x1, x2, x3⟩ ∧ Below w.heap.size w W) v3 := ⟨(hHeld.1).keep h3, gt hHeld.2 h3⟩
  refine hK.out _ _ hR (fun hHeld => ?_)
  clear hK K
  (try simp only [Act.put, sA, sZ, sS])
  refine any_more (S' := (fun W : World => C9 W w.heap.size ⟨s, false, false, true, n, x0, x1, x2, x3⟩ ∧ Below w.heap.size w W)) hHeld (fun _ h => h) ?_; clear hR hHeld; intro W3 hHeld
  refine gkp 10 ?_
  refine gkp 11 ?_
  refine wpAnyK_done (by kernel_rfl) ?_ _
  have hb := (hHeld.2)
  go_wp2
  go_ret
  exact ⟨rfl, hb⟩
set_option maxRecDepth 100000 in
set_option maxHeartbeats 4000000 in
theorem flags_2 (s : Int) (n : Bool) (x0 x1 x2 x3 : Int) (w : World) : Calls Tryz.prog 47 #[.agg #[.int .i64 s, .bool false, .bool true, .bool false, .bool n, .int .i64 x0, .int .i64 x1, .int .i64 x2, .int .i64 x3]] w fun e w' => e = .returned (.int .u8 2) ∧ Below w.heap.size w w' := by
  have BT := hid bit_t
  have BF := hid bit_f
  have o1 : bits .or .u8 0 2 = 2 := by decide +kernel
  have o2 : bits .or .u8 2 0 = 2 := by decide +kernel
  go_enter Tryz.func47, Tryz.ntmps47
  go_wp2
  refine wp_region_K (S := (fun W : World => C9 W w.heap.size ⟨s, false, true, false, n, x0, x1, x2, x3⟩ ∧ Below w.heap.size w W)) (fun _ => false) (by kernel_rfl) (by exact ⟨(B9.new w ⟨s, false, true, false, n, x0, x1, x2, x3⟩).c, (by repeat (first | with_reducible exact Below.refl _ _ | with_reducible assumption | with_reducible refine Below.drew ?_ | with_reducible refine below_drewN ?_ _ | with_reducible refine Below.alloc ?_ (by simp <;> omega) _ | with_reducible refine Below.setCell ?_ (by simp <;> omega) _))⟩) (fun hHeld => ?_)
  refine any_more (S' := (fun W : World => C9 W w.heap.size ⟨s, false, true, false, n, x0, x1, x2, x3⟩ ∧ Below w.heap.size w W)) hHeld (fun _ h => h) ?_; clear hHeld; intro W0 hHeld
  refine gkp 0 ?_
  refine gkt 1 ?_ (h := by intro W hSw; obtain ⟨⟨y0, y1, y2, y3, y4, y5, y6, y7, y8⟩, _⟩ := hSw; go_simp; first | done | with_reducible rfl)
  refine gkp 3 ?_
  refine gkt 4 ?_ (h := by intro W hSw; obtain ⟨⟨y0, y1, y2, y3, y4, y5, y6, y7, y8⟩, _⟩ := hSw; go_simp; first | done | with_reducible rfl)
  refine gkp 7 ?_
  refine gkt 8 ?_ (h := by intro W hSw; obtain ⟨⟨y0, y1, y2, y3, y4, y5, y6, y7, y8⟩, _⟩ := hSw; go_simp; first | done | with_reducible rfl)
  refine gk1 2 (fun K hK => ?_)
  go_simp
  go_at_call 76; refine (BF.out _ _).mono ?_; rintro e v1 ⟨rfl, h1⟩; have hR : (fun W : World => C9 W w.heap.size ⟨s, false, true, false, n, x0, x1, x2, x3⟩ ∧ Below w.heap.size w W) v1 := ⟨(hHeld.1).keep h1, gt hHeld.2 h1⟩
  refine hK.out _ _ hR (fun hHeld => ?_)
  clear hK K
  (try simp only [Act.put, sA, sZ, sS])
  refine any_more (S' := (fun W : World => C9 W w.heap.size ⟨s, false, true, false, n, x0, x1, x2, x3⟩ ∧ Below w.heap.size w W)) hHeld (fun _ h => h) ?_; clear hR hHeld; intro W1 hHeld
  refine gk1 5 (fun K hK => ?_)
  go_simp
  go_at_call 76; refine (BT.out _ _).mono ?_; rintro e v2 ⟨rfl, h2⟩; have hR : (fun W : World => C9 W w.heap.size ⟨s, false, true, false, n, x0, x1, x2, x3⟩ ∧ Below w.heap.size w W) v2 := ⟨(hHeld.1).keep h2, gt hHeld.2 h2⟩
  refine hK.out _ _ hR (fun hHeld => ?_)
  clear hK K
  (try simp only [Act.put, sA, sZ, sS])
  refine any_more (S' := (fun W : World => C9 W w.heap.size ⟨s, false, true, false, n, x0, x1, x2, x3⟩ ∧ Below w.heap.size w W)) hHeld (fun _ h => h) ?_; clear hR hHeld; intro W2 hHeld
  refine gkp 6 ?_
  refine gk1 9 (fun K hK => ?_)
  go_simp
  go_at_call 76; refine (BF.out _ _).mono ?_; rintro e v3 ⟨rfl, h3⟩; have hR : (fun W : World => C9 W w.heap.size ⟨s, false, true, false, n, x0, x1, x2, x3⟩ ∧ Below w.heap.size w W) v3 := ⟨(hHeld.1).keep h3, gt hHeld.2 h3⟩
  refine hK.out _ _ hR (fun hHeld => ?_)
  clear hK K
  (try simp only [Act.put, sA, sZ, sS])
  refine any_more (S' := (fun W : World => C9 W w.heap.size ⟨s, false, true, false, n, x0, x1, x2, x3⟩ ∧ Below w.heap.size w W)) hHeld (fun _ h => h) ?_; clear hR hHeld; intro W3 hHeld
  refine gkp 10 ?_
  refine gkp 11 ?_
  refine wpAnyK_done (by kernel_rfl) ?_ _
  have hb := (hHeld.2)
  go_wp2
  go_ret
  exact ⟨rfl, hb⟩
set_option maxRecDepth 100000 in
set_option maxHeartbeats 4000000 in
theorem flags_18 (s : Int) (n : Bool) (x0 x1 x2 x3 : Int) (w : World) : Calls Tryz.prog 47 #[.agg #[.int .i64 s, .bool false, .bool true, .bool true, .bool n, .int .i64 x0, .int .i64 x1, .int .i64 x2, .int .i64 x3]] w fun e w' => e = .returned (.int .u8 18) ∧ Below w.heap.size w w' := by
  have BT := hid bit_t
  have BF := hid bit_f
  have o1 : bits .or .u8 0 2 = 2 := by decide +kernel
  have o2 : bits .or .u8 2 16 = 18 := by decide +kernel
  go_enter Tryz.func47, Tryz.ntmps47
  go_wp2
  refine wp_region_K (S := (fun W : World => C9 W w.heap.size ⟨s, false, true, true, n, x0, x1, x2, x3⟩ ∧ Below w.heap.size w W)) (fun _ => false) (by kernel_rfl) (by exact ⟨(B9.new w ⟨s, false, true, true, n, x0, x1, x2, x3⟩).c, (by repeat (first | with_reducible exact Below.refl _ _ | with_reducible assumption | with_reducible refine Below.drew ?_ | with_reducible refine below_drewN ?_ _ | with_reducible refine Below.alloc ?_ (by simp <;> omega) _ | with_reducible refine Below.setCell ?_ (by simp <;> omega) _))⟩) (fun hHeld => ?_)
  refine any_more (S' := (fun W : World => C9 W w.heap.size ⟨s, false, true, true, n, x0, x1, x2, x3⟩ ∧ Below w.heap.size w W)) hHeld (fun _ h => h) ?_; clear hHeld; intro W0 hHeld
  refine gkp 0 ?_
  refine gkt 1 ?_ (h := by intro W hSw; obtain ⟨⟨y0, y1, y2, y3, y4, y5, y6, y7, y8⟩, _⟩ := hSw; go_simp; first | done | with_reducible rfl)
  refine gkp 3 ?_
  refine gkt 4 ?_ (h := by intro W hSw; obtain ⟨⟨y0, y1, y2, y3, y4, y5, y6, y7, y8⟩, _⟩ := hSw; go_simp; first | done | with_reducible rfl)
  refine gkp 7 ?_
  refine gkt 8 ?_ (h := by intro W hSw; obtain ⟨⟨y0, y1, y2, y3, y4, y5, y6, y7, y8⟩, _⟩ := hSw; go_simp; first | done | with_reducible rfl)
  refine gk1 2 (fun K hK => ?_)
  go_simp
  go_at_call 76; refine (BF.out _ _).mono ?_; rintro e v1 ⟨rfl, h1⟩; have hR : (fun W : World => C9 W w.heap.size ⟨s, false, true, true, n, x0, x1, x2, x3⟩ ∧ Below w.heap.size w W) v1 := ⟨(hHeld.1).keep h1, gt hHeld.2 h1⟩
  refine hK.out _ _ hR (fun hHeld => ?_)
  clear hK K
  (try simp only [Act.put, sA, sZ, sS])
  refine any_more (S' := (fun W : World => C9 W w.heap.size ⟨s, false, true, true, n, x0, x1, x2, x3⟩ ∧ Below w.heap.size w W)) hHeld (fun _ h => h) ?_; clear hR hHeld; intro W1 hHeld
  refine gk1 5 (fun K hK => ?_)
  go_simp
  go_at_call 76; refine (BT.out _ _).mono ?_; rintro e v2 ⟨rfl, h2⟩; have hR : (fun W : World => C9 W w.heap.size ⟨s, false, true, true, n, x0, x1, x2, x3⟩ ∧ Below w.heap.size w W) v2 := ⟨(hHeld.1).keep h2, gt hHeld.2 h2⟩
  refine hK.out _ _ hR (fun hHeld => ?_)
  clear hK K
  (try simp only [Act.put, sA, sZ, sS])
  refine any_more (S' := (fun W : World => C9 W w.heap.size ⟨s, false, true, true, n, x0, x1, x2, x3⟩ ∧ Below w.heap.size w W)) hHeld (fun _ h => h) ?_; clear hR hHeld; intro W2 hHeld
  refine gkp 6 ?_
  refine gk1 9 (fun K hK => ?_)
  go_simp
  go_at_call 76; refine (BT.out _ _).mono ?_; rintro e v3 ⟨rfl, h3⟩; have hR : (fun W : World => C9 W w.heap.size ⟨s, false, true, true, n, x0, x1, x2, x3⟩ ∧ Below w.heap.size w W) v3 := ⟨(hHeld.1).keep h3, gt hHeld.2 h3⟩
  refine hK.out _ _ hR (fun hHeld => ?_)
  clear hK K
  (try simp only [Act.put, sA, sZ, sS])
  refine any_more (S' := (fun W : World => C9 W w.heap.size ⟨s, false, true, true, n, x0, x1, x2, x3⟩ ∧ Below w.heap.size w W)) hHeld (fun _ h => h) ?_; clear hR hHeld; intro W3 hHeld
  refine gkp 10 ?_
  refine gkp 11 ?_
  refine wpAnyK_done (by kernel_rfl) ?_ _
  have hb := (hHeld.2)
  go_wp2
  go_ret
  exact ⟨rfl, hb⟩
set_option maxRecDepth 100000 in
set_option maxHeartbeats 4000000 in
theorem flags_1 (s : Int) (n : Bool) (x0 x1 x2 x3 : Int) (w : World) : Calls Tryz.prog 47 #[.agg #[.int .i64 s, .bool true, .bool false, .bool false, .bool n, .int .i64 x0, .int .i64 x1, .int .i64 x2, .int .i64 x3]] w fun e w' => e = .returned (.int .u8 1) ∧ Below w.heap.size w w' := by
  have BT := hid bit_t
  have BF := hid bit_f
  have o1 : bits .or .u8 1 0 = 1 := by decide +kernel
  have o2 : bits .or .u8 1 0 = 1 := by decide +kernel
  go_enter Tryz.func47, Tryz.ntmps47
  go_wp2
  refine wp_region_K (S := (fun W : World => C9 W w.heap.size ⟨s, true, false, false, n, x0, x1, x2, x3⟩ ∧ Below w.heap.size w W)) (fun _ => false) (by kernel_rfl) (by exact ⟨(B9.new w ⟨s, true, false, false, n, x0, x1, x2, x3⟩).c, (by repeat (first | with_reducible exact Below.refl _ _ | with_reducible assumption | with_reducible refine Below.drew ?_ | with_reducible refine below_drewN ?_ _ | with_reducible refine Below.alloc ?_ (by simp <;> omega) _ | with_reducible refine Below.setCell ?_ (by simp <;> omega) _))⟩) (fun hHeld => ?_)
  refine any_more (S' := (fun W : World => C9 W w.heap.size ⟨s, true, false, false, n, x0, x1, x2, x3⟩ ∧ Below w.heap.size w W)) hHeld (fun _ h => h) ?_; clear hHeld; intro W0 hHeld
  refine gkp 0 ?_
  refine gkt 1 ?_ (h := by intro W hSw; obtain ⟨⟨y0, y1, y2, y3, y4, y5, y6, y7, y8⟩, _⟩ := hSw; go_simp; first | done | with_reducible rfl)
  refine gkp 3 ?_
  refine gkt 4 ?_ (h := by intro W hSw; obtain ⟨⟨y0, y1, y2, y3, y4, y5, y6, y7, y8⟩, _⟩ := hSw; go_simp; first | done | with_reducible rfl)
  refine gkp 7 ?_
  refine gkt 8 ?_ (h := by intro W hSw; obtain ⟨⟨y0, y1, y2, y3, y4, y5, y6, y7, y8⟩, _⟩ := hSw; go_simp; first | done | with_reducible rfl)
  refine gk1 2 (fun K hK => ?_)
  go_simp
  go_at_call 76; refine (BT.out _ _).mono ?_; rintro e v1 ⟨rfl, h1⟩; have hR : (fun W : World => C9 W w.heap.size ⟨s, true, false, false, n, x0, x1, x2, x3⟩ ∧ Below w.heap.size w W) v1 := ⟨(hHeld.1).keep h1, gt hHeld.2 h1⟩
  refine hK.out _ _ hR (fun hHeld => ?_)
  clear hK K
  (try simp only [Act.put, sA, sZ, sS])
  refine any_more (S' := (fun W : World => C9 W w.heap.size ⟨s, true, false, false, n, x0, x1, x2, x3⟩ ∧ Below w.heap.size w W)) hHeld (fun _ h => h) ?_; clear hR hHeld; intro W1 hHeld
  refine gk1 5 (fun K hK => ?_)
  go_simp
  go_at_call 76; refine (BF.out _ _).mono ?_; rintro e v2 ⟨rfl, h2⟩; have hR : (fun W : World => C9 W w.heap.size ⟨s, true, false, false, n, x0, x1, x2, x3⟩ ∧ Below w.heap.size w W) v2 := ⟨(hHeld.1).keep h2, gt hHeld.2 h2⟩
  refine hK.out _ _ hR (fun hHeld => ?_)
  clear hK K
  (try simp only [Act.put, sA, sZ, sS])
  refine any_more (S' := (fun W : World => C9 W w.heap.size ⟨s, true, false, false, n, x0, x1, x2, x3⟩ ∧ Below w.heap.size w W)) hHeld (fun _ h => h) ?_; clear hR hHeld; intro W2 hHeld
  refine gkp 6 ?_
  refine gk1 9 (fun K hK => ?_)
  go_simp
  go_at_call 76; refine (BF.out _ _).mono ?_; rintro e v3 ⟨rfl, h3⟩; have hR : (fun W : World => C9 W w.heap.size ⟨s, true, false, false, n, x0, x1, x2, x3⟩ ∧ Below w.heap.size w W) v3 := ⟨(hHeld.1).keep h3, gt hHeld.2 h3⟩
  refine hK.out _ _ hR (fun hHeld => ?_)
  clear hK K
  (try simp only [Act.put, sA, sZ, sS])
  refine any_more (S' := (fun W : World => C9 W w.heap.size ⟨s, true, false, false, n, x0, x1, x2, x3⟩ ∧ Below w.heap.size w W)) hHeld (fun _ h => h) ?_; clear hR hHeld; intro W3 hHeld
  refine gkp 10 ?_
  refine gkp 11 ?_
  refine wpAnyK_done (by kernel_rfl) ?_ _
  have hb := (hHeld.2)
  go_wp2
  go_ret
  exact ⟨rfl, hb⟩
set_option maxRecDepth 100000 in
set_option maxHeartbeats 4000000 in
theorem flags_17 (s : Int) (n : Bool) (x0 x1 x2 x3 : Int) (w : World) : Calls Tryz.prog 47 #[.agg #[.int .i64 s, .bool true, .bool false, .bool true, .bool n, .int .i64 x0, .int .i64 x1, .int .i64 x2, .int .i64 x3]] w fun e w' => e = .returned (.int .u8 17) ∧ Below w.heap.size w w' := by
  have BT := hid bit_t
  have BF := hid bit_f
  have o1 : bits .or .u8 1 0 = 1 := by decide +kernel
  have o2 : bits .or .u8 1 16 = 17 := by decide +kernel
  go_enter Tryz.func47, Tryz.ntmps47
  go_wp2
  refine wp_region_K (S := (fun W : World => C9 W w.heap.size ⟨s, true, false, true, n, x0, x1, x2, x3⟩ ∧ Below w.heap.size w W)) (fun _ => false) (by kernel_rfl) (by exact ⟨(B9.new w ⟨s, true, false, true, n, x0, x1, x2, x3⟩).c, (by repeat (first | with_reducible exact Below.refl _ _ | with_reducible assumption | with_reducible refine Below.drew ?_ | with_reducible refine below_drewN ?_ _ | with_reducible refine Below.alloc ?_ (by simp <;> omega) _ | with_reducible refine Below.setCell ?_ (by simp <;> omega) _))⟩) (fun hHeld => ?_)
  refine any_more (S' := (fun W : World => C9 W w.heap.size ⟨s, true, false, true, n, x0, x1, x2, x3⟩ ∧ Below w.heap.size w W)) hHeld (fun _ h => h) ?_; clear hHeld; intro W0 hHeld
  refine gkp 0 ?_
  refine gkt 1 ?_ (h := by intro W hSw; obtain ⟨⟨y0, y1, y2, y3, y4, y5, y6, y7, y8⟩, _⟩ := hSw; go_simp; first | done | with_reducible rfl)
  refine gkp 3 ?_
  refine gkt 4 ?_ (h := by intro W hSw; obtain ⟨⟨y0, y1, y2, y3, y4, y5, y6, y7, y8⟩, _⟩ := hSw; go_simp; first | done | with_reducible rfl)
  refine gkp 7 ?_
  refine gkt 8 ?_ (h := by intro W hSw; obtain ⟨⟨y0, y1, y2, y3, y4, y5, y6, y7, y8⟩, _⟩ := hSw; go_simp; first | done | with_reducible rfl)
  refine gk1 2 (fun K hK => ?_)
  go_simp
  go_at_call 76; refine (BT.out _ _).mono ?_; rintro e v1 ⟨rfl, h1⟩; have hR : (fun W : World => C9 W w.heap.size ⟨s, true, false, true, n, x0, x1, x2, x3⟩ ∧ Below w.heap.size w W) v1 := ⟨(hHeld.1).keep h1, gt hHeld.2 h1⟩
  refine hK.out _ _ hR (fun hHeld => ?_)
  clear hK K
  (try simp only [Act.put, sA, sZ, sS])
  refine any_more (S' := (fun W : World => C9 W w.heap.size ⟨s, true, false, true, n, x0, x1, x2, x3⟩ ∧ Below w.heap.size w W)) hHeld (fun _ h => h) ?_; clear hR hHeld; intro W1 hHeld
  refine gk1 5 (fun K hK => ?_)
  go_simp
  go_at_call 76; refine (BF.out _ _).mono ?_; rintro e v2 ⟨rfl, h2⟩; have hR : (fun W : World => C9 W w.heap.size ⟨s, true, false, true, n, x0, x1, x2, x3⟩ ∧ Below w.heap.size w W) v2 := ⟨(hHeld.1).keep h2, gt hHeld.2 h2⟩
  refine hK.out _ _ hR (fun hHeld => ?_)
  clear hK K
  (try simp only [Act.put, sA, sZ, sS])
  refine any_more (S' := (fun W : World => C9 W w.heap.size ⟨s, true, false, true, n, x0, x1, x2, x3⟩ ∧ Below w.heap.size w W)) hHeld (fun _ h => h) ?_; clear hR hHeld; intro W2 hHeld
  refine gkp 6 ?_
  refine gk1 9 (fun K hK => ?_)
  go_simp
  go_at_call 76; refine (BT.out _ _).mono ?_; rintro e v3 ⟨rfl, h3⟩; have hR : (fun W : World => C9 W w.heap.size ⟨s, true, false, true, n, x0, x1, x2, x3⟩ ∧ Below w.heap.size w W) v3 := ⟨(hHeld.1).keep h3, gt hHeld.2 h3⟩
  refine hK.out _ _ hR (fun hHeld => ?_)
  clear hK K
  (try simp only [Act.put, sA, sZ, sS])
  refine any_more (S' := (fun W : World => C9 W w.heap.size ⟨s, true, false, true, n, x0, x1, x2, x3⟩ ∧ Below w.heap.size w W)) hHeld (fun _ h => h) ?_; clear hR hHeld; intro W3 hHeld
  refine gkp 10 ?_
  refine gkp 11 ?_
  refine wpAnyK_done (by kernel_rfl) ?_ _
  have hb := (hHeld.2)
  go_wp2
  go_ret
  exact ⟨rfl, hb⟩
set_option maxRecDepth 100000 in
set_option maxHeartbeats 4000000 in
theorem flags_3 (s : Int) (n : Bool) (x0 x1 x2 x3 : Int) (w : World) : Calls Tryz.prog 47 #[.agg #[.int .i64 s, .bool true, .bool true, .bool false, .bool n, .int .i64 x0, .int .i64 x1, .int .i64 x2, .int .i64 x3]] w fun e w' => e = .returned (.int .u8 3) ∧ Below w.heap.size w w' := by
  have BT := hid bit_t
  have BF := hid bit_f
  have o1 : bits .or .u8 1 2 = 3 := by decide +kernel
  have o2 : bits .or .u8 3 0 = 3 := by decide +kernel
  go_enter Tryz.func47, Tryz.ntmps47
  go_wp2
  refine wp_region_K (S := (fun W : World => C9 W w.heap.size ⟨s, true, true, false, n, x0, x1, x2, x3⟩ ∧ Below w.heap.size w W)) (fun _ => false) (by kernel_rfl) (by exact ⟨(B9.new w ⟨s, true, true, false, n, x0, x1, x2, x3⟩).c, (by repeat (first | with_reducible exact Below.refl _ _ | with_reducible assumption | with_reducible refine Below.drew ?_ | with_reducible refine below_drewN ?_ _ | with_reducible refine Below.alloc ?_ (by simp <;> omega) _ | with_reducible refine Below.setCell ?_ (by simp <;> omega) _))⟩) (fun hHeld => ?_)
  refine any_more (S' := (fun W : World => C9 W w.heap.size ⟨s, true, true, false, n, x0, x1, x2, x3⟩ ∧ Below w.heap.size w W)) hHeld (fun _ h => h) ?_; clear hHeld; intro W0 hHeld
  refine gkp 0 ?_
  refine gkt 1 ?_ (h := by intro W hSw; obtain ⟨⟨y0, y1, y2, y3, y4, y5, y6, y7, y8⟩, _⟩ := hSw; go_simp; first | done | with_reducible rfl)
  refine gkp 3 ?_
  refine gkt 4 ?_ (h := by intro W hSw; obtain ⟨⟨y0, y1, y2, y3, y4, y5, y6, y7, y8⟩, _⟩ := hSw; go_simp; first | done | with_reducible rfl)
  refine gkp 7 ?_
  refine gkt 8 ?_ (h := by intro W hSw; obtain ⟨⟨y0, y1, y2, y3, y4, y5, y6, y7, y8⟩, _⟩ := hSw; go_simp; first | done | with_reducible rfl)
  refine gk1 2 (fun K hK => ?_)
  go_simp
  go_at_call 76; refine (BT.out _ _).mono ?_; rintro e v1 ⟨rfl, h1⟩; have hR : (fun W : World => C9 W w.heap.size ⟨s, true, true, false, n, x0, x1, x2, x3⟩ ∧ Below w.heap.size w W) v1 := ⟨(hHeld.1).keep h1, gt hHeld.2 h1⟩
  refine hK.out _ _ hR (fun hHeld => ?_)
  clear hK K
  (try simp only [Act.put, sA, sZ, sS])
  refine any_more (S' := (fun W : World => C9 W w.heap.size ⟨s, true, true, false, n, x0, x1, x2, x3⟩ ∧ Below w.heap.size w W)) hHeld (fun _ h => h) ?_; clear hR hHeld; intro W1 hHeld
  refine gk1 5 (fun K hK => ?_)
  go_simp
  go_at_call 76; refine (BT.out _ _).mono ?_; rintro e v2 ⟨rfl, h2⟩; have hR : (fun W : World => C9 W w.heap.size ⟨s, true, true, false, n, x0, x1, x2, x3⟩ ∧ Below w.heap.size w W) v2 := ⟨(hHeld.1).keep h2, gt hHeld.2 h2⟩
  refine hK.out _ _ hR (fun hHeld => ?_)
  clear hK K
  (try simp only [Act.put, sA, sZ, sS])
  refine any_more (S' := (fun W : World => C9 W w.heap.size ⟨s, true, true, false, n, x0, x1, x2, x3⟩ ∧ Below w.heap.size w W)) hHeld (fun _ h => h) ?_; clear hR hHeld; intro W2 hHeld
  refine gkp 6 ?_
  refine gk1 9 (fun K hK => ?_)
  go_simp
  go_at_call 76; refine (BF.out _ _).mono ?_; rintro e v3 ⟨rfl, h3⟩; have hR : (fun W : World => C9 W w.heap.size ⟨s, true, true, false, n, x0, x1, x2, x3⟩ ∧ Below w.heap.size w W) v3 := ⟨(hHeld.1).keep h3, gt hHeld.2 h3⟩
  refine hK.out _ _ hR (fun hHeld => ?_)
  clear hK K
  (try simp only [Act.put, sA, sZ, sS])
  refine any_more (S' := (fun W : World => C9 W w.heap.size ⟨s, true, true, false, n, x0, x1, x2, x3⟩ ∧ Below w.heap.size w W)) hHeld (fun _ h => h) ?_; clear hR hHeld; intro W3 hHeld
  refine gkp 10 ?_
  refine gkp 11 ?_
  refine wpAnyK_done (by kernel_rfl) ?_ _
  have hb := (hHeld.2)
  go_wp2
  go_ret
  exact ⟨rfl, hb⟩
set_option maxRecDepth 100000 in
set_option maxHeartbeats 4000000 in
theorem flags_19 (s : Int) (n : Bool) (x0 x1 x2 x3 : Int) (w : World) : Calls Tryz.prog 47 #[.agg #[.int .i64 s, .bool true, .bool true, .bool true, .bool n, .int .i64 x0, .int .i64 x1, .int .i64 x2, .int .i64 x3]] w fun e w' => e = .returned (.int .u8 19) ∧ Below w.heap.size w w' := by
  have BT := hid bit_t
  have BF := hid bit_f
  have o1 : bits .or .u8 1 2 = 3 := by decide +kernel
  have o2 : bits .or .u8 3 16 = 19 := by decide +kernel
  go_enter Tryz.func47, Tryz.ntmps47
  go_wp2
  refine wp_region_K (S := (fun W : World => C9 W w.heap.size ⟨s, true, true, true, n, x0, x1, x2, x3⟩ ∧ Below w.heap.size w W)) (fun _ => false) (by kernel_rfl) (by exact ⟨(B9.new w ⟨s, true, true, true, n, x0, x1, x2, x3⟩).c, (by repeat (first | with_reducible exact Below.refl _ _ | with_reducible assumption | with_reducible refine Below.drew ?_ | with_reducible refine below_drewN ?_ _ | with_reducible refine Below.alloc ?_ (by simp <;> omega) _ | with_reducible refine Below.setCell ?_ (by simp <;> omega) _))⟩) (fun hHeld => ?_)
  refine any_more (S' := (fun W : World => C9 W w.heap.size ⟨s, true, true, true, n, x0, x1, x2, x3⟩ ∧ Below w.heap.size w W)) hHeld (fun _ h => h) ?_; clear hHeld; intro W0 hHeld
  refine gkp 0 ?_
  refine gkt 1 ?_ (h := by intro W hSw; obtain ⟨⟨y0, y1, y2, y3, y4, y5, y6, y7, y8⟩, _⟩ := hSw; go_simp; first | done | with_reducible rfl)
  refine gkp 3 ?_
  refine gkt 4 ?_ (h := by intro W hSw; obtain ⟨⟨y0, y1, y2, y3, y4, y5, y6, y7, y8⟩, _⟩ := hSw; go_simp; first | done | with_reducible rfl)
  refine gkp 7 ?_
  refine gkt 8 ?_ (h := by intro W hSw; obtain ⟨⟨y0, y1, y2, y3, y4, y5, y6, y7, y8⟩, _⟩ := hSw; go_simp; first | done | with_reducible rfl)
  refine gk1 2 (fun K hK => ?_)
  go_simp
  go_at_call 76; refine (BT.out _ _).mono ?_; rintro e v1 ⟨rfl, h1⟩; have hR : (fun W : World => C9 W w.heap.size ⟨s, true, true, true, n, x0, x1, x2, x3⟩ ∧ Below w.heap.size w W) v1 := ⟨(hHeld.1).keep h1, gt hHeld.2 h1⟩
  refine hK.out _ _ hR (fun hHeld => ?_)
  clear hK K
  (try simp only [Act.put, sA, sZ, sS])
  refine any_more (S' := (fun W : World => C9 W w.heap.size ⟨s, true, true, true, n, x0, x1, x2, x3⟩ ∧ Below w.heap.size w W)) hHeld (fun _ h => h) ?_; clear hR hHeld; intro W1 hHeld
  refine gk1 5 (fun K hK => ?_)
  go_simp
  go_at_call 76; refine (BT.out _ _).mono ?_; rintro e v2 ⟨rfl, h2⟩; have hR : (fun W : World => C9 W w.heap.size ⟨s, true, true, true, n, x0, x1, x2, x3⟩ ∧ Below w.heap.size w W) v2 := ⟨(hHeld.1).keep h2, gt hHeld.2 h2⟩
  refine hK.out _ _ hR (fun hHeld => ?_)
  clear hK K
  (try simp only [Act.put, sA, sZ, sS])
  refine any_more (S' := (fun W : World => C9 W w.heap.size ⟨s, true, true, true, n, x0, x1, x2, x3⟩ ∧ Below w.heap.size w W)) hHeld (fun _ h => h) ?_; clear hR hHeld; intro W2 hHeld
  refine gkp 6 ?_
  refine gk1 9 (fun K hK => ?_)
  go_simp
  go_at_call 76; refine (BT.out _ _).mono ?_; rintro e v3 ⟨rfl, h3⟩; have hR : (fun W : World => C9 W w.heap.size ⟨s, true, true, true, n, x0, x1, x2, x3⟩ ∧ Below w.heap.size w W) v3 := ⟨(hHeld.1).keep h3, gt hHeld.2 h3⟩
  refine hK.out _ _ hR (fun hHeld => ?_)
  clear hK K
  (try simp only [Act.put, sA, sZ, sS])
  refine any_more (S' := (fun W : World => C9 W w.heap.size ⟨s, true, true, true, n, x0, x1, x2, x3⟩ ∧ Below w.heap.size w W)) hHeld (fun _ h => h) ?_; clear hR hHeld; intro W3 hHeld
  refine gkp 10 ?_
  refine gkp 11 ?_
  refine wpAnyK_done (by kernel_rfl) ?_ _
  have hb := (hHeld.2)
  go_wp2
  go_ret
  exact ⟨rfl, hb⟩
set_option maxRecDepth 100000 in
set_option maxHeartbeats 4000000 in
theorem flags_call (h : Hd) (w : World) : Calls Tryz.prog 47 #[.agg #[.int .i64 (h).srs, .bool (h).l, .bool (h).b, .bool (h).e, .bool (h).x.n, .int .i64 (h).x.lx, .int .i64 (h).x.ly, .int .i64 (h).x.hx, .int .i64 (h).x.hy]] w fun e w' => e = .returned (.int .u8 (fl h.l h.b h.e : Nat)) ∧ Below w.heap.size w w' := by
  obtain ⟨s, l, b, e, n, x0, x1, x2, x3⟩ := h
  simp only
  cases l <;> cases b <;> cases e
  · exact flags_0 _ _ _ _ _ _ _
  · exact flags_16 _ _ _ _ _ _ _
  · exact flags_2 _ _ _ _ _ _ _
  · exact flags_18 _ _ _ _ _ _ _
  · exact flags_1 _ _ _ _ _ _ _
  · exact flags_17 _ _ _ _ _ _ _
  · exact flags_3 _ _ _ _ _ _ _
  · exact flags_19 _ _ _ _ _ _ _
end Go.Proofs.YtpmfedimjjifaaaGreatDoor

/- What begins a blob; no statement of the seat is proved here. -/
namespace Go.Proofs.YtpmfedimjjifaaaGreatDoor
open Go.RowKit Go.Maps

set_option maxRecDepth 100000 in
theorem str_list (xs : List Nat) : (str xs).toList = xs.map UInt8.ofNat := by
  rw [ByteArray.toList_eq]; simp [str]
set_option maxRecDepth 100000 in
theorem str_beq (a b : List Nat) (ha : ∀ x ∈ a, x < 256) (hb : ∀ x ∈ b, x < 256) : ((str a).toList == (str b).toList) = decide (a = b) := by
  rw [str_list, str_list]
  rw [Bool.eq_iff_iff, beq_iff_eq, decide_eq_true_eq]
  constructor
  · intro h
    have h1 := congrArg (List.map UInt8.toNat) h
    rw [List.map_map, List.map_map] at h1
    have e : ∀ l : List Nat, (∀ x ∈ l, x < 256) → l.map (UInt8.toNat ∘ UInt8.ofNat) = l := by
      intro l hl
      conv => rhs; rw [← List.map_id l]
      apply List.map_congr_left
      intro x hx
      simp [Nat.mod_eq_of_lt (hl x hx)]
    rw [e a ha, e b hb] at h1
    exact h1
  · intro h; rw [h]
def markN : List Nat := [71, 80, 0]
theorem mark_b : ∀ x ∈ markN, x < 256 := by decide
set_option maxRecDepth 100000 in
set_option maxHeartbeats 4000000 in
theorem sprefix_call (ys : List Nat) (hy : ys.length ≤ 3) (hb : ∀ x ∈ ys, x < 256) (w : World) : Calls Tryz.prog 75 #[.string ⟨#[71, 80, 0]⟩, .string (str ys)] w fun e w' => e = .returned (.bool (decide (markN.take ys.length = ys))) ∧ Below w.heap.size w w' := by
  have sz := str_size ys
  have hm : ∀ W, (Instr.slice 9 (.string ⟨#[71, 80, 0]⟩) none (some (.int .i64 (ys.length : Int))) none).run Tryz.prog W = .ok (.string (str (markN.take ys.length))) W := by
    intro W
    obtain h | h | h | h : ys.length = 0 ∨ ys.length = 1 ∨ ys.length = 2 ∨ ys.length = 3 := by omega
    all_goals (rw [h]; kernel_rfl)
  have he := str_beq (markN.take ys.length) ys (fun x hx => mark_b x (List.mem_of_mem_take hx)) hb
  generalize decide (markN.take ys.length = ys) = r at *
  generalize str (markN.take ys.length) = m at *
  generalize ys.length = n at *
  generalize str ys = q at *
  go_enter Tryz.func75, Tryz.ntmps75
  go_wp2
  go_ret
  exact ⟨by rw [← he]; rfl, (by repeat (first | with_reducible exact Below.refl _ _ | with_reducible assumption | with_reducible refine Below.drew ?_ | with_reducible refine below_drewN ?_ _ | with_reducible refine Below.alloc ?_ (by simp <;> omega) _ | with_reducible refine Below.setCell ?_ (by simp <;> omega) _))⟩
set_option maxRecDepth 100000 in
set_option maxHeartbeats 4000000 in
theorem prefix_call (ys : List Nat) (hy : ys.length ≤ 3) (hb : ∀ x ∈ ys, x < 256) (w : World) : Calls Tryz.prog 46 #[.string ⟨#[71, 80, 0]⟩, .string (str ys)] w fun e w' => e = .returned (.bool (decide (markN.take ys.length = ys))) ∧ Below w.heap.size w w' := by
  have C := hid (sprefix_call ys hy hb w)
  generalize decide (markN.take ys.length = ys) = r at *
  generalize str ys = q at *
  clear hy hb
  go_enter Tryz.func46, Tryz.ntmps46
  go_wp2_with (go_at_call 75; refine C.out.mono ?_; rintro e w6 ⟨rfl, b6⟩; have B6 := hid b6; clear b6)
  go_ret
  exact ⟨rfl, B6.out⟩

/-- A piece: where it lies, and its bytes. -/
structure Pc where
  o : Option Addr
  n : Nat
  c : Nat
  xs : List Nat
def pcs (L : List Pc) : Array Value := (L.map fun p => Value.slice p.o p.n p.c).toArray
/-- All bytes of pieces. -/
def cat (L : List Pc) : List Nat := L.flatMap fun p => p.xs
def RdL (W : World) (L : List Pc) : Prop := ∀ p ∈ L, Rd W p.o p.n p.c p.xs
theorem RdL.keep {W W' : World} {L : List Pc} (h : RdL W L) (k : Below W.heap.size W W') : RdL W' L := fun p hp => (h p hp).keep k
theorem cat_snoc (L : List Pc) (k : Nat) (p : Pc) (h : L[k]? = some p) : cat (L.take (k + 1)) = cat (L.take k) ++ p.xs := by
  unfold cat
  rw [List.take_add_one, h]
  simp
theorem cat_le (L : List Pc) (k : Nat) : (cat (L.take k)).length ≤ (cat L).length := by
  have h : cat L = cat (L.take k) ++ cat (L.drop k) := by unfold cat; rw [← List.flatMap_append, List.take_append_drop]
  rw [h, List.length_append]; omega
set_option maxRecDepth 100000 in
set_option maxHeartbeats 4000000 in
theorem join_call (b : Nat) (L : List Pc) (w : World) (hb : Bo w b (pcs L) 22) (hr : RdL w L) (hL : (cat L).length ≤ 1000000000) (hn : L.length ≤ 10) : Calls Tryz.prog 35 #[.slice (some ⟨b, 0, none⟩) L.length L.length] w fun e w' => ∃ ao n c, e = .returned (.slice ao n c) ∧ w'.ownsRow w.heap.size 5 1 (.slice ao n c) n (bs (cat L)) ∧ Below w.heap.size w w' := by
  have HB := hid hb
  have HR := hid hr
  have HL := hid hL
  have HN := hid hn
  clear hb hr hL hn
  go_enter Tryz.func35, Tryz.ntmps35
  go_wp2
  go_loopw [3, 8] (fun v i W => ∃ (k : Nat) (ao : Option Addr) (n c : Nat), k ≤ L.length ∧ i = .int .i64 (k : Int) ∧ v = .slice ao n c ∧ Hid (W.ownsRow w.heap.size 5 1 (.slice ao n c) n (bs (cat (L.take k)))) ∧ Hid (Below w.heap.size w W)) (fun _ i _ => L.length - (intOf i).toNat)
  case atStart => exact ⟨0, none, 0, 0, by omega, rfl, rfl, hid (by simpa [cat, bs] using World.ownsRow_nil w w.heap.size 5 1), hid (Below.refl _ _)⟩
  case round =>
    obtain ⟨k, ao, n, c, hk, rfl, rfl, hO, hB⟩ := hrel
    have hwr := hB.out.size
    by_cases hk4 : k < L.length
    · obtain ⟨p, hp⟩ : ∃ p, L[k]? = some p := ⟨_, List.getElem?_eq_getElem hk4⟩
      have hpm : p ∈ L := List.mem_of_getElem? hp
      have R := hid ((HR.out p hpm).keep hB.out)
      have CL := hid ((HB.out.keep hB.out).cell k (.slice p.o p.n p.c) (by unfold pcs; simp [hp]))
      have SN := hid (cat_snoc L k p hp)
      have hle : n + p.n ≤ 1000000000 := by
        have h1 := cat_le L (k + 1)
        rw [SN.out, List.length_append] at h1
        have h2 := hO.out.1
        rw [bs_length] at h2
        have h3 := (HR.out p hpm).1
        have h4 := HL.out
        omega
      have hle' := hid hle
      have hk10 : k ≤ 10 := by have := HN.out; omega
      clear hp hpm hle
      have c0 := CL.out
      go_wp2_with (at_builtin; refine wpList_append_rd rfl (.tmp 12) (.tmp 13) rfl w.heap.size _ n (cat (L.take k)) rfl hO.out _ _ _ p.xs rfl R.out (by have := hle'.out; omega) (by omega) ?_; intro v7 w7 o7 b7; have O7 := hid o7; have H7 := hid (hB.out.trans b7); clear o7 b7)
      go_roundw
      case measure => simp [intOf]; omega
      case rel =>
        obtain ⟨a7, c7, rfl⟩ := row_form O7.out
        exact ⟨k + 1, a7, n + p.n, c7, by omega, by go_num, rfl, hid (by rw [SN.out]; exact O7.out), H7⟩
    · obtain rfl : k = L.length := by omega
      go_wp2
      go_ret
      exact ⟨_, _, _, rfl, by have := hO.out; rw [List.take_length] at this; exact this, hB.out⟩
end Go.Proofs.YtpmfedimjjifaaaGreatDoor
