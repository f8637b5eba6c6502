/- The law BoxAsks: the walk; no statement of the seat is proved here. -/
import Derived.Test.YtjlahomjhadnkaaGy
namespace Go.Proofs.Ytjlahomjhadnkaa
open Go.RowKit Go.Maps Wid

/-- A number in three words, as it is read. -/
def N3 (W : World) (b n : Nat) : Prop := W.cell? ⟨b, 0, none⟩ = some (.int .u64 (W0 n)) ∧ W.cell? ⟨b, 1, none⟩ = some (.int .u64 (W1 n)) ∧ W.cell? ⟨b, 2, none⟩ = some (.int .u64 (W2 n))
theorem N3.keep {w w' : World} {b n : Nat} (h : N3 w b n) (k : Below w.heap.size w w') : N3 w' b n := ⟨keep_old k h.1, keep_old k h.2.1, keep_old k h.2.2⟩
theorem waste_lt {a b : Rect} (ha : Bd a) (hb : Bd b) : wasteN a b < 6277101735386680763835789423207666416102355444464034512896 := by
  have h1 := own_lt ha hb
  have h2 := u192 (area_lt (bd_uni ha hb))
  unfold wasteN
  split <;> omega

set_option maxRecDepth 100000 in
set_option maxHeartbeats 16000000 in
theorem basks_law (a b : Rect) (ha : Bd a) (hb : Bd b) (w : World) : Calls Try.prog 3 #[.agg #[.bool (a).n, .int .i64 (a).lx, .int .i64 (a).ly, .int .i64 (a).hx, .int .i64 (a).hy], .agg #[.bool (b).n, .int .i64 (b).lx, .int .i64 (b).ly, .int .i64 (b).hx, .int .i64 (b).hy]] w fun e w' => e = .returned (.bool true) ∧ Below w.heap.size w w' := by
  have WA := hid (waste_call a b ha hb)
  have WB := hid (rwaste_call a b ha hb)
  have G1 := hid (good_call a)
  have G2 := hid (rgood_call a)
  have U1 := hid (union_call a b)
  have U2 := hid (runion_call a b)
  have M1 := hid (meets_call a b)
  have M2 := hid (rmeets_call a b)
  have H1 := hid (holds_call a b)
  have H2 := hid (rholds_call a b)
  have E1 := hid (equal_call a b)
  have E2 := hid (requal_call a b)
  have A1 := hid (area_call a ha)
  have A2 := hid (rarea_call a ha)
  have X1 := hid (u_call (areaN a))
  have R1 := hid (growth_call a b ha hb)
  have R2 := hid (rgrowth_call a b ha hb)
  have X2 := hid (u_call (growN a b))
  have X3 := hid (u_call (wasteN a b))
  have LC := hid lives_call
  have PB := bool_eql
  have PU := fun W => (box_eql (uniR a b) (uniR a b) W).trans (by rw [eqR_iff.2 rfl])
  have ba := u192 (area_lt ha)
  have bg := u192 (Nat.lt_of_le_of_lt (Nat.sub_le _ _) (area_lt (bd_uni ha hb)) : growN a b < _)
  have bw := waste_lt ha hb
  have P1 := fun W => (rnum_eql (areaN a) (areaN a) ba ba W).trans (by rw [decide_eq_true rfl])
  have P2 := fun W => (rnum_eql (growN a b) (growN a b) bg bg W).trans (by rw [decide_eq_true rfl])
  have P3 := fun W => (rnum_eql (wasteN a b) (wasteN a b) bw bw W).trans (by rw [decide_eq_true rfl])
  clear ba bg bw ha hb
  generalize areaN a = na at *
  generalize growN a b = ng at *
  generalize wasteN a b = wn at *
  generalize wasteB a b = wb at *
  generalize uniR a b = U at *
  generalize goodR a = g1 at *
  generalize meetsR a b = g2 at *
  generalize holdsR a b = g3 at *
  generalize equalR a b = g4 at *
  have F := hid (show (fun W : World => C5 W (w.heap.size) a ∧ C5 W (w.heap.size + 1) b ∧ Below w.heap.size w W) ((w.alloc (.cells #[.bool (a).n, .int .i64 (a).lx, .int .i64 (a).ly, .int .i64 (a).hx, .int .i64 (a).hy] 25)).alloc (.cells #[.bool (b).n, .int .i64 (b).lx, .int .i64 (b).ly, .int .i64 (b).hx, .int .i64 (b).hy] 25)) from ⟨by exact C5.of (by repeat (first | (refine at_new ?_; first | with_reducible rfl | (simp only [World.size_alloc]; done)) | refine at_old ?_)), by exact C5.of (by repeat (first | (refine at_new ?_; first | with_reducible rfl | (simp only [World.size_alloc]; done)) | refine at_old ?_)), (by repeat (first | with_reducible exact Below.refl _ _ | with_reducible assumption | with_reducible refine Below.drew ?_ | with_reducible refine below_drewN ?_ _ | with_reducible refine Below.alloc ?_ (by simp <;> omega) _ | with_reducible refine Below.setCell ?_ (by simp <;> omega) _))⟩)
  obtain ⟨y0_0, y0_1, y0_2, y0_3, y0_4⟩ := F.out.1
  obtain ⟨y1_0, y1_1, y1_2, y1_3, y1_4⟩ := F.out.2.1
  have hlow := F.out.2.2
  go_enter Try.func3, Try.ntmps3
  go_wp2_with (first | (go_at_call 8; refine (WA.out _).mono ?_; rintro e v8 ⟨rfl, h6⟩; clear y0_0 y0_1 y0_2 y0_3 y0_4 y1_0 y1_1 y1_2 y1_3 y1_4 hlow; have F := hid (show (fun W : World => C5 W (w.heap.size) a ∧ C5 W (w.heap.size + 1) b ∧ B3 W (v8.heap.size) wn ∧ Below w.heap.size w W) (v8.alloc (.cells #[.int .u64 (W0 wn), .int .u64 (W1 wn), .int .u64 (W2 wn)] 28)) from ⟨(F.out.1.keep h6).keep (ext1 _), (F.out.2.1.keep h6).keep (ext1 _), heap_alloc_new _ _, gt (gt F.out.2.2 h6) (ext1 _)⟩); clear h6 WA; obtain ⟨y0_0, y0_1, y0_2, y0_3, y0_4⟩ := F.out.1; obtain ⟨y1_0, y1_1, y1_2, y1_3, y1_4⟩ := F.out.2.1; obtain ⟨y2_0, y2_1, y2_2⟩ := F.out.2.2.1.c; have f2_0 := F.out.2.2.1.fz 0; have f2_1 := F.out.2.2.1.fz 1; have f2_2 := F.out.2.2.1.fz 2; have hlow := F.out.2.2.2) | (go_at_call 9; refine (WB.out _).mono ?_; rintro e v9 ⟨rfl, h6⟩; clear y0_0 y0_1 y0_2 y0_3 y0_4 y1_0 y1_1 y1_2 y1_3 y1_4 y2_0 y2_1 y2_2 f2_0 f2_1 f2_2 hlow; have F := hid (show (fun W : World => C5 W (w.heap.size) a ∧ C5 W (w.heap.size + 1) b ∧ B3 W (v8.heap.size) wn ∧ R3 W (v9.heap.size) wn ∧ Below w.heap.size w W) (v9.alloc (.cells #[.int .u64 (W0 wn), .int .u64 (W1 wn), .int .u64 (W2 wn)] 27)) from ⟨(F.out.1.keep h6).keep (ext1 _), (F.out.2.1.keep h6).keep (ext1 _), (F.out.2.2.1.keep h6).keep (ext1 _), heap_alloc_new _ _, gt (gt F.out.2.2.2 h6) (ext1 _)⟩); clear h6 WB; obtain ⟨y0_0, y0_1, y0_2, y0_3, y0_4⟩ := F.out.1; obtain ⟨y1_0, y1_1, y1_2, y1_3, y1_4⟩ := F.out.2.1; obtain ⟨y2_0, y2_1, y2_2⟩ := F.out.2.2.1.c; have f2_0 := F.out.2.2.1.fz 0; have f2_1 := F.out.2.2.1.fz 1; have f2_2 := F.out.2.2.1.fz 2; obtain ⟨y3_0, y3_1, y3_2⟩ := F.out.2.2.2.1.c; have f3_0 := F.out.2.2.2.1.fz 0; have f3_1 := F.out.2.2.2.1.fz 1; have f3_2 := F.out.2.2.2.1.fz 2; have hlow := F.out.2.2.2.2))
  refine wp_region_K (S := (fun W : World => C5 W (w.heap.size) a ∧ C5 W (w.heap.size + 1) b ∧ N3 W (v8.heap.size) wn ∧ N3 W (v9.heap.size) wn ∧ Below w.heap.size w W)) (fun _ => false) (by kernel_rfl) (by exact ⟨F.out.1, F.out.2.1, F.out.2.2.1.c, F.out.2.2.2.1.c, (by repeat (first | with_reducible exact Below.refl _ _ | with_reducible assumption | with_reducible refine Below.drew ?_ | with_reducible refine below_drewN ?_ _ | with_reducible refine Below.alloc ?_ (by simp <;> omega) _ | with_reducible refine Below.setCell ?_ (by simp <;> omega) _))⟩) (fun hHeld => ?_)
  refine gkt 0 ?_ (h := by intro W hSw; obtain ⟨⟨y0, y1, y2, y3, y4⟩, ⟨y5, y6, y7, y8, y9⟩, ⟨y10, y11, y12⟩, ⟨y13, y14, y15⟩, _⟩ := hSw; go_simp; first | done | with_reducible rfl)
  refine gkt 2 ?_ (h := by intro W hSw; obtain ⟨⟨y0, y1, y2, y3, y4⟩, ⟨y5, y6, y7, y8, y9⟩, ⟨y10, y11, y12⟩, ⟨y13, y14, y15⟩, _⟩ := hSw; go_simp; first | done | with_reducible rfl)
  refine gk1 1 (fun K hK => ?_)
  go_simp
  go_at_call 10; refine (G1.out _).mono ?_; rintro e w6 ⟨rfl, h6⟩; have hR : (fun W : World => C5 W (w.heap.size) a ∧ C5 W (w.heap.size + 1) b ∧ N3 W (v8.heap.size) wn ∧ N3 W (v9.heap.size) wn ∧ Below w.heap.size w W) w6 := ⟨hHeld.1.keep h6, hHeld.2.1.keep h6, hHeld.2.2.1.keep h6, hHeld.2.2.2.1.keep h6, gt hHeld.2.2.2.2 h6⟩; clear h6
  refine hK.out _ _ hR (fun hHeld => ?_)
  clear hK K
  (try simp only [Act.put, sA, sZ, sS])
  refine gk1 3 (fun K hK => ?_)
  go_simp
  go_at_call 11; refine (G2.out _).mono ?_; rintro e w6 ⟨rfl, h6⟩; have hR : (fun W : World => C5 W (w.heap.size) a ∧ C5 W (w.heap.size + 1) b ∧ N3 W (v8.heap.size) wn ∧ N3 W (v9.heap.size) wn ∧ Below w.heap.size w W) w6 := ⟨hHeld.1.keep h6, hHeld.2.1.keep h6, hHeld.2.2.1.keep h6, hHeld.2.2.2.1.keep h6, gt hHeld.2.2.2.2 h6⟩; clear h6
  refine hK.out _ _ hR (fun hHeld => ?_)
  clear hK K
  (try simp only [Act.put, sA, sZ, sS])
  refine gkp 4 ?_ (v := .bool true) (h := by intro W hSw; go_simp; first | done | with_reducible rfl)
  refine gkp 5 ?_
  refine gkt 6 ?_ (h := by intro W hSw; obtain ⟨⟨y0, y1, y2, y3, y4⟩, ⟨y5, y6, y7, y8, y9⟩, ⟨y10, y11, y12⟩, ⟨y13, y14, y15⟩, _⟩ := hSw; go_simp; first | done | with_reducible rfl)
  refine gkt 7 ?_ (h := by intro W hSw; obtain ⟨⟨y0, y1, y2, y3, y4⟩, ⟨y5, y6, y7, y8, y9⟩, ⟨y10, y11, y12⟩, ⟨y13, y14, y15⟩, _⟩ := hSw; go_simp; first | done | with_reducible rfl)
  refine gkt 9 ?_ (h := by intro W hSw; obtain ⟨⟨y0, y1, y2, y3, y4⟩, ⟨y5, y6, y7, y8, y9⟩, ⟨y10, y11, y12⟩, ⟨y13, y14, y15⟩, _⟩ := hSw; go_simp; first | done | with_reducible rfl)
  refine gkt 10 ?_ (h := by intro W hSw; obtain ⟨⟨y0, y1, y2, y3, y4⟩, ⟨y5, y6, y7, y8, y9⟩, ⟨y10, y11, y12⟩, ⟨y13, y14, y15⟩, _⟩ := hSw; go_simp; first | done | with_reducible rfl)
  refine gk1 8 (fun K hK => ?_)
  go_simp
  go_at_call 12; refine (U1.out _).mono ?_; rintro e w6 ⟨rfl, h6⟩; have hR : (fun W : World => C5 W (w.heap.size) a ∧ C5 W (w.heap.size + 1) b ∧ N3 W (v8.heap.size) wn ∧ N3 W (v9.heap.size) wn ∧ Below w.heap.size w W) w6 := ⟨hHeld.1.keep h6, hHeld.2.1.keep h6, hHeld.2.2.1.keep h6, hHeld.2.2.2.1.keep h6, gt hHeld.2.2.2.2 h6⟩; clear h6
  refine hK.out _ _ hR (fun hHeld => ?_)
  clear hK K
  (try simp only [Act.put, sA, sZ, sS])
  refine gk1 11 (fun K hK => ?_)
  go_simp
  go_at_call 13; refine (U2.out _).mono ?_; rintro e w6 ⟨rfl, h6⟩; have hR : (fun W : World => C5 W (w.heap.size) a ∧ C5 W (w.heap.size + 1) b ∧ N3 W (v8.heap.size) wn ∧ N3 W (v9.heap.size) wn ∧ Below w.heap.size w W) w6 := ⟨hHeld.1.keep h6, hHeld.2.1.keep h6, hHeld.2.2.1.keep h6, hHeld.2.2.2.1.keep h6, gt hHeld.2.2.2.2 h6⟩; clear h6
  refine hK.out _ _ hR (fun hHeld => ?_)
  clear hK K
  (try simp only [Act.put, sA, sZ, sS])
  refine gkp 12 ?_ (v := .bool true) (h := by intro W hSw; go_simp; first | done | with_reducible rfl)
  refine gkp 13 ?_
  refine gkp 14 ?_
  refine gkt 15 ?_ (h := by intro W hSw; obtain ⟨⟨y0, y1, y2, y3, y4⟩, ⟨y5, y6, y7, y8, y9⟩, ⟨y10, y11, y12⟩, ⟨y13, y14, y15⟩, _⟩ := hSw; go_simp; first | done | with_reducible rfl)
  refine gkt 16 ?_ (h := by intro W hSw; obtain ⟨⟨y0, y1, y2, y3, y4⟩, ⟨y5, y6, y7, y8, y9⟩, ⟨y10, y11, y12⟩, ⟨y13, y14, y15⟩, _⟩ := hSw; go_simp; first | done | with_reducible rfl)
  refine gkt 18 ?_ (h := by intro W hSw; obtain ⟨⟨y0, y1, y2, y3, y4⟩, ⟨y5, y6, y7, y8, y9⟩, ⟨y10, y11, y12⟩, ⟨y13, y14, y15⟩, _⟩ := hSw; go_simp; first | done | with_reducible rfl)
  refine gkt 19 ?_ (h := by intro W hSw; obtain ⟨⟨y0, y1, y2, y3, y4⟩, ⟨y5, y6, y7, y8, y9⟩, ⟨y10, y11, y12⟩, ⟨y13, y14, y15⟩, _⟩ := hSw; go_simp; first | done | with_reducible rfl)
  refine gk1 17 (fun K hK => ?_)
  go_simp
  go_at_call 14; refine (M1.out _).mono ?_; rintro e w6 ⟨rfl, h6⟩; have hR : (fun W : World => C5 W (w.heap.size) a ∧ C5 W (w.heap.size + 1) b ∧ N3 W (v8.heap.size) wn ∧ N3 W (v9.heap.size) wn ∧ Below w.heap.size w W) w6 := ⟨hHeld.1.keep h6, hHeld.2.1.keep h6, hHeld.2.2.1.keep h6, hHeld.2.2.2.1.keep h6, gt hHeld.2.2.2.2 h6⟩; clear h6
  refine hK.out _ _ hR (fun hHeld => ?_)
  clear hK K
  (try simp only [Act.put, sA, sZ, sS])
  refine gk1 20 (fun K hK => ?_)
  go_simp
  go_at_call 15; refine (M2.out _).mono ?_; rintro e w6 ⟨rfl, h6⟩; have hR : (fun W : World => C5 W (w.heap.size) a ∧ C5 W (w.heap.size + 1) b ∧ N3 W (v8.heap.size) wn ∧ N3 W (v9.heap.size) wn ∧ Below w.heap.size w W) w6 := ⟨hHeld.1.keep h6, hHeld.2.1.keep h6, hHeld.2.2.1.keep h6, hHeld.2.2.2.1.keep h6, gt hHeld.2.2.2.2 h6⟩; clear h6
  refine hK.out _ _ hR (fun hHeld => ?_)
  clear hK K
  (try simp only [Act.put, sA, sZ, sS])
  refine gkp 21 ?_ (v := .bool true) (h := by intro W hSw; go_simp; first | done | with_reducible rfl)
  refine gkp 22 ?_
  refine gkp 23 ?_
  refine gkt 24 ?_ (h := by intro W hSw; obtain ⟨⟨y0, y1, y2, y3, y4⟩, ⟨y5, y6, y7, y8, y9⟩, ⟨y10, y11, y12⟩, ⟨y13, y14, y15⟩, _⟩ := hSw; go_simp; first | done | with_reducible rfl)
  refine gkt 25 ?_ (h := by intro W hSw; obtain ⟨⟨y0, y1, y2, y3, y4⟩, ⟨y5, y6, y7, y8, y9⟩, ⟨y10, y11, y12⟩, ⟨y13, y14, y15⟩, _⟩ := hSw; go_simp; first | done | with_reducible rfl)
  refine gkt 27 ?_ (h := by intro W hSw; obtain ⟨⟨y0, y1, y2, y3, y4⟩, ⟨y5, y6, y7, y8, y9⟩, ⟨y10, y11, y12⟩, ⟨y13, y14, y15⟩, _⟩ := hSw; go_simp; first | done | with_reducible rfl)
  refine gkt 28 ?_ (h := by intro W hSw; obtain ⟨⟨y0, y1, y2, y3, y4⟩, ⟨y5, y6, y7, y8, y9⟩, ⟨y10, y11, y12⟩, ⟨y13, y14, y15⟩, _⟩ := hSw; go_simp; first | done | with_reducible rfl)
  refine gk1 26 (fun K hK => ?_)
  go_simp
  go_at_call 16; refine (H1.out _).mono ?_; rintro e w6 ⟨rfl, h6⟩; have hR : (fun W : World => C5 W (w.heap.size) a ∧ C5 W (w.heap.size + 1) b ∧ N3 W (v8.heap.size) wn ∧ N3 W (v9.heap.size) wn ∧ Below w.heap.size w W) w6 := ⟨hHeld.1.keep h6, hHeld.2.1.keep h6, hHeld.2.2.1.keep h6, hHeld.2.2.2.1.keep h6, gt hHeld.2.2.2.2 h6⟩; clear h6
  refine hK.out _ _ hR (fun hHeld => ?_)
  clear hK K
  (try simp only [Act.put, sA, sZ, sS])
  refine gk1 29 (fun K hK => ?_)
  go_simp
  go_at_call 17; refine (H2.out _).mono ?_; rintro e w6 ⟨rfl, h6⟩; have hR : (fun W : World => C5 W (w.heap.size) a ∧ C5 W (w.heap.size + 1) b ∧ N3 W (v8.heap.size) wn ∧ N3 W (v9.heap.size) wn ∧ Below w.heap.size w W) w6 := ⟨hHeld.1.keep h6, hHeld.2.1.keep h6, hHeld.2.2.1.keep h6, hHeld.2.2.2.1.keep h6, gt hHeld.2.2.2.2 h6⟩; clear h6
  refine hK.out _ _ hR (fun hHeld => ?_)
  clear hK K
  (try simp only [Act.put, sA, sZ, sS])
  refine gkp 30 ?_ (v := .bool true) (h := by intro W hSw; go_simp; first | done | with_reducible rfl)
  refine gkp 31 ?_
  refine gkp 32 ?_
  refine gkt 33 ?_ (h := by intro W hSw; obtain ⟨⟨y0, y1, y2, y3, y4⟩, ⟨y5, y6, y7, y8, y9⟩, ⟨y10, y11, y12⟩, ⟨y13, y14, y15⟩, _⟩ := hSw; go_simp; first | done | with_reducible rfl)
  refine gkt 34 ?_ (h := by intro W hSw; obtain ⟨⟨y0, y1, y2, y3, y4⟩, ⟨y5, y6, y7, y8, y9⟩, ⟨y10, y11, y12⟩, ⟨y13, y14, y15⟩, _⟩ := hSw; go_simp; first | done | with_reducible rfl)
  refine gkt 36 ?_ (h := by intro W hSw; obtain ⟨⟨y0, y1, y2, y3, y4⟩, ⟨y5, y6, y7, y8, y9⟩, ⟨y10, y11, y12⟩, ⟨y13, y14, y15⟩, _⟩ := hSw; go_simp; first | done | with_reducible rfl)
  refine gkt 37 ?_ (h := by intro W hSw; obtain ⟨⟨y0, y1, y2, y3, y4⟩, ⟨y5, y6, y7, y8, y9⟩, ⟨y10, y11, y12⟩, ⟨y13, y14, y15⟩, _⟩ := hSw; go_simp; first | done | with_reducible rfl)
  refine gk1 35 (fun K hK => ?_)
  go_simp
  go_at_call 18; refine (E1.out _).mono ?_; rintro e w6 ⟨rfl, h6⟩; have hR : (fun W : World => C5 W (w.heap.size) a ∧ C5 W (w.heap.size + 1) b ∧ N3 W (v8.heap.size) wn ∧ N3 W (v9.heap.size) wn ∧ Below w.heap.size w W) w6 := ⟨hHeld.1.keep h6, hHeld.2.1.keep h6, hHeld.2.2.1.keep h6, hHeld.2.2.2.1.keep h6, gt hHeld.2.2.2.2 h6⟩; clear h6
  refine hK.out _ _ hR (fun hHeld => ?_)
  clear hK K
  (try simp only [Act.put, sA, sZ, sS])
  refine gk1 38 (fun K hK => ?_)
  go_simp
  go_at_call 19; refine (E2.out _).mono ?_; rintro e w6 ⟨rfl, h6⟩; have hR : (fun W : World => C5 W (w.heap.size) a ∧ C5 W (w.heap.size + 1) b ∧ N3 W (v8.heap.size) wn ∧ N3 W (v9.heap.size) wn ∧ Below w.heap.size w W) w6 := ⟨hHeld.1.keep h6, hHeld.2.1.keep h6, hHeld.2.2.1.keep h6, hHeld.2.2.2.1.keep h6, gt hHeld.2.2.2.2 h6⟩; clear h6
  refine hK.out _ _ hR (fun hHeld => ?_)
  clear hK K
  (try simp only [Act.put, sA, sZ, sS])
  refine gkp 39 ?_ (v := .bool true) (h := by intro W hSw; go_simp; first | done | with_reducible rfl)
  refine gkp 40 ?_
  refine gkp 41 ?_
  refine gkt 42 ?_ (h := by intro W hSw; obtain ⟨⟨y0, y1, y2, y3, y4⟩, ⟨y5, y6, y7, y8, y9⟩, ⟨y10, y11, y12⟩, ⟨y13, y14, y15⟩, _⟩ := hSw; go_simp; first | done | with_reducible rfl)
  refine gkt 45 ?_ (h := by intro W hSw; obtain ⟨⟨y0, y1, y2, y3, y4⟩, ⟨y5, y6, y7, y8, y9⟩, ⟨y10, y11, y12⟩, ⟨y13, y14, y15⟩, _⟩ := hSw; go_simp; first | done | with_reducible rfl)
  refine gk1 43 (fun K hK => ?_)
  go_simp
  go_at_call 21; refine (A1.out _).mono ?_; rintro e w6 ⟨rfl, h6⟩; have hR : (fun W : World => C5 W (w.heap.size) a ∧ C5 W (w.heap.size + 1) b ∧ N3 W (v8.heap.size) wn ∧ N3 W (v9.heap.size) wn ∧ Below w.heap.size w W) w6 := ⟨hHeld.1.keep h6, hHeld.2.1.keep h6, hHeld.2.2.1.keep h6, hHeld.2.2.2.1.keep h6, gt hHeld.2.2.2.2 h6⟩; clear h6
  refine hK.out _ _ hR (fun hHeld => ?_)
  clear hK K
  (try simp only [Act.put, sA, sZ, sS])
  refine gk1 44 (fun K hK => ?_)
  go_simp
  go_at_call 20; refine (X1.out _).mono ?_; rintro e w6 ⟨rfl, h6⟩; have hR : (fun W : World => C5 W (w.heap.size) a ∧ C5 W (w.heap.size + 1) b ∧ N3 W (v8.heap.size) wn ∧ N3 W (v9.heap.size) wn ∧ Below w.heap.size w W) w6 := ⟨hHeld.1.keep h6, hHeld.2.1.keep h6, hHeld.2.2.1.keep h6, hHeld.2.2.2.1.keep h6, gt hHeld.2.2.2.2 h6⟩; clear h6
  refine hK.out _ _ hR (fun hHeld => ?_)
  clear hK K
  (try simp only [Act.put, sA, sZ, sS])
  refine gk1 46 (fun K hK => ?_)
  go_simp
  go_at_call 22; refine (A2.out _).mono ?_; rintro e w6 ⟨rfl, h6⟩; have hR : (fun W : World => C5 W (w.heap.size) a ∧ C5 W (w.heap.size + 1) b ∧ N3 W (v8.heap.size) wn ∧ N3 W (v9.heap.size) wn ∧ Below w.heap.size w W) w6 := ⟨hHeld.1.keep h6, hHeld.2.1.keep h6, hHeld.2.2.1.keep h6, hHeld.2.2.2.1.keep h6, gt hHeld.2.2.2.2 h6⟩; clear h6
  refine hK.out _ _ hR (fun hHeld => ?_)
  clear hK K
  (try simp only [Act.put, sA, sZ, sS])
  refine gkp 47 ?_ (v := .bool true) (h := by intro W hSw; go_simp; first | done | with_reducible rfl)
  refine gkp 48 ?_
  refine gkp 49 ?_
  refine gkt 50 ?_ (h := by intro W hSw; obtain ⟨⟨y0, y1, y2, y3, y4⟩, ⟨y5, y6, y7, y8, y9⟩, ⟨y10, y11, y12⟩, ⟨y13, y14, y15⟩, _⟩ := hSw; go_simp; first | done | with_reducible rfl)
  refine gkt 51 ?_ (h := by intro W hSw; obtain ⟨⟨y0, y1, y2, y3, y4⟩, ⟨y5, y6, y7, y8, y9⟩, ⟨y10, y11, y12⟩, ⟨y13, y14, y15⟩, _⟩ := hSw; go_simp; first | done | with_reducible rfl)
  refine gkt 54 ?_ (h := by intro W hSw; obtain ⟨⟨y0, y1, y2, y3, y4⟩, ⟨y5, y6, y7, y8, y9⟩, ⟨y10, y11, y12⟩, ⟨y13, y14, y15⟩, _⟩ := hSw; go_simp; first | done | with_reducible rfl)
  refine gkt 55 ?_ (h := by intro W hSw; obtain ⟨⟨y0, y1, y2, y3, y4⟩, ⟨y5, y6, y7, y8, y9⟩, ⟨y10, y11, y12⟩, ⟨y13, y14, y15⟩, _⟩ := hSw; go_simp; first | done | with_reducible rfl)
  refine gk1 52 (fun K hK => ?_)
  go_simp
  go_at_call 23; refine (R1.out _).mono ?_; rintro e w6 ⟨rfl, h6⟩; have hR : (fun W : World => C5 W (w.heap.size) a ∧ C5 W (w.heap.size + 1) b ∧ N3 W (v8.heap.size) wn ∧ N3 W (v9.heap.size) wn ∧ Below w.heap.size w W) w6 := ⟨hHeld.1.keep h6, hHeld.2.1.keep h6, hHeld.2.2.1.keep h6, hHeld.2.2.2.1.keep h6, gt hHeld.2.2.2.2 h6⟩; clear h6
  refine hK.out _ _ hR (fun hHeld => ?_)
  clear hK K
  (try simp only [Act.put, sA, sZ, sS])
  refine gk1 53 (fun K hK => ?_)
  go_simp
  go_at_call 20; refine (X2.out _).mono ?_; rintro e w6 ⟨rfl, h6⟩; have hR : (fun W : World => C5 W (w.heap.size) a ∧ C5 W (w.heap.size + 1) b ∧ N3 W (v8.heap.size) wn ∧ N3 W (v9.heap.size) wn ∧ Below w.heap.size w W) w6 := ⟨hHeld.1.keep h6, hHeld.2.1.keep h6, hHeld.2.2.1.keep h6, hHeld.2.2.2.1.keep h6, gt hHeld.2.2.2.2 h6⟩; clear h6
  refine hK.out _ _ hR (fun hHeld => ?_)
  clear hK K
  (try simp only [Act.put, sA, sZ, sS])
  refine gk1 56 (fun K hK => ?_)
  go_simp
  go_at_call 24; refine (R2.out _).mono ?_; rintro e w6 ⟨rfl, h6⟩; have hR : (fun W : World => C5 W (w.heap.size) a ∧ C5 W (w.heap.size + 1) b ∧ N3 W (v8.heap.size) wn ∧ N3 W (v9.heap.size) wn ∧ Below w.heap.size w W) w6 := ⟨hHeld.1.keep h6, hHeld.2.1.keep h6, hHeld.2.2.1.keep h6, hHeld.2.2.2.1.keep h6, gt hHeld.2.2.2.2 h6⟩; clear h6
  refine hK.out _ _ hR (fun hHeld => ?_)
  clear hK K
  (try simp only [Act.put, sA, sZ, sS])
  refine gkp 57 ?_ (v := .bool true) (h := by intro W hSw; go_simp; first | done | with_reducible rfl)
  refine gkp 58 ?_
  refine gkp 59 ?_
  refine gkt 60 ?_ (h := by intro W hSw; obtain ⟨⟨y0, y1, y2, y3, y4⟩, ⟨y5, y6, y7, y8, y9⟩, ⟨y10, y11, y12⟩, ⟨y13, y14, y15⟩, _⟩ := hSw; go_simp; first | done | with_reducible rfl)
  refine gkt 62 ?_ (h := by intro W hSw; obtain ⟨⟨y0, y1, y2, y3, y4⟩, ⟨y5, y6, y7, y8, y9⟩, ⟨y10, y11, y12⟩, ⟨y13, y14, y15⟩, _⟩ := hSw; go_simp; first | done | with_reducible rfl)
  refine gk1 61 (fun K hK => ?_)
  go_simp
  go_at_call 20; refine (X3.out _).mono ?_; rintro e w6 ⟨rfl, h6⟩; have hR : (fun W : World => C5 W (w.heap.size) a ∧ C5 W (w.heap.size + 1) b ∧ N3 W (v8.heap.size) wn ∧ N3 W (v9.heap.size) wn ∧ Below w.heap.size w W) w6 := ⟨hHeld.1.keep h6, hHeld.2.1.keep h6, hHeld.2.2.1.keep h6, hHeld.2.2.2.1.keep h6, gt hHeld.2.2.2.2 h6⟩; clear h6
  refine hK.out _ _ hR (fun hHeld => ?_)
  clear hK K
  (try simp only [Act.put, sA, sZ, sS])
  refine gkp 63 ?_ (v := .bool true) (h := by intro W hSw; go_simp; first | done | with_reducible rfl)
  refine gkp 64 ?_
  refine gkp 65 ?_
  refine gkp 66 ?_
  refine gkp 67 ?_
  refine gkp 68 ?_ (v := .bool true) (h := by intro W hSw; go_simp; first | done | with_reducible rfl)
  refine gkp 69 ?_
  refine gkp 70 ?_
  refine gk1 71 (fun K hK => ?_)
  go_simp
  go_at_call 25; refine (LC.out _).mono ?_; rintro e w6 ⟨rfl, h6⟩; have hR : (fun W : World => C5 W (w.heap.size) a ∧ C5 W (w.heap.size + 1) b ∧ N3 W (v8.heap.size) wn ∧ N3 W (v9.heap.size) wn ∧ Below w.heap.size w W) w6 := ⟨hHeld.1.keep h6, hHeld.2.1.keep h6, hHeld.2.2.1.keep h6, hHeld.2.2.2.1.keep h6, gt hHeld.2.2.2.2 h6⟩; clear h6
  refine hK.out _ _ hR (fun hHeld => ?_)
  clear hK K
  (try simp only [Act.put, sA, sZ, sS])
  refine gkp 72 ?_
  refine gkp 73 ?_
  refine wpAnyK_done (by kernel_rfl) ?_ _
  have hlow9 := hHeld.2.2.2.2
  go_wp2
  go_ret
  exact ⟨rfl, (by repeat (first | with_reducible exact Below.refl _ _ | with_reducible assumption | with_reducible refine Below.drew ?_ | with_reducible refine below_drewN ?_ _ | with_reducible refine Below.alloc ?_ (by simp <;> omega) _ | with_reducible refine Below.setCell ?_ (by simp <;> omega) _))⟩
end Go.Proofs.Ytjlahomjhadnkaa
