/- The law BoxHolds: the walk; no statement of the seat is proved here. -/
import Derived.Test.YtjlahomjhadnkaaCe
import Derived.Test.YtjlahomjhadnkaaCg
import Derived.Test.YtjlahomjhadnkaaWWb
namespace Go.Proofs.Ytjlahomjhadnkaa
open Go.RowKit Go.Maps Wid

theorem or_cases (r : Rect) : orR r = noR ∨ ∃ a b c d, orR r = ⟨false, a, b, c, d⟩ ∧ a ≤ c ∧ b ≤ d := by
  cases h : (orR r).n with
  | true => exact .inl (or_none h)
  | false =>
    refine .inr ⟨(orR r).lx, (orR r).ly, (orR r).hx, (orR r).hy, ?_, or_has h⟩
    generalize orR r = q at *
    obtain ⟨n, a, b, c, d⟩ := q
    simp only at h
    subst h
    rfl
theorem uni_comm (a b : Rect) : uniR a b = uniR b a := by
  rw [uni_v, uni_v]
  rcases or_cases a with ha | ⟨a0, a1, a2, a3, ha, _⟩ <;> rcases or_cases b with hb | ⟨b0, b1, b2, b3, hb, _⟩ <;> rw [ha, hb] <;> simp [uniV, noR] <;> omega
theorem holds_left (a b : Rect) : holdsR (uniR a b) a = true := by
  unfold holdsR
  rw [eqR_iff, or_uni, uni_v (uniR a b) a, or_uni, uni_v a b]
  rcases or_cases a with ha | ⟨a0, a1, a2, a3, ha, _⟩ <;> rcases or_cases b with hb | ⟨b0, b1, b2, b3, hb, _⟩ <;> rw [ha] <;> (try rw [hb]) <;> simp [uniV, noR] <;> omega
theorem holds_right (a b : Rect) : holdsR (uniR a b) b = true := by rw [uni_comm]; exact holds_left b a
def meetsV (A B : Rect) : Bool := !A.n && !B.n && decide (A.lx ≤ B.hx) && decide (B.lx ≤ A.hx) && decide (A.ly ≤ B.hy) && decide (B.ly ≤ A.hy)
theorem meets_or (a b : Rect) : meetsR a b = meetsV (orR a) (orR b) := by
  obtain ⟨an, a0, a1, a2, a3⟩ := a
  obtain ⟨bn, b0, b1, b2, b3⟩ := b
  rw [Bool.eq_iff_iff]
  cases an with
  | true =>
    have h : (orR ⟨true, a0, a1, a2, a3⟩).n = true := by
      unfold orR
      split <;> rfl
    simp [meetsR, meetsV, h]
  | false =>
    cases bn with
    | true =>
      have h : (orR ⟨true, b0, b1, b2, b3⟩).n = true := by
        unfold orR
        split <;> rfl
      simp [meetsR, meetsV, h]
    | false =>
      by_cases ha : a0 ≤ a2 ∧ a1 ≤ a3
      · rw [or_of (r := ⟨false, a0, a1, a2, a3⟩) (by simp [goodR]; omega)]
        by_cases hb : b0 ≤ b2 ∧ b1 ≤ b3
        · rw [or_of (r := ⟨false, b0, b1, b2, b3⟩) (by simp [goodR]; omega)]
          simp [meetsR, meetsV, goodR]
          omega
        · have h : orR ⟨false, b0, b1, b2, b3⟩ = noR := by
            unfold orR
            rw [if_neg (by simp [goodR]; omega)]
          rw [h]
          simp [meetsR, meetsV, goodR, noR]
          omega
      · have h : orR ⟨false, a0, a1, a2, a3⟩ = noR := by
          unfold orR
          rw [if_neg (by simp [goodR]; omega)]
        rw [h]
        simp [meetsR, meetsV, goodR, noR]
        omega
theorem meets_comm (a b : Rect) : meetsR a b = meetsR b a := by
  rw [meets_or, meets_or, Bool.eq_iff_iff]
  generalize orR a = A
  generalize orR b = B
  obtain ⟨an, a0, a1, a2, a3⟩ := A
  obtain ⟨bn, b0, b1, b2, b3⟩ := B
  cases an <;> cases bn <;> simp [meetsV]
  omega
theorem meets_uni (a b c : Rect) (h : meetsR a c = true) : meetsR (uniR a b) c = true := by
  rw [meets_or] at h ⊢
  rw [or_uni, uni_v]
  generalize orR c = C at *
  obtain ⟨cn, c0, c1, c2, c3⟩ := C
  cases cn with
  | true => simp [meetsV] at h
  | false =>
    rcases or_cases a with ha | ⟨a0, a1, a2, a3, ha, _⟩
    · rw [ha] at h
      simp [meetsV, noR] at h
    · rw [ha] at h ⊢
      rcases or_cases b with hb | ⟨b0, b1, b2, b3, hb, _⟩ <;> rw [hb] <;> simp [uniV, noR, meetsV] at h ⊢ <;> omega
theorem holds_equal (a b : Rect) (h : holdsR a b = true) : equalR (uniR a b) a = true := by
  unfold equalR
  rw [or_uni]
  exact h
theorem grow_zero (a b : Rect) : decide (growN a b = 0) = decide (areaN (uniR a b) = areaN a) := by
  have := area_le a b
  rw [decide_eq_decide]
  unfold growN
  omega
/-- Numbers are compared. -/
theorem num_eql (m n : Nat) (hm : m < 6277101735386680763835789423207666416102355444464034512896) (hn : n < 6277101735386680763835789423207666416102355444464034512896) (W : World) : (binOp .eql 28 (.agg #[.int .u64 (W0 (m)), .int .u64 (W1 (m)), .int .u64 (W2 (m))]) (.agg #[.int .u64 (W0 (n)), .int .u64 (W1 (n)), .int .u64 (W2 (n))])).run Try.prog W = .ok (.bool (decide (m = n))) W := by
  have h : ∀ W, (Op.equalIn 10000 28 (.agg #[.int .u64 (W0 (m)), .int .u64 (W1 (m)), .int .u64 (W2 (m))]) (.agg #[.int .u64 (W0 (n)), .int .u64 (W1 (n)), .int .u64 (W2 (n))])).run Try.prog W = .ok (decide (m = n)) W := by
    intro W
    rw [eqU 28 Try.underlying28]
    congr 1
    rw [Bool.eq_iff_iff]
    simp only [Bool.and_eq_true, beq_iff_eq, decide_eq_true_eq]
    exact ⟨fun ⟨⟨h1, h2⟩, h3⟩ => W_inj m n hm hn h1 h2 h3, fun h => by subst h; exact ⟨⟨rfl, rfl⟩, rfl⟩⟩
  rw [run_eql_struct, h]; rfl
theorem bool_eql (s : Bool) (W : World) : (binOp .eql 4 (.bool s) (.bool s)).run Try.prog W = .ok (.bool true) W := by cases s <;> kernel_rfl

set_option maxRecDepth 100000 in
set_option maxHeartbeats 4000000 in
theorem bholds_law (a b c : Rect) (ha : Bd a) (hb : Bd b) (w : World) : Calls Try.prog 6 #[.agg #[.bool (a).n, .int .i64 (a).lx, .int .i64 (a).ly, .int .i64 (a).hx, .int .i64 (a).hy], .agg #[.bool (b).n, .int .i64 (b).lx, .int .i64 (b).ly, .int .i64 (b).hx, .int .i64 (b).hy], .agg #[.bool (c).n, .int .i64 (c).lx, .int .i64 (c).ly, .int .i64 (c).hx, .int .i64 (c).hy]] w fun e w' => e = .returned (.bool true) ∧ Below w.heap.size w w' := by
  have U1 := hid (union_call a b)
  have U2 := hid (union_call a b)
  have U3 := hid (union_call a b)
  have U4 := hid (union_call b a)
  rw [← uni_comm a b] at U4
  have HA := hid (holds_call (uniR a b) a)
  have HB := hid (holds_call (uniR a b) b)
  rw [holds_left] at HA
  rw [holds_right] at HB
  have MA := hid (meets_call a c)
  have MN := hid (meets_call (uniR a b) c)
  have HH := hid (holds_call a b)
  have EN := hid (equal_call (uniR a b) a)
  have R1 := hid (area_call (uniR a b) (bd_uni ha hb))
  have R2 := hid (area_call a ha)
  have GC := hid (growth_call a b ha hb)
  have M1 := hid (meets_call a b)
  have M2 := hid (meets_call b a)
  rw [← meets_comm a b] at M2
  have LC := hid lives_call
  have PA := num_eql (areaN (uniR a b)) (areaN a) (u192 (area_lt (bd_uni ha hb))) (u192 (area_lt ha))
  have PG := num_eql (growN a b) 0 (u192 (Nat.lt_of_le_of_lt (Nat.sub_le _ _) (area_lt (bd_uni ha hb)))) (by decide)
  rw [W0_zero, W1_zero, W2_zero, grow_zero] at PG
  have PB := bool_eql (decide (areaN (uniR a b) = areaN a))
  have PM := bool_eql (meetsR a b)
  have PN := fun W => (box_eql (uniR a b) (uniR a b) W).trans (by rw [eqR_iff.2 rfl])
  have IM := hid (meets_uni a b c)
  have IH := hid (holds_equal a b)
  generalize decide (areaN (uniR a b) = areaN a) = sm at *
  generalize growN a b = gg at *
  generalize areaN (uniR a b) = an at *
  generalize areaN a = aa at *
  generalize meetsR a b = mm at *
  generalize meetsR a c = m1 at *
  generalize meetsR (uniR a b) c = m2 at *
  generalize holdsR a b = h1 at *
  generalize equalR (uniR a b) a = e1 at *
  generalize uniR a b = n at *
  clear ha hb
  have A0 := hid (show C5 (((w.alloc (.cells #[.bool (a).n, .int .i64 (a).lx, .int .i64 (a).ly, .int .i64 (a).hx, .int .i64 (a).hy] 25)).alloc (.cells #[.bool (b).n, .int .i64 (b).lx, .int .i64 (b).ly, .int .i64 (b).hx, .int .i64 (b).hy] 25)).alloc (.cells #[.bool (c).n, .int .i64 (c).lx, .int .i64 (c).ly, .int .i64 (c).hx, .int .i64 (c).hy] 25)) (w.heap.size) a from C5.of (by repeat (first | (refine at_new ?_; first | with_reducible rfl | (simp only [World.size_alloc]; done)) | refine at_old ?_)))
  have A1 := hid (show C5 (((w.alloc (.cells #[.bool (a).n, .int .i64 (a).lx, .int .i64 (a).ly, .int .i64 (a).hx, .int .i64 (a).hy] 25)).alloc (.cells #[.bool (b).n, .int .i64 (b).lx, .int .i64 (b).ly, .int .i64 (b).hx, .int .i64 (b).hy] 25)).alloc (.cells #[.bool (c).n, .int .i64 (c).lx, .int .i64 (c).ly, .int .i64 (c).hx, .int .i64 (c).hy] 25)) (w.heap.size + 1) b from C5.of (by repeat (first | (refine at_new ?_; first | with_reducible rfl | (simp only [World.size_alloc]; done)) | refine at_old ?_)))
  have A2 := hid (show C5 (((w.alloc (.cells #[.bool (a).n, .int .i64 (a).lx, .int .i64 (a).ly, .int .i64 (a).hx, .int .i64 (a).hy] 25)).alloc (.cells #[.bool (b).n, .int .i64 (b).lx, .int .i64 (b).ly, .int .i64 (b).hx, .int .i64 (b).hy] 25)).alloc (.cells #[.bool (c).n, .int .i64 (c).lx, .int .i64 (c).ly, .int .i64 (c).hx, .int .i64 (c).hy] 25)) (w.heap.size + 1 + 1) c from C5.of (by repeat (first | (refine at_new ?_; first | with_reducible rfl | (simp only [World.size_alloc]; done)) | refine at_old ?_)))
  have below3 : ∀ {w : World} {a b c : Obj}, Below w.heap.size w (((w.alloc a).alloc b).alloc c) := gt below2 (ext1 _)
  cases m1 with
  | true =>
    obtain rfl : m2 = true := IM.out rfl
    cases h1 with
    | true =>
      obtain rfl : e1 = true := IH.out rfl
      go_enter Try.func6, Try.ntmps6
      go_wp2_with (first | (go_at_call 12; refine (U1.out _).mono ?_; rintro e v1 ⟨rfl, h6⟩; have F := hid (show (fun W : World => C5 W (w.heap.size) a ∧ C5 W (w.heap.size + 1) b ∧ C5 W (w.heap.size + 1 + 1) c ∧ C5 W (v1.heap.size) n ∧ Below w.heap.size w W) (v1.alloc (.cells #[.bool (n).n, .int .i64 (n).lx, .int .i64 (n).ly, .int .i64 (n).hx, .int .i64 (n).hy] 25)) from ⟨(A0.out.keep h6).keep (ext1 _), (A1.out.keep h6).keep (ext1 _), (A2.out.keep h6).keep (ext1 _), C5.of (heap_alloc_new _ _), gt (gt below3 h6) (ext1 _)⟩); clear h6 U1 A0 A1 A2; obtain ⟨⟨y0, y1, y2, y3, y4⟩, ⟨y5, y6, y7, y8, y9⟩, ⟨y10, y11, y12, y13, y14⟩, ⟨y15, y16, y17, y18, y19⟩, hlow⟩ := F.out) | (go_at_call 16; refine (HA.out _).mono ?_; rintro e w6 ⟨rfl, h6⟩; clear HA y0 y1 y2 y3 y4 y5 y6 y7 y8 y9 y10 y11 y12 y13 y14 y15 y16 y17 y18 y19 hlow; have F := hid (show (fun W : World => C5 W (w.heap.size) a ∧ C5 W (w.heap.size + 1) b ∧ C5 W (w.heap.size + 1 + 1) c ∧ C5 W (v1.heap.size) n ∧ Below w.heap.size w W) w6 from ⟨F.out.1.keep h6, F.out.2.1.keep h6, F.out.2.2.1.keep h6, F.out.2.2.2.1.keep h6, gt F.out.2.2.2.2 h6⟩); clear h6; obtain ⟨⟨y0, y1, y2, y3, y4⟩, ⟨y5, y6, y7, y8, y9⟩, ⟨y10, y11, y12, y13, y14⟩, ⟨y15, y16, y17, y18, y19⟩, hlow⟩ := F.out) | (go_at_call 16; refine (HB.out _).mono ?_; rintro e w6 ⟨rfl, h6⟩; clear HB y0 y1 y2 y3 y4 y5 y6 y7 y8 y9 y10 y11 y12 y13 y14 y15 y16 y17 y18 y19 hlow; have F := hid (show (fun W : World => C5 W (w.heap.size) a ∧ C5 W (w.heap.size + 1) b ∧ C5 W (w.heap.size + 1 + 1) c ∧ C5 W (v1.heap.size) n ∧ Below w.heap.size w W) w6 from ⟨F.out.1.keep h6, F.out.2.1.keep h6, F.out.2.2.1.keep h6, F.out.2.2.2.1.keep h6, gt F.out.2.2.2.2 h6⟩); clear h6; obtain ⟨⟨y0, y1, y2, y3, y4⟩, ⟨y5, y6, y7, y8, y9⟩, ⟨y10, y11, y12, y13, y14⟩, ⟨y15, y16, y17, y18, y19⟩, hlow⟩ := F.out) | (go_at_call 14; refine (MA.out _).mono ?_; rintro e w6 ⟨rfl, h6⟩; clear MA y0 y1 y2 y3 y4 y5 y6 y7 y8 y9 y10 y11 y12 y13 y14 y15 y16 y17 y18 y19 hlow; have F := hid (show (fun W : World => C5 W (w.heap.size) a ∧ C5 W (w.heap.size + 1) b ∧ C5 W (w.heap.size + 1 + 1) c ∧ C5 W (v1.heap.size) n ∧ Below w.heap.size w W) w6 from ⟨F.out.1.keep h6, F.out.2.1.keep h6, F.out.2.2.1.keep h6, F.out.2.2.2.1.keep h6, gt F.out.2.2.2.2 h6⟩); clear h6; obtain ⟨⟨y0, y1, y2, y3, y4⟩, ⟨y5, y6, y7, y8, y9⟩, ⟨y10, y11, y12, y13, y14⟩, ⟨y15, y16, y17, y18, y19⟩, hlow⟩ := F.out) | (go_at_call 14; refine (MN.out _).mono ?_; rintro e w6 ⟨rfl, h6⟩; clear MN y0 y1 y2 y3 y4 y5 y6 y7 y8 y9 y10 y11 y12 y13 y14 y15 y16 y17 y18 y19 hlow; have F := hid (show (fun W : World => C5 W (w.heap.size) a ∧ C5 W (w.heap.size + 1) b ∧ C5 W (w.heap.size + 1 + 1) c ∧ C5 W (v1.heap.size) n ∧ Below w.heap.size w W) w6 from ⟨F.out.1.keep h6, F.out.2.1.keep h6, F.out.2.2.1.keep h6, F.out.2.2.2.1.keep h6, gt F.out.2.2.2.2 h6⟩); clear h6; obtain ⟨⟨y0, y1, y2, y3, y4⟩, ⟨y5, y6, y7, y8, y9⟩, ⟨y10, y11, y12, y13, y14⟩, ⟨y15, y16, y17, y18, y19⟩, hlow⟩ := F.out))
      refine wp_region_K (S := (fun W : World => C5 W (w.heap.size) a ∧ C5 W (w.heap.size + 1) b ∧ C5 W (w.heap.size + 1 + 1) c ∧ C5 W (v1.heap.size) n ∧ Below w.heap.size w W)) (fun _ => false) (by kernel_rfl) (by exact ⟨F.out.1, F.out.2.1, F.out.2.2.1, F.out.2.2.2.1, (by repeat (first | with_reducible exact Below.refl _ _ | with_reducible assumption | with_reducible refine Below.drew ?_ | with_reducible refine below_drewN ?_ _ | with_reducible refine Below.alloc ?_ (by simp <;> omega) _ | with_reducible refine Below.setCell ?_ (by simp <;> omega) _))⟩) (fun hHeld => ?_)
      refine gkt 0 ?_ (h := by intro W hSw; obtain ⟨⟨y0, y1, y2, y3, y4⟩, ⟨y5, y6, y7, y8, y9⟩, ⟨y10, y11, y12, y13, y14⟩, ⟨y15, y16, y17, y18, y19⟩, _⟩ := hSw; go_simp; first | done | with_reducible rfl)
      refine gkt 1 ?_ (h := by intro W hSw; obtain ⟨⟨y0, y1, y2, y3, y4⟩, ⟨y5, y6, y7, y8, y9⟩, ⟨y10, y11, y12, y13, y14⟩, ⟨y15, y16, y17, y18, y19⟩, _⟩ := hSw; go_simp; first | done | with_reducible rfl)
      refine gk1 2 (fun K hK => ?_)
      go_simp
      go_at_call 16; refine (HH.out _).mono ?_; rintro e w6 ⟨rfl, h6⟩; have hR : (fun W : World => C5 W (w.heap.size) a ∧ C5 W (w.heap.size + 1) b ∧ C5 W (w.heap.size + 1 + 1) c ∧ C5 W (v1.heap.size) n ∧ Below w.heap.size w W) w6 := ⟨hHeld.1.keep h6, hHeld.2.1.keep h6, hHeld.2.2.1.keep h6, hHeld.2.2.2.1.keep h6, gt hHeld.2.2.2.2 h6⟩; clear h6
      refine hK.out _ _ hR (fun hHeld => ?_)
      clear hK K
      (try simp only [Act.put, sA, sZ, sS])
      refine gkp 3 ?_
      refine gkt 4 ?_ (h := by intro W hSw; obtain ⟨⟨y0, y1, y2, y3, y4⟩, ⟨y5, y6, y7, y8, y9⟩, ⟨y10, y11, y12, y13, y14⟩, ⟨y15, y16, y17, y18, y19⟩, _⟩ := hSw; go_simp; first | done | with_reducible rfl)
      refine gkt 5 ?_ (h := by intro W hSw; obtain ⟨⟨y0, y1, y2, y3, y4⟩, ⟨y5, y6, y7, y8, y9⟩, ⟨y10, y11, y12, y13, y14⟩, ⟨y15, y16, y17, y18, y19⟩, _⟩ := hSw; go_simp; first | done | with_reducible rfl)
      refine gkt 7 ?_ (h := by intro W hSw; obtain ⟨⟨y0, y1, y2, y3, y4⟩, ⟨y5, y6, y7, y8, y9⟩, ⟨y10, y11, y12, y13, y14⟩, ⟨y15, y16, y17, y18, y19⟩, _⟩ := hSw; go_simp; first | done | with_reducible rfl)
      refine gk1 6 (fun K hK => ?_)
      go_simp
      go_at_call 12; refine (U2.out _).mono ?_; rintro e w6 ⟨rfl, h6⟩; have hR : (fun W : World => C5 W (w.heap.size) a ∧ C5 W (w.heap.size + 1) b ∧ C5 W (w.heap.size + 1 + 1) c ∧ C5 W (v1.heap.size) n ∧ Below w.heap.size w W) w6 := ⟨hHeld.1.keep h6, hHeld.2.1.keep h6, hHeld.2.2.1.keep h6, hHeld.2.2.2.1.keep h6, gt hHeld.2.2.2.2 h6⟩; clear h6
      refine hK.out _ _ hR (fun hHeld => ?_)
      clear hK K
      (try simp only [Act.put, sA, sZ, sS])
      refine gk1 8 (fun K hK => ?_)
      go_simp
      go_at_call 18; refine (EN.out _).mono ?_; rintro e w6 ⟨rfl, h6⟩; have hR : (fun W : World => C5 W (w.heap.size) a ∧ C5 W (w.heap.size + 1) b ∧ C5 W (w.heap.size + 1 + 1) c ∧ C5 W (v1.heap.size) n ∧ Below w.heap.size w W) w6 := ⟨hHeld.1.keep h6, hHeld.2.1.keep h6, hHeld.2.2.1.keep h6, hHeld.2.2.2.1.keep h6, gt hHeld.2.2.2.2 h6⟩; clear h6
      refine hK.out _ _ hR (fun hHeld => ?_)
      clear hK K
      (try simp only [Act.put, sA, sZ, sS])
      refine gkp 9 ?_
      refine gkp 10 ?_
      refine wpAnyK_done (by kernel_rfl) ?_ _
      have F := hid hHeld
      clear y0 y1 y2 y3 y4 y5 y6 y7 y8 y9 y10 y11 y12 y13 y14 y15 y16 y17 y18 y19 hlow
      have hlow := F.out.2.2.2.2
      go_wp2
      refine wp_region_K (S := (fun W : World => C5 W (w.heap.size) a ∧ C5 W (w.heap.size + 1) b ∧ C5 W (w.heap.size + 1 + 1) c ∧ C5 W (v1.heap.size) n ∧ Below w.heap.size w W)) (fun _ => false) (by kernel_rfl) (by exact ⟨F.out.1, F.out.2.1, F.out.2.2.1, F.out.2.2.2.1, (by repeat (first | with_reducible exact Below.refl _ _ | with_reducible assumption | with_reducible refine Below.drew ?_ | with_reducible refine below_drewN ?_ _ | with_reducible refine Below.alloc ?_ (by simp <;> omega) _ | with_reducible refine Below.setCell ?_ (by simp <;> omega) _))⟩) (fun hHeld => ?_)
      refine gkt 0 ?_ (h := by intro W hSw; obtain ⟨⟨y0, y1, y2, y3, y4⟩, ⟨y5, y6, y7, y8, y9⟩, ⟨y10, y11, y12, y13, y14⟩, ⟨y15, y16, y17, y18, y19⟩, _⟩ := hSw; go_simp; first | done | with_reducible rfl)
      refine gkt 2 ?_ (h := by intro W hSw; obtain ⟨⟨y0, y1, y2, y3, y4⟩, ⟨y5, y6, y7, y8, y9⟩, ⟨y10, y11, y12, y13, y14⟩, ⟨y15, y16, y17, y18, y19⟩, _⟩ := hSw; go_simp; first | done | with_reducible rfl)
      refine gk1 1 (fun K hK => ?_)
      go_simp
      go_at_call 21; refine (R1.out _).mono ?_; rintro e w6 ⟨rfl, h6⟩; have hR : (fun W : World => C5 W (w.heap.size) a ∧ C5 W (w.heap.size + 1) b ∧ C5 W (w.heap.size + 1 + 1) c ∧ C5 W (v1.heap.size) n ∧ Below w.heap.size w W) w6 := ⟨hHeld.1.keep h6, hHeld.2.1.keep h6, hHeld.2.2.1.keep h6, hHeld.2.2.2.1.keep h6, gt hHeld.2.2.2.2 h6⟩; clear h6
      refine hK.out _ _ hR (fun hHeld => ?_)
      clear hK K
      (try simp only [Act.put, sA, sZ, sS])
      refine gk1 3 (fun K hK => ?_)
      go_simp
      go_at_call 21; refine (R2.out _).mono ?_; rintro e w6 ⟨rfl, h6⟩; have hR : (fun W : World => C5 W (w.heap.size) a ∧ C5 W (w.heap.size + 1) b ∧ C5 W (w.heap.size + 1 + 1) c ∧ C5 W (v1.heap.size) n ∧ Below w.heap.size w W) w6 := ⟨hHeld.1.keep h6, hHeld.2.1.keep h6, hHeld.2.2.1.keep h6, hHeld.2.2.2.1.keep h6, gt hHeld.2.2.2.2 h6⟩; clear h6
      refine hK.out _ _ hR (fun hHeld => ?_)
      clear hK K
      (try simp only [Act.put, sA, sZ, sS])
      refine gkp 4 ?_ (v := .bool sm) (h := by intro W hSw; go_simp; first | done | with_reducible rfl)
      refine gkp 5 ?_
      refine wpAnyK_done (by kernel_rfl) ?_ _
      have F := hid hHeld
      clear hlow
      have hlow := F.out.2.2.2.2
      go_wp2
      refine wp_region_K (S := (fun W : World => C5 W (w.heap.size) a ∧ C5 W (w.heap.size + 1) b ∧ C5 W (w.heap.size + 1 + 1) c ∧ C5 W (v1.heap.size) n ∧ Below w.heap.size w W)) (fun _ => false) (by kernel_rfl) (by exact ⟨F.out.1, F.out.2.1, F.out.2.2.1, F.out.2.2.2.1, (by repeat (first | with_reducible exact Below.refl _ _ | with_reducible assumption | with_reducible refine Below.drew ?_ | with_reducible refine below_drewN ?_ _ | with_reducible refine Below.alloc ?_ (by simp <;> omega) _ | with_reducible refine Below.setCell ?_ (by simp <;> omega) _))⟩) (fun hHeld => ?_)
      refine gkt 0 ?_ (h := by intro W hSw; obtain ⟨⟨y0, y1, y2, y3, y4⟩, ⟨y5, y6, y7, y8, y9⟩, ⟨y10, y11, y12, y13, y14⟩, ⟨y15, y16, y17, y18, y19⟩, _⟩ := hSw; go_simp; first | done | with_reducible rfl)
      refine gkt 1 ?_ (h := by intro W hSw; obtain ⟨⟨y0, y1, y2, y3, y4⟩, ⟨y5, y6, y7, y8, y9⟩, ⟨y10, y11, y12, y13, y14⟩, ⟨y15, y16, y17, y18, y19⟩, _⟩ := hSw; go_simp; first | done | with_reducible rfl)
      refine gkp 3 ?_
      refine gkp 5 ?_
      refine gk1 2 (fun K hK => ?_)
      go_simp
      go_at_call 23; refine (GC.out _).mono ?_; rintro e w6 ⟨rfl, h6⟩; have hR : (fun W : World => C5 W (w.heap.size) a ∧ C5 W (w.heap.size + 1) b ∧ C5 W (w.heap.size + 1 + 1) c ∧ C5 W (v1.heap.size) n ∧ Below w.heap.size w W) w6 := ⟨hHeld.1.keep h6, hHeld.2.1.keep h6, hHeld.2.2.1.keep h6, hHeld.2.2.2.1.keep h6, gt hHeld.2.2.2.2 h6⟩; clear h6
      refine hK.out _ _ hR (fun hHeld => ?_)
      clear hK K
      (try simp only [Act.put, sA, sZ, sS])
      refine gkp 4 ?_ (v := .bool sm) (h := by intro W hSw; go_simp; first | done | with_reducible rfl)
      refine gkp 6 ?_ (v := .bool true) (h := by intro W hSw; go_simp; first | done | with_reducible rfl)
      refine gkp 7 ?_
      refine gkt 8 ?_ (h := by intro W hSw; obtain ⟨⟨y0, y1, y2, y3, y4⟩, ⟨y5, y6, y7, y8, y9⟩, ⟨y10, y11, y12, y13, y14⟩, ⟨y15, y16, y17, y18, y19⟩, _⟩ := hSw; go_simp; first | done | with_reducible rfl)
      refine gkt 9 ?_ (h := by intro W hSw; obtain ⟨⟨y0, y1, y2, y3, y4⟩, ⟨y5, y6, y7, y8, y9⟩, ⟨y10, y11, y12, y13, y14⟩, ⟨y15, y16, y17, y18, y19⟩, _⟩ := hSw; go_simp; first | done | with_reducible rfl)
      refine gkt 11 ?_ (h := by intro W hSw; obtain ⟨⟨y0, y1, y2, y3, y4⟩, ⟨y5, y6, y7, y8, y9⟩, ⟨y10, y11, y12, y13, y14⟩, ⟨y15, y16, y17, y18, y19⟩, _⟩ := hSw; go_simp; first | done | with_reducible rfl)
      refine gkt 12 ?_ (h := by intro W hSw; obtain ⟨⟨y0, y1, y2, y3, y4⟩, ⟨y5, y6, y7, y8, y9⟩, ⟨y10, y11, y12, y13, y14⟩, ⟨y15, y16, y17, y18, y19⟩, _⟩ := hSw; go_simp; first | done | with_reducible rfl)
      refine gk1 10 (fun K hK => ?_)
      go_simp
      go_at_call 14; refine (M1.out _).mono ?_; rintro e w6 ⟨rfl, h6⟩; have hR : (fun W : World => C5 W (w.heap.size) a ∧ C5 W (w.heap.size + 1) b ∧ C5 W (w.heap.size + 1 + 1) c ∧ C5 W (v1.heap.size) n ∧ Below w.heap.size w W) w6 := ⟨hHeld.1.keep h6, hHeld.2.1.keep h6, hHeld.2.2.1.keep h6, hHeld.2.2.2.1.keep h6, gt hHeld.2.2.2.2 h6⟩; clear h6
      refine hK.out _ _ hR (fun hHeld => ?_)
      clear hK K
      (try simp only [Act.put, sA, sZ, sS])
      refine gk1 13 (fun K hK => ?_)
      go_simp
      go_at_call 14; refine (M2.out _).mono ?_; rintro e w6 ⟨rfl, h6⟩; have hR : (fun W : World => C5 W (w.heap.size) a ∧ C5 W (w.heap.size + 1) b ∧ C5 W (w.heap.size + 1 + 1) c ∧ C5 W (v1.heap.size) n ∧ Below w.heap.size w W) w6 := ⟨hHeld.1.keep h6, hHeld.2.1.keep h6, hHeld.2.2.1.keep h6, hHeld.2.2.2.1.keep h6, gt hHeld.2.2.2.2 h6⟩; clear h6
      refine hK.out _ _ hR (fun hHeld => ?_)
      clear hK K
      (try simp only [Act.put, sA, sZ, sS])
      refine gkp 14 ?_ (v := .bool true) (h := by intro W hSw; go_simp; first | done | with_reducible rfl)
      refine gkp 15 ?_
      refine gkp 16 ?_
      refine gkt 17 ?_ (h := by intro W hSw; obtain ⟨⟨y0, y1, y2, y3, y4⟩, ⟨y5, y6, y7, y8, y9⟩, ⟨y10, y11, y12, y13, y14⟩, ⟨y15, y16, y17, y18, y19⟩, _⟩ := hSw; go_simp; first | done | with_reducible rfl)
      refine gkt 18 ?_ (h := by intro W hSw; obtain ⟨⟨y0, y1, y2, y3, y4⟩, ⟨y5, y6, y7, y8, y9⟩, ⟨y10, y11, y12, y13, y14⟩, ⟨y15, y16, y17, y18, y19⟩, _⟩ := hSw; go_simp; first | done | with_reducible rfl)
      refine gkt 20 ?_ (h := by intro W hSw; obtain ⟨⟨y0, y1, y2, y3, y4⟩, ⟨y5, y6, y7, y8, y9⟩, ⟨y10, y11, y12, y13, y14⟩, ⟨y15, y16, y17, y18, y19⟩, _⟩ := hSw; go_simp; first | done | with_reducible rfl)
      refine gkt 21 ?_ (h := by intro W hSw; obtain ⟨⟨y0, y1, y2, y3, y4⟩, ⟨y5, y6, y7, y8, y9⟩, ⟨y10, y11, y12, y13, y14⟩, ⟨y15, y16, y17, y18, y19⟩, _⟩ := hSw; go_simp; first | done | with_reducible rfl)
      refine gk1 19 (fun K hK => ?_)
      go_simp
      go_at_call 12; refine (U3.out _).mono ?_; rintro e w6 ⟨rfl, h6⟩; have hR : (fun W : World => C5 W (w.heap.size) a ∧ C5 W (w.heap.size + 1) b ∧ C5 W (w.heap.size + 1 + 1) c ∧ C5 W (v1.heap.size) n ∧ Below w.heap.size w W) w6 := ⟨hHeld.1.keep h6, hHeld.2.1.keep h6, hHeld.2.2.1.keep h6, hHeld.2.2.2.1.keep h6, gt hHeld.2.2.2.2 h6⟩; clear h6
      refine hK.out _ _ hR (fun hHeld => ?_)
      clear hK K
      (try simp only [Act.put, sA, sZ, sS])
      refine gk1 22 (fun K hK => ?_)
      go_simp
      go_at_call 12; refine (U4.out _).mono ?_; rintro e w6 ⟨rfl, h6⟩; have hR : (fun W : World => C5 W (w.heap.size) a ∧ C5 W (w.heap.size + 1) b ∧ C5 W (w.heap.size + 1 + 1) c ∧ C5 W (v1.heap.size) n ∧ Below w.heap.size w W) w6 := ⟨hHeld.1.keep h6, hHeld.2.1.keep h6, hHeld.2.2.1.keep h6, hHeld.2.2.2.1.keep h6, gt hHeld.2.2.2.2 h6⟩; clear h6
      refine hK.out _ _ hR (fun hHeld => ?_)
      clear hK K
      (try simp only [Act.put, sA, sZ, sS])
      refine gkp 23 ?_ (v := .bool true) (h := by intro W hSw; go_simp; first | done | with_reducible rfl)
      refine gkp 24 ?_
      refine gkp 25 ?_
      refine gk1 26 (fun K hK => ?_)
      go_simp
      go_at_call 25; refine (LC.out _).mono ?_; rintro e w6 ⟨rfl, h6⟩; have hR : (fun W : World => C5 W (w.heap.size) a ∧ C5 W (w.heap.size + 1) b ∧ C5 W (w.heap.size + 1 + 1) c ∧ C5 W (v1.heap.size) n ∧ Below w.heap.size w W) w6 := ⟨hHeld.1.keep h6, hHeld.2.1.keep h6, hHeld.2.2.1.keep h6, hHeld.2.2.2.1.keep h6, gt hHeld.2.2.2.2 h6⟩; clear h6
      refine hK.out _ _ hR (fun hHeld => ?_)
      clear hK K
      (try simp only [Act.put, sA, sZ, sS])
      refine gkp 27 ?_
      refine gkp 28 ?_
      refine wpAnyK_done (by kernel_rfl) ?_ _
      have F := hid hHeld
      clear hlow
      have hlow := F.out.2.2.2.2
      go_wp2
      go_ret
      exact ⟨rfl, (by repeat (first | with_reducible exact Below.refl _ _ | with_reducible assumption | with_reducible refine Below.drew ?_ | with_reducible refine below_drewN ?_ _ | with_reducible refine Below.alloc ?_ (by simp <;> omega) _ | with_reducible refine Below.setCell ?_ (by simp <;> omega) _))⟩
    | false =>
      go_enter Try.func6, Try.ntmps6
      go_wp2_with (first | (go_at_call 12; refine (U1.out _).mono ?_; rintro e v1 ⟨rfl, h6⟩; have F := hid (show (fun W : World => C5 W (w.heap.size) a ∧ C5 W (w.heap.size + 1) b ∧ C5 W (w.heap.size + 1 + 1) c ∧ C5 W (v1.heap.size) n ∧ Below w.heap.size w W) (v1.alloc (.cells #[.bool (n).n, .int .i64 (n).lx, .int .i64 (n).ly, .int .i64 (n).hx, .int .i64 (n).hy] 25)) from ⟨(A0.out.keep h6).keep (ext1 _), (A1.out.keep h6).keep (ext1 _), (A2.out.keep h6).keep (ext1 _), C5.of (heap_alloc_new _ _), gt (gt below3 h6) (ext1 _)⟩); clear h6 U1 A0 A1 A2; obtain ⟨⟨y0, y1, y2, y3, y4⟩, ⟨y5, y6, y7, y8, y9⟩, ⟨y10, y11, y12, y13, y14⟩, ⟨y15, y16, y17, y18, y19⟩, hlow⟩ := F.out) | (go_at_call 16; refine (HA.out _).mono ?_; rintro e w6 ⟨rfl, h6⟩; clear HA y0 y1 y2 y3 y4 y5 y6 y7 y8 y9 y10 y11 y12 y13 y14 y15 y16 y17 y18 y19 hlow; have F := hid (show (fun W : World => C5 W (w.heap.size) a ∧ C5 W (w.heap.size + 1) b ∧ C5 W (w.heap.size + 1 + 1) c ∧ C5 W (v1.heap.size) n ∧ Below w.heap.size w W) w6 from ⟨F.out.1.keep h6, F.out.2.1.keep h6, F.out.2.2.1.keep h6, F.out.2.2.2.1.keep h6, gt F.out.2.2.2.2 h6⟩); clear h6; obtain ⟨⟨y0, y1, y2, y3, y4⟩, ⟨y5, y6, y7, y8, y9⟩, ⟨y10, y11, y12, y13, y14⟩, ⟨y15, y16, y17, y18, y19⟩, hlow⟩ := F.out) | (go_at_call 16; refine (HB.out _).mono ?_; rintro e w6 ⟨rfl, h6⟩; clear HB y0 y1 y2 y3 y4 y5 y6 y7 y8 y9 y10 y11 y12 y13 y14 y15 y16 y17 y18 y19 hlow; have F := hid (show (fun W : World => C5 W (w.heap.size) a ∧ C5 W (w.heap.size + 1) b ∧ C5 W (w.heap.size + 1 + 1) c ∧ C5 W (v1.heap.size) n ∧ Below w.heap.size w W) w6 from ⟨F.out.1.keep h6, F.out.2.1.keep h6, F.out.2.2.1.keep h6, F.out.2.2.2.1.keep h6, gt F.out.2.2.2.2 h6⟩); clear h6; obtain ⟨⟨y0, y1, y2, y3, y4⟩, ⟨y5, y6, y7, y8, y9⟩, ⟨y10, y11, y12, y13, y14⟩, ⟨y15, y16, y17, y18, y19⟩, hlow⟩ := F.out) | (go_at_call 14; refine (MA.out _).mono ?_; rintro e w6 ⟨rfl, h6⟩; clear MA y0 y1 y2 y3 y4 y5 y6 y7 y8 y9 y10 y11 y12 y13 y14 y15 y16 y17 y18 y19 hlow; have F := hid (show (fun W : World => C5 W (w.heap.size) a ∧ C5 W (w.heap.size + 1) b ∧ C5 W (w.heap.size + 1 + 1) c ∧ C5 W (v1.heap.size) n ∧ Below w.heap.size w W) w6 from ⟨F.out.1.keep h6, F.out.2.1.keep h6, F.out.2.2.1.keep h6, F.out.2.2.2.1.keep h6, gt F.out.2.2.2.2 h6⟩); clear h6; obtain ⟨⟨y0, y1, y2, y3, y4⟩, ⟨y5, y6, y7, y8, y9⟩, ⟨y10, y11, y12, y13, y14⟩, ⟨y15, y16, y17, y18, y19⟩, hlow⟩ := F.out) | (go_at_call 14; refine (MN.out _).mono ?_; rintro e w6 ⟨rfl, h6⟩; clear MN y0 y1 y2 y3 y4 y5 y6 y7 y8 y9 y10 y11 y12 y13 y14 y15 y16 y17 y18 y19 hlow; have F := hid (show (fun W : World => C5 W (w.heap.size) a ∧ C5 W (w.heap.size + 1) b ∧ C5 W (w.heap.size + 1 + 1) c ∧ C5 W (v1.heap.size) n ∧ Below w.heap.size w W) w6 from ⟨F.out.1.keep h6, F.out.2.1.keep h6, F.out.2.2.1.keep h6, F.out.2.2.2.1.keep h6, gt F.out.2.2.2.2 h6⟩); clear h6; obtain ⟨⟨y0, y1, y2, y3, y4⟩, ⟨y5, y6, y7, y8, y9⟩, ⟨y10, y11, y12, y13, y14⟩, ⟨y15, y16, y17, y18, y19⟩, hlow⟩ := F.out))
      refine wp_region_K (S := (fun W : World => C5 W (w.heap.size) a ∧ C5 W (w.heap.size + 1) b ∧ C5 W (w.heap.size + 1 + 1) c ∧ C5 W (v1.heap.size) n ∧ Below w.heap.size w W)) (fun _ => false) (by kernel_rfl) (by exact ⟨F.out.1, F.out.2.1, F.out.2.2.1, F.out.2.2.2.1, (by repeat (first | with_reducible exact Below.refl _ _ | with_reducible assumption | with_reducible refine Below.drew ?_ | with_reducible refine below_drewN ?_ _ | with_reducible refine Below.alloc ?_ (by simp <;> omega) _ | with_reducible refine Below.setCell ?_ (by simp <;> omega) _))⟩) (fun hHeld => ?_)
      refine gkt 0 ?_ (h := by intro W hSw; obtain ⟨⟨y0, y1, y2, y3, y4⟩, ⟨y5, y6, y7, y8, y9⟩, ⟨y10, y11, y12, y13, y14⟩, ⟨y15, y16, y17, y18, y19⟩, _⟩ := hSw; go_simp; first | done | with_reducible rfl)
      refine gkt 1 ?_ (h := by intro W hSw; obtain ⟨⟨y0, y1, y2, y3, y4⟩, ⟨y5, y6, y7, y8, y9⟩, ⟨y10, y11, y12, y13, y14⟩, ⟨y15, y16, y17, y18, y19⟩, _⟩ := hSw; go_simp; first | done | with_reducible rfl)
      refine gk1 2 (fun K hK => ?_)
      go_simp
      go_at_call 16; refine (HH.out _).mono ?_; rintro e w6 ⟨rfl, h6⟩; have hR : (fun W : World => C5 W (w.heap.size) a ∧ C5 W (w.heap.size + 1) b ∧ C5 W (w.heap.size + 1 + 1) c ∧ C5 W (v1.heap.size) n ∧ Below w.heap.size w W) w6 := ⟨hHeld.1.keep h6, hHeld.2.1.keep h6, hHeld.2.2.1.keep h6, hHeld.2.2.2.1.keep h6, gt hHeld.2.2.2.2 h6⟩; clear h6
      refine hK.out _ _ hR (fun hHeld => ?_)
      clear hK K
      (try simp only [Act.put, sA, sZ, sS])
      refine gkp 3 ?_
      refine gku 4 ?_
      refine gku 5 ?_
      refine gku 6 ?_
      refine gku 7 ?_
      refine gku 8 ?_
      refine gku 9 ?_
      refine gkp 10 ?_
      refine wpAnyK_done (by kernel_rfl) ?_ _
      have F := hid hHeld
      clear y0 y1 y2 y3 y4 y5 y6 y7 y8 y9 y10 y11 y12 y13 y14 y15 y16 y17 y18 y19 hlow
      have hlow := F.out.2.2.2.2
      go_wp2
      refine wp_region_K (S := (fun W : World => C5 W (w.heap.size) a ∧ C5 W (w.heap.size + 1) b ∧ C5 W (w.heap.size + 1 + 1) c ∧ C5 W (v1.heap.size) n ∧ Below w.heap.size w W)) (fun _ => false) (by kernel_rfl) (by exact ⟨F.out.1, F.out.2.1, F.out.2.2.1, F.out.2.2.2.1, (by repeat (first | with_reducible exact Below.refl _ _ | with_reducible assumption | with_reducible refine Below.drew ?_ | with_reducible refine below_drewN ?_ _ | with_reducible refine Below.alloc ?_ (by simp <;> omega) _ | with_reducible refine Below.setCell ?_ (by simp <;> omega) _))⟩) (fun hHeld => ?_)
      refine gkt 0 ?_ (h := by intro W hSw; obtain ⟨⟨y0, y1, y2, y3, y4⟩, ⟨y5, y6, y7, y8, y9⟩, ⟨y10, y11, y12, y13, y14⟩, ⟨y15, y16, y17, y18, y19⟩, _⟩ := hSw; go_simp; first | done | with_reducible rfl)
      refine gkt 2 ?_ (h := by intro W hSw; obtain ⟨⟨y0, y1, y2, y3, y4⟩, ⟨y5, y6, y7, y8, y9⟩, ⟨y10, y11, y12, y13, y14⟩, ⟨y15, y16, y17, y18, y19⟩, _⟩ := hSw; go_simp; first | done | with_reducible rfl)
      refine gk1 1 (fun K hK => ?_)
      go_simp
      go_at_call 21; refine (R1.out _).mono ?_; rintro e w6 ⟨rfl, h6⟩; have hR : (fun W : World => C5 W (w.heap.size) a ∧ C5 W (w.heap.size + 1) b ∧ C5 W (w.heap.size + 1 + 1) c ∧ C5 W (v1.heap.size) n ∧ Below w.heap.size w W) w6 := ⟨hHeld.1.keep h6, hHeld.2.1.keep h6, hHeld.2.2.1.keep h6, hHeld.2.2.2.1.keep h6, gt hHeld.2.2.2.2 h6⟩; clear h6
      refine hK.out _ _ hR (fun hHeld => ?_)
      clear hK K
      (try simp only [Act.put, sA, sZ, sS])
      refine gk1 3 (fun K hK => ?_)
      go_simp
      go_at_call 21; refine (R2.out _).mono ?_; rintro e w6 ⟨rfl, h6⟩; have hR : (fun W : World => C5 W (w.heap.size) a ∧ C5 W (w.heap.size + 1) b ∧ C5 W (w.heap.size + 1 + 1) c ∧ C5 W (v1.heap.size) n ∧ Below w.heap.size w W) w6 := ⟨hHeld.1.keep h6, hHeld.2.1.keep h6, hHeld.2.2.1.keep h6, hHeld.2.2.2.1.keep h6, gt hHeld.2.2.2.2 h6⟩; clear h6
      refine hK.out _ _ hR (fun hHeld => ?_)
      clear hK K
      (try simp only [Act.put, sA, sZ, sS])
      refine gkp 4 ?_ (v := .bool sm) (h := by intro W hSw; go_simp; first | done | with_reducible rfl)
      refine gkp 5 ?_
      refine wpAnyK_done (by kernel_rfl) ?_ _
      have F := hid hHeld
      clear hlow
      have hlow := F.out.2.2.2.2
      go_wp2
      refine wp_region_K (S := (fun W : World => C5 W (w.heap.size) a ∧ C5 W (w.heap.size + 1) b ∧ C5 W (w.heap.size + 1 + 1) c ∧ C5 W (v1.heap.size) n ∧ Below w.heap.size w W)) (fun _ => false) (by kernel_rfl) (by exact ⟨F.out.1, F.out.2.1, F.out.2.2.1, F.out.2.2.2.1, (by repeat (first | with_reducible exact Below.refl _ _ | with_reducible assumption | with_reducible refine Below.drew ?_ | with_reducible refine below_drewN ?_ _ | with_reducible refine Below.alloc ?_ (by simp <;> omega) _ | with_reducible refine Below.setCell ?_ (by simp <;> omega) _))⟩) (fun hHeld => ?_)
      refine gkt 0 ?_ (h := by intro W hSw; obtain ⟨⟨y0, y1, y2, y3, y4⟩, ⟨y5, y6, y7, y8, y9⟩, ⟨y10, y11, y12, y13, y14⟩, ⟨y15, y16, y17, y18, y19⟩, _⟩ := hSw; go_simp; first | done | with_reducible rfl)
      refine gkt 1 ?_ (h := by intro W hSw; obtain ⟨⟨y0, y1, y2, y3, y4⟩, ⟨y5, y6, y7, y8, y9⟩, ⟨y10, y11, y12, y13, y14⟩, ⟨y15, y16, y17, y18, y19⟩, _⟩ := hSw; go_simp; first | done | with_reducible rfl)
      refine gkp 3 ?_
      refine gkp 5 ?_
      refine gk1 2 (fun K hK => ?_)
      go_simp
      go_at_call 23; refine (GC.out _).mono ?_; rintro e w6 ⟨rfl, h6⟩; have hR : (fun W : World => C5 W (w.heap.size) a ∧ C5 W (w.heap.size + 1) b ∧ C5 W (w.heap.size + 1 + 1) c ∧ C5 W (v1.heap.size) n ∧ Below w.heap.size w W) w6 := ⟨hHeld.1.keep h6, hHeld.2.1.keep h6, hHeld.2.2.1.keep h6, hHeld.2.2.2.1.keep h6, gt hHeld.2.2.2.2 h6⟩; clear h6
      refine hK.out _ _ hR (fun hHeld => ?_)
      clear hK K
      (try simp only [Act.put, sA, sZ, sS])
      refine gkp 4 ?_ (v := .bool sm) (h := by intro W hSw; go_simp; first | done | with_reducible rfl)
      refine gkp 6 ?_ (v := .bool true) (h := by intro W hSw; go_simp; first | done | with_reducible rfl)
      refine gkp 7 ?_
      refine gkt 8 ?_ (h := by intro W hSw; obtain ⟨⟨y0, y1, y2, y3, y4⟩, ⟨y5, y6, y7, y8, y9⟩, ⟨y10, y11, y12, y13, y14⟩, ⟨y15, y16, y17, y18, y19⟩, _⟩ := hSw; go_simp; first | done | with_reducible rfl)
      refine gkt 9 ?_ (h := by intro W hSw; obtain ⟨⟨y0, y1, y2, y3, y4⟩, ⟨y5, y6, y7, y8, y9⟩, ⟨y10, y11, y12, y13, y14⟩, ⟨y15, y16, y17, y18, y19⟩, _⟩ := hSw; go_simp; first | done | with_reducible rfl)
      refine gkt 11 ?_ (h := by intro W hSw; obtain ⟨⟨y0, y1, y2, y3, y4⟩, ⟨y5, y6, y7, y8, y9⟩, ⟨y10, y11, y12, y13, y14⟩, ⟨y15, y16, y17, y18, y19⟩, _⟩ := hSw; go_simp; first | done | with_reducible rfl)
      refine gkt 12 ?_ (h := by intro W hSw; obtain ⟨⟨y0, y1, y2, y3, y4⟩, ⟨y5, y6, y7, y8, y9⟩, ⟨y10, y11, y12, y13, y14⟩, ⟨y15, y16, y17, y18, y19⟩, _⟩ := hSw; go_simp; first | done | with_reducible rfl)
      refine gk1 10 (fun K hK => ?_)
      go_simp
      go_at_call 14; refine (M1.out _).mono ?_; rintro e w6 ⟨rfl, h6⟩; have hR : (fun W : World => C5 W (w.heap.size) a ∧ C5 W (w.heap.size + 1) b ∧ C5 W (w.heap.size + 1 + 1) c ∧ C5 W (v1.heap.size) n ∧ Below w.heap.size w W) w6 := ⟨hHeld.1.keep h6, hHeld.2.1.keep h6, hHeld.2.2.1.keep h6, hHeld.2.2.2.1.keep h6, gt hHeld.2.2.2.2 h6⟩; clear h6
      refine hK.out _ _ hR (fun hHeld => ?_)
      clear hK K
      (try simp only [Act.put, sA, sZ, sS])
      refine gk1 13 (fun K hK => ?_)
      go_simp
      go_at_call 14; refine (M2.out _).mono ?_; rintro e w6 ⟨rfl, h6⟩; have hR : (fun W : World => C5 W (w.heap.size) a ∧ C5 W (w.heap.size + 1) b ∧ C5 W (w.heap.size + 1 + 1) c ∧ C5 W (v1.heap.size) n ∧ Below w.heap.size w W) w6 := ⟨hHeld.1.keep h6, hHeld.2.1.keep h6, hHeld.2.2.1.keep h6, hHeld.2.2.2.1.keep h6, gt hHeld.2.2.2.2 h6⟩; clear h6
      refine hK.out _ _ hR (fun hHeld => ?_)
      clear hK K
      (try simp only [Act.put, sA, sZ, sS])
      refine gkp 14 ?_ (v := .bool true) (h := by intro W hSw; go_simp; first | done | with_reducible rfl)
      refine gkp 15 ?_
      refine gkp 16 ?_
      refine gkt 17 ?_ (h := by intro W hSw; obtain ⟨⟨y0, y1, y2, y3, y4⟩, ⟨y5, y6, y7, y8, y9⟩, ⟨y10, y11, y12, y13, y14⟩, ⟨y15, y16, y17, y18, y19⟩, _⟩ := hSw; go_simp; first | done | with_reducible rfl)
      refine gkt 18 ?_ (h := by intro W hSw; obtain ⟨⟨y0, y1, y2, y3, y4⟩, ⟨y5, y6, y7, y8, y9⟩, ⟨y10, y11, y12, y13, y14⟩, ⟨y15, y16, y17, y18, y19⟩, _⟩ := hSw; go_simp; first | done | with_reducible rfl)
      refine gkt 20 ?_ (h := by intro W hSw; obtain ⟨⟨y0, y1, y2, y3, y4⟩, ⟨y5, y6, y7, y8, y9⟩, ⟨y10, y11, y12, y13, y14⟩, ⟨y15, y16, y17, y18, y19⟩, _⟩ := hSw; go_simp; first | done | with_reducible rfl)
      refine gkt 21 ?_ (h := by intro W hSw; obtain ⟨⟨y0, y1, y2, y3, y4⟩, ⟨y5, y6, y7, y8, y9⟩, ⟨y10, y11, y12, y13, y14⟩, ⟨y15, y16, y17, y18, y19⟩, _⟩ := hSw; go_simp; first | done | with_reducible rfl)
      refine gk1 19 (fun K hK => ?_)
      go_simp
      go_at_call 12; refine (U3.out _).mono ?_; rintro e w6 ⟨rfl, h6⟩; have hR : (fun W : World => C5 W (w.heap.size) a ∧ C5 W (w.heap.size + 1) b ∧ C5 W (w.heap.size + 1 + 1) c ∧ C5 W (v1.heap.size) n ∧ Below w.heap.size w W) w6 := ⟨hHeld.1.keep h6, hHeld.2.1.keep h6, hHeld.2.2.1.keep h6, hHeld.2.2.2.1.keep h6, gt hHeld.2.2.2.2 h6⟩; clear h6
      refine hK.out _ _ hR (fun hHeld => ?_)
      clear hK K
      (try simp only [Act.put, sA, sZ, sS])
      refine gk1 22 (fun K hK => ?_)
      go_simp
      go_at_call 12; refine (U4.out _).mono ?_; rintro e w6 ⟨rfl, h6⟩; have hR : (fun W : World => C5 W (w.heap.size) a ∧ C5 W (w.heap.size + 1) b ∧ C5 W (w.heap.size + 1 + 1) c ∧ C5 W (v1.heap.size) n ∧ Below w.heap.size w W) w6 := ⟨hHeld.1.keep h6, hHeld.2.1.keep h6, hHeld.2.2.1.keep h6, hHeld.2.2.2.1.keep h6, gt hHeld.2.2.2.2 h6⟩; clear h6
      refine hK.out _ _ hR (fun hHeld => ?_)
      clear hK K
      (try simp only [Act.put, sA, sZ, sS])
      refine gkp 23 ?_ (v := .bool true) (h := by intro W hSw; go_simp; first | done | with_reducible rfl)
      refine gkp 24 ?_
      refine gkp 25 ?_
      refine gk1 26 (fun K hK => ?_)
      go_simp
      go_at_call 25; refine (LC.out _).mono ?_; rintro e w6 ⟨rfl, h6⟩; have hR : (fun W : World => C5 W (w.heap.size) a ∧ C5 W (w.heap.size + 1) b ∧ C5 W (w.heap.size + 1 + 1) c ∧ C5 W (v1.heap.size) n ∧ Below w.heap.size w W) w6 := ⟨hHeld.1.keep h6, hHeld.2.1.keep h6, hHeld.2.2.1.keep h6, hHeld.2.2.2.1.keep h6, gt hHeld.2.2.2.2 h6⟩; clear h6
      refine hK.out _ _ hR (fun hHeld => ?_)
      clear hK K
      (try simp only [Act.put, sA, sZ, sS])
      refine gkp 27 ?_
      refine gkp 28 ?_
      refine wpAnyK_done (by kernel_rfl) ?_ _
      have F := hid hHeld
      clear hlow
      have hlow := F.out.2.2.2.2
      go_wp2
      go_ret
      exact ⟨rfl, (by repeat (first | with_reducible exact Below.refl _ _ | with_reducible assumption | with_reducible refine Below.drew ?_ | with_reducible refine below_drewN ?_ _ | with_reducible refine Below.alloc ?_ (by simp <;> omega) _ | with_reducible refine Below.setCell ?_ (by simp <;> omega) _))⟩
  | false =>
    cases h1 with
    | true =>
      obtain rfl : e1 = true := IH.out rfl
      go_enter Try.func6, Try.ntmps6
      go_wp2_with (first | (go_at_call 12; refine (U1.out _).mono ?_; rintro e v1 ⟨rfl, h6⟩; have F := hid (show (fun W : World => C5 W (w.heap.size) a ∧ C5 W (w.heap.size + 1) b ∧ C5 W (w.heap.size + 1 + 1) c ∧ C5 W (v1.heap.size) n ∧ Below w.heap.size w W) (v1.alloc (.cells #[.bool (n).n, .int .i64 (n).lx, .int .i64 (n).ly, .int .i64 (n).hx, .int .i64 (n).hy] 25)) from ⟨(A0.out.keep h6).keep (ext1 _), (A1.out.keep h6).keep (ext1 _), (A2.out.keep h6).keep (ext1 _), C5.of (heap_alloc_new _ _), gt (gt below3 h6) (ext1 _)⟩); clear h6 U1 A0 A1 A2; obtain ⟨⟨y0, y1, y2, y3, y4⟩, ⟨y5, y6, y7, y8, y9⟩, ⟨y10, y11, y12, y13, y14⟩, ⟨y15, y16, y17, y18, y19⟩, hlow⟩ := F.out) | (go_at_call 16; refine (HA.out _).mono ?_; rintro e w6 ⟨rfl, h6⟩; clear HA y0 y1 y2 y3 y4 y5 y6 y7 y8 y9 y10 y11 y12 y13 y14 y15 y16 y17 y18 y19 hlow; have F := hid (show (fun W : World => C5 W (w.heap.size) a ∧ C5 W (w.heap.size + 1) b ∧ C5 W (w.heap.size + 1 + 1) c ∧ C5 W (v1.heap.size) n ∧ Below w.heap.size w W) w6 from ⟨F.out.1.keep h6, F.out.2.1.keep h6, F.out.2.2.1.keep h6, F.out.2.2.2.1.keep h6, gt F.out.2.2.2.2 h6⟩); clear h6; obtain ⟨⟨y0, y1, y2, y3, y4⟩, ⟨y5, y6, y7, y8, y9⟩, ⟨y10, y11, y12, y13, y14⟩, ⟨y15, y16, y17, y18, y19⟩, hlow⟩ := F.out) | (go_at_call 16; refine (HB.out _).mono ?_; rintro e w6 ⟨rfl, h6⟩; clear HB y0 y1 y2 y3 y4 y5 y6 y7 y8 y9 y10 y11 y12 y13 y14 y15 y16 y17 y18 y19 hlow; have F := hid (show (fun W : World => C5 W (w.heap.size) a ∧ C5 W (w.heap.size + 1) b ∧ C5 W (w.heap.size + 1 + 1) c ∧ C5 W (v1.heap.size) n ∧ Below w.heap.size w W) w6 from ⟨F.out.1.keep h6, F.out.2.1.keep h6, F.out.2.2.1.keep h6, F.out.2.2.2.1.keep h6, gt F.out.2.2.2.2 h6⟩); clear h6; obtain ⟨⟨y0, y1, y2, y3, y4⟩, ⟨y5, y6, y7, y8, y9⟩, ⟨y10, y11, y12, y13, y14⟩, ⟨y15, y16, y17, y18, y19⟩, hlow⟩ := F.out) | (go_at_call 14; refine (MA.out _).mono ?_; rintro e w6 ⟨rfl, h6⟩; clear MA y0 y1 y2 y3 y4 y5 y6 y7 y8 y9 y10 y11 y12 y13 y14 y15 y16 y17 y18 y19 hlow; have F := hid (show (fun W : World => C5 W (w.heap.size) a ∧ C5 W (w.heap.size + 1) b ∧ C5 W (w.heap.size + 1 + 1) c ∧ C5 W (v1.heap.size) n ∧ Below w.heap.size w W) w6 from ⟨F.out.1.keep h6, F.out.2.1.keep h6, F.out.2.2.1.keep h6, F.out.2.2.2.1.keep h6, gt F.out.2.2.2.2 h6⟩); clear h6; obtain ⟨⟨y0, y1, y2, y3, y4⟩, ⟨y5, y6, y7, y8, y9⟩, ⟨y10, y11, y12, y13, y14⟩, ⟨y15, y16, y17, y18, y19⟩, hlow⟩ := F.out))
      refine wp_region_K (S := (fun W : World => C5 W (w.heap.size) a ∧ C5 W (w.heap.size + 1) b ∧ C5 W (w.heap.size + 1 + 1) c ∧ C5 W (v1.heap.size) n ∧ Below w.heap.size w W)) (fun _ => false) (by kernel_rfl) (by exact ⟨F.out.1, F.out.2.1, F.out.2.2.1, F.out.2.2.2.1, (by repeat (first | with_reducible exact Below.refl _ _ | with_reducible assumption | with_reducible refine Below.drew ?_ | with_reducible refine below_drewN ?_ _ | with_reducible refine Below.alloc ?_ (by simp <;> omega) _ | with_reducible refine Below.setCell ?_ (by simp <;> omega) _))⟩) (fun hHeld => ?_)
      refine gkt 0 ?_ (h := by intro W hSw; obtain ⟨⟨y0, y1, y2, y3, y4⟩, ⟨y5, y6, y7, y8, y9⟩, ⟨y10, y11, y12, y13, y14⟩, ⟨y15, y16, y17, y18, y19⟩, _⟩ := hSw; go_simp; first | done | with_reducible rfl)
      refine gkt 1 ?_ (h := by intro W hSw; obtain ⟨⟨y0, y1, y2, y3, y4⟩, ⟨y5, y6, y7, y8, y9⟩, ⟨y10, y11, y12, y13, y14⟩, ⟨y15, y16, y17, y18, y19⟩, _⟩ := hSw; go_simp; first | done | with_reducible rfl)
      refine gk1 2 (fun K hK => ?_)
      go_simp
      go_at_call 16; refine (HH.out _).mono ?_; rintro e w6 ⟨rfl, h6⟩; have hR : (fun W : World => C5 W (w.heap.size) a ∧ C5 W (w.heap.size + 1) b ∧ C5 W (w.heap.size + 1 + 1) c ∧ C5 W (v1.heap.size) n ∧ Below w.heap.size w W) w6 := ⟨hHeld.1.keep h6, hHeld.2.1.keep h6, hHeld.2.2.1.keep h6, hHeld.2.2.2.1.keep h6, gt hHeld.2.2.2.2 h6⟩; clear h6
      refine hK.out _ _ hR (fun hHeld => ?_)
      clear hK K
      (try simp only [Act.put, sA, sZ, sS])
      refine gkp 3 ?_
      refine gkt 4 ?_ (h := by intro W hSw; obtain ⟨⟨y0, y1, y2, y3, y4⟩, ⟨y5, y6, y7, y8, y9⟩, ⟨y10, y11, y12, y13, y14⟩, ⟨y15, y16, y17, y18, y19⟩, _⟩ := hSw; go_simp; first | done | with_reducible rfl)
      refine gkt 5 ?_ (h := by intro W hSw; obtain ⟨⟨y0, y1, y2, y3, y4⟩, ⟨y5, y6, y7, y8, y9⟩, ⟨y10, y11, y12, y13, y14⟩, ⟨y15, y16, y17, y18, y19⟩, _⟩ := hSw; go_simp; first | done | with_reducible rfl)
      refine gkt 7 ?_ (h := by intro W hSw; obtain ⟨⟨y0, y1, y2, y3, y4⟩, ⟨y5, y6, y7, y8, y9⟩, ⟨y10, y11, y12, y13, y14⟩, ⟨y15, y16, y17, y18, y19⟩, _⟩ := hSw; go_simp; first | done | with_reducible rfl)
      refine gk1 6 (fun K hK => ?_)
      go_simp
      go_at_call 12; refine (U2.out _).mono ?_; rintro e w6 ⟨rfl, h6⟩; have hR : (fun W : World => C5 W (w.heap.size) a ∧ C5 W (w.heap.size + 1) b ∧ C5 W (w.heap.size + 1 + 1) c ∧ C5 W (v1.heap.size) n ∧ Below w.heap.size w W) w6 := ⟨hHeld.1.keep h6, hHeld.2.1.keep h6, hHeld.2.2.1.keep h6, hHeld.2.2.2.1.keep h6, gt hHeld.2.2.2.2 h6⟩; clear h6
      refine hK.out _ _ hR (fun hHeld => ?_)
      clear hK K
      (try simp only [Act.put, sA, sZ, sS])
      refine gk1 8 (fun K hK => ?_)
      go_simp
      go_at_call 18; refine (EN.out _).mono ?_; rintro e w6 ⟨rfl, h6⟩; have hR : (fun W : World => C5 W (w.heap.size) a ∧ C5 W (w.heap.size + 1) b ∧ C5 W (w.heap.size + 1 + 1) c ∧ C5 W (v1.heap.size) n ∧ Below w.heap.size w W) w6 := ⟨hHeld.1.keep h6, hHeld.2.1.keep h6, hHeld.2.2.1.keep h6, hHeld.2.2.2.1.keep h6, gt hHeld.2.2.2.2 h6⟩; clear h6
      refine hK.out _ _ hR (fun hHeld => ?_)
      clear hK K
      (try simp only [Act.put, sA, sZ, sS])
      refine gkp 9 ?_
      refine gkp 10 ?_
      refine wpAnyK_done (by kernel_rfl) ?_ _
      have F := hid hHeld
      clear y0 y1 y2 y3 y4 y5 y6 y7 y8 y9 y10 y11 y12 y13 y14 y15 y16 y17 y18 y19 hlow
      have hlow := F.out.2.2.2.2
      go_wp2
      refine wp_region_K (S := (fun W : World => C5 W (w.heap.size) a ∧ C5 W (w.heap.size + 1) b ∧ C5 W (w.heap.size + 1 + 1) c ∧ C5 W (v1.heap.size) n ∧ Below w.heap.size w W)) (fun _ => false) (by kernel_rfl) (by exact ⟨F.out.1, F.out.2.1, F.out.2.2.1, F.out.2.2.2.1, (by repeat (first | with_reducible exact Below.refl _ _ | with_reducible assumption | with_reducible refine Below.drew ?_ | with_reducible refine below_drewN ?_ _ | with_reducible refine Below.alloc ?_ (by simp <;> omega) _ | with_reducible refine Below.setCell ?_ (by simp <;> omega) _))⟩) (fun hHeld => ?_)
      refine gkt 0 ?_ (h := by intro W hSw; obtain ⟨⟨y0, y1, y2, y3, y4⟩, ⟨y5, y6, y7, y8, y9⟩, ⟨y10, y11, y12, y13, y14⟩, ⟨y15, y16, y17, y18, y19⟩, _⟩ := hSw; go_simp; first | done | with_reducible rfl)
      refine gkt 2 ?_ (h := by intro W hSw; obtain ⟨⟨y0, y1, y2, y3, y4⟩, ⟨y5, y6, y7, y8, y9⟩, ⟨y10, y11, y12, y13, y14⟩, ⟨y15, y16, y17, y18, y19⟩, _⟩ := hSw; go_simp; first | done | with_reducible rfl)
      refine gk1 1 (fun K hK => ?_)
      go_simp
      go_at_call 21; refine (R1.out _).mono ?_; rintro e w6 ⟨rfl, h6⟩; have hR : (fun W : World => C5 W (w.heap.size) a ∧ C5 W (w.heap.size + 1) b ∧ C5 W (w.heap.size + 1 + 1) c ∧ C5 W (v1.heap.size) n ∧ Below w.heap.size w W) w6 := ⟨hHeld.1.keep h6, hHeld.2.1.keep h6, hHeld.2.2.1.keep h6, hHeld.2.2.2.1.keep h6, gt hHeld.2.2.2.2 h6⟩; clear h6
      refine hK.out _ _ hR (fun hHeld => ?_)
      clear hK K
      (try simp only [Act.put, sA, sZ, sS])
      refine gk1 3 (fun K hK => ?_)
      go_simp
      go_at_call 21; refine (R2.out _).mono ?_; rintro e w6 ⟨rfl, h6⟩; have hR : (fun W : World => C5 W (w.heap.size) a ∧ C5 W (w.heap.size + 1) b ∧ C5 W (w.heap.size + 1 + 1) c ∧ C5 W (v1.heap.size) n ∧ Below w.heap.size w W) w6 := ⟨hHeld.1.keep h6, hHeld.2.1.keep h6, hHeld.2.2.1.keep h6, hHeld.2.2.2.1.keep h6, gt hHeld.2.2.2.2 h6⟩; clear h6
      refine hK.out _ _ hR (fun hHeld => ?_)
      clear hK K
      (try simp only [Act.put, sA, sZ, sS])
      refine gkp 4 ?_ (v := .bool sm) (h := by intro W hSw; go_simp; first | done | with_reducible rfl)
      refine gkp 5 ?_
      refine wpAnyK_done (by kernel_rfl) ?_ _
      have F := hid hHeld
      clear hlow
      have hlow := F.out.2.2.2.2
      go_wp2
      refine wp_region_K (S := (fun W : World => C5 W (w.heap.size) a ∧ C5 W (w.heap.size + 1) b ∧ C5 W (w.heap.size + 1 + 1) c ∧ C5 W (v1.heap.size) n ∧ Below w.heap.size w W)) (fun _ => false) (by kernel_rfl) (by exact ⟨F.out.1, F.out.2.1, F.out.2.2.1, F.out.2.2.2.1, (by repeat (first | with_reducible exact Below.refl _ _ | with_reducible assumption | with_reducible refine Below.drew ?_ | with_reducible refine below_drewN ?_ _ | with_reducible refine Below.alloc ?_ (by simp <;> omega) _ | with_reducible refine Below.setCell ?_ (by simp <;> omega) _))⟩) (fun hHeld => ?_)
      refine gkt 0 ?_ (h := by intro W hSw; obtain ⟨⟨y0, y1, y2, y3, y4⟩, ⟨y5, y6, y7, y8, y9⟩, ⟨y10, y11, y12, y13, y14⟩, ⟨y15, y16, y17, y18, y19⟩, _⟩ := hSw; go_simp; first | done | with_reducible rfl)
      refine gkt 1 ?_ (h := by intro W hSw; obtain ⟨⟨y0, y1, y2, y3, y4⟩, ⟨y5, y6, y7, y8, y9⟩, ⟨y10, y11, y12, y13, y14⟩, ⟨y15, y16, y17, y18, y19⟩, _⟩ := hSw; go_simp; first | done | with_reducible rfl)
      refine gkp 3 ?_
      refine gkp 5 ?_
      refine gk1 2 (fun K hK => ?_)
      go_simp
      go_at_call 23; refine (GC.out _).mono ?_; rintro e w6 ⟨rfl, h6⟩; have hR : (fun W : World => C5 W (w.heap.size) a ∧ C5 W (w.heap.size + 1) b ∧ C5 W (w.heap.size + 1 + 1) c ∧ C5 W (v1.heap.size) n ∧ Below w.heap.size w W) w6 := ⟨hHeld.1.keep h6, hHeld.2.1.keep h6, hHeld.2.2.1.keep h6, hHeld.2.2.2.1.keep h6, gt hHeld.2.2.2.2 h6⟩; clear h6
      refine hK.out _ _ hR (fun hHeld => ?_)
      clear hK K
      (try simp only [Act.put, sA, sZ, sS])
      refine gkp 4 ?_ (v := .bool sm) (h := by intro W hSw; go_simp; first | done | with_reducible rfl)
      refine gkp 6 ?_ (v := .bool true) (h := by intro W hSw; go_simp; first | done | with_reducible rfl)
      refine gkp 7 ?_
      refine gkt 8 ?_ (h := by intro W hSw; obtain ⟨⟨y0, y1, y2, y3, y4⟩, ⟨y5, y6, y7, y8, y9⟩, ⟨y10, y11, y12, y13, y14⟩, ⟨y15, y16, y17, y18, y19⟩, _⟩ := hSw; go_simp; first | done | with_reducible rfl)
      refine gkt 9 ?_ (h := by intro W hSw; obtain ⟨⟨y0, y1, y2, y3, y4⟩, ⟨y5, y6, y7, y8, y9⟩, ⟨y10, y11, y12, y13, y14⟩, ⟨y15, y16, y17, y18, y19⟩, _⟩ := hSw; go_simp; first | done | with_reducible rfl)
      refine gkt 11 ?_ (h := by intro W hSw; obtain ⟨⟨y0, y1, y2, y3, y4⟩, ⟨y5, y6, y7, y8, y9⟩, ⟨y10, y11, y12, y13, y14⟩, ⟨y15, y16, y17, y18, y19⟩, _⟩ := hSw; go_simp; first | done | with_reducible rfl)
      refine gkt 12 ?_ (h := by intro W hSw; obtain ⟨⟨y0, y1, y2, y3, y4⟩, ⟨y5, y6, y7, y8, y9⟩, ⟨y10, y11, y12, y13, y14⟩, ⟨y15, y16, y17, y18, y19⟩, _⟩ := hSw; go_simp; first | done | with_reducible rfl)
      refine gk1 10 (fun K hK => ?_)
      go_simp
      go_at_call 14; refine (M1.out _).mono ?_; rintro e w6 ⟨rfl, h6⟩; have hR : (fun W : World => C5 W (w.heap.size) a ∧ C5 W (w.heap.size + 1) b ∧ C5 W (w.heap.size + 1 + 1) c ∧ C5 W (v1.heap.size) n ∧ Below w.heap.size w W) w6 := ⟨hHeld.1.keep h6, hHeld.2.1.keep h6, hHeld.2.2.1.keep h6, hHeld.2.2.2.1.keep h6, gt hHeld.2.2.2.2 h6⟩; clear h6
      refine hK.out _ _ hR (fun hHeld => ?_)
      clear hK K
      (try simp only [Act.put, sA, sZ, sS])
      refine gk1 13 (fun K hK => ?_)
      go_simp
      go_at_call 14; refine (M2.out _).mono ?_; rintro e w6 ⟨rfl, h6⟩; have hR : (fun W : World => C5 W (w.heap.size) a ∧ C5 W (w.heap.size + 1) b ∧ C5 W (w.heap.size + 1 + 1) c ∧ C5 W (v1.heap.size) n ∧ Below w.heap.size w W) w6 := ⟨hHeld.1.keep h6, hHeld.2.1.keep h6, hHeld.2.2.1.keep h6, hHeld.2.2.2.1.keep h6, gt hHeld.2.2.2.2 h6⟩; clear h6
      refine hK.out _ _ hR (fun hHeld => ?_)
      clear hK K
      (try simp only [Act.put, sA, sZ, sS])
      refine gkp 14 ?_ (v := .bool true) (h := by intro W hSw; go_simp; first | done | with_reducible rfl)
      refine gkp 15 ?_
      refine gkp 16 ?_
      refine gkt 17 ?_ (h := by intro W hSw; obtain ⟨⟨y0, y1, y2, y3, y4⟩, ⟨y5, y6, y7, y8, y9⟩, ⟨y10, y11, y12, y13, y14⟩, ⟨y15, y16, y17, y18, y19⟩, _⟩ := hSw; go_simp; first | done | with_reducible rfl)
      refine gkt 18 ?_ (h := by intro W hSw; obtain ⟨⟨y0, y1, y2, y3, y4⟩, ⟨y5, y6, y7, y8, y9⟩, ⟨y10, y11, y12, y13, y14⟩, ⟨y15, y16, y17, y18, y19⟩, _⟩ := hSw; go_simp; first | done | with_reducible rfl)
      refine gkt 20 ?_ (h := by intro W hSw; obtain ⟨⟨y0, y1, y2, y3, y4⟩, ⟨y5, y6, y7, y8, y9⟩, ⟨y10, y11, y12, y13, y14⟩, ⟨y15, y16, y17, y18, y19⟩, _⟩ := hSw; go_simp; first | done | with_reducible rfl)
      refine gkt 21 ?_ (h := by intro W hSw; obtain ⟨⟨y0, y1, y2, y3, y4⟩, ⟨y5, y6, y7, y8, y9⟩, ⟨y10, y11, y12, y13, y14⟩, ⟨y15, y16, y17, y18, y19⟩, _⟩ := hSw; go_simp; first | done | with_reducible rfl)
      refine gk1 19 (fun K hK => ?_)
      go_simp
      go_at_call 12; refine (U3.out _).mono ?_; rintro e w6 ⟨rfl, h6⟩; have hR : (fun W : World => C5 W (w.heap.size) a ∧ C5 W (w.heap.size + 1) b ∧ C5 W (w.heap.size + 1 + 1) c ∧ C5 W (v1.heap.size) n ∧ Below w.heap.size w W) w6 := ⟨hHeld.1.keep h6, hHeld.2.1.keep h6, hHeld.2.2.1.keep h6, hHeld.2.2.2.1.keep h6, gt hHeld.2.2.2.2 h6⟩; clear h6
      refine hK.out _ _ hR (fun hHeld => ?_)
      clear hK K
      (try simp only [Act.put, sA, sZ, sS])
      refine gk1 22 (fun K hK => ?_)
      go_simp
      go_at_call 12; refine (U4.out _).mono ?_; rintro e w6 ⟨rfl, h6⟩; have hR : (fun W : World => C5 W (w.heap.size) a ∧ C5 W (w.heap.size + 1) b ∧ C5 W (w.heap.size + 1 + 1) c ∧ C5 W (v1.heap.size) n ∧ Below w.heap.size w W) w6 := ⟨hHeld.1.keep h6, hHeld.2.1.keep h6, hHeld.2.2.1.keep h6, hHeld.2.2.2.1.keep h6, gt hHeld.2.2.2.2 h6⟩; clear h6
      refine hK.out _ _ hR (fun hHeld => ?_)
      clear hK K
      (try simp only [Act.put, sA, sZ, sS])
      refine gkp 23 ?_ (v := .bool true) (h := by intro W hSw; go_simp; first | done | with_reducible rfl)
      refine gkp 24 ?_
      refine gkp 25 ?_
      refine gk1 26 (fun K hK => ?_)
      go_simp
      go_at_call 25; refine (LC.out _).mono ?_; rintro e w6 ⟨rfl, h6⟩; have hR : (fun W : World => C5 W (w.heap.size) a ∧ C5 W (w.heap.size + 1) b ∧ C5 W (w.heap.size + 1 + 1) c ∧ C5 W (v1.heap.size) n ∧ Below w.heap.size w W) w6 := ⟨hHeld.1.keep h6, hHeld.2.1.keep h6, hHeld.2.2.1.keep h6, hHeld.2.2.2.1.keep h6, gt hHeld.2.2.2.2 h6⟩; clear h6
      refine hK.out _ _ hR (fun hHeld => ?_)
      clear hK K
      (try simp only [Act.put, sA, sZ, sS])
      refine gkp 27 ?_
      refine gkp 28 ?_
      refine wpAnyK_done (by kernel_rfl) ?_ _
      have F := hid hHeld
      clear hlow
      have hlow := F.out.2.2.2.2
      go_wp2
      go_ret
      exact ⟨rfl, (by repeat (first | with_reducible exact Below.refl _ _ | with_reducible assumption | with_reducible refine Below.drew ?_ | with_reducible refine below_drewN ?_ _ | with_reducible refine Below.alloc ?_ (by simp <;> omega) _ | with_reducible refine Below.setCell ?_ (by simp <;> omega) _))⟩
    | false =>
      go_enter Try.func6, Try.ntmps6
      go_wp2_with (first | (go_at_call 12; refine (U1.out _).mono ?_; rintro e v1 ⟨rfl, h6⟩; have F := hid (show (fun W : World => C5 W (w.heap.size) a ∧ C5 W (w.heap.size + 1) b ∧ C5 W (w.heap.size + 1 + 1) c ∧ C5 W (v1.heap.size) n ∧ Below w.heap.size w W) (v1.alloc (.cells #[.bool (n).n, .int .i64 (n).lx, .int .i64 (n).ly, .int .i64 (n).hx, .int .i64 (n).hy] 25)) from ⟨(A0.out.keep h6).keep (ext1 _), (A1.out.keep h6).keep (ext1 _), (A2.out.keep h6).keep (ext1 _), C5.of (heap_alloc_new _ _), gt (gt below3 h6) (ext1 _)⟩); clear h6 U1 A0 A1 A2; obtain ⟨⟨y0, y1, y2, y3, y4⟩, ⟨y5, y6, y7, y8, y9⟩, ⟨y10, y11, y12, y13, y14⟩, ⟨y15, y16, y17, y18, y19⟩, hlow⟩ := F.out) | (go_at_call 16; refine (HA.out _).mono ?_; rintro e w6 ⟨rfl, h6⟩; clear HA y0 y1 y2 y3 y4 y5 y6 y7 y8 y9 y10 y11 y12 y13 y14 y15 y16 y17 y18 y19 hlow; have F := hid (show (fun W : World => C5 W (w.heap.size) a ∧ C5 W (w.heap.size + 1) b ∧ C5 W (w.heap.size + 1 + 1) c ∧ C5 W (v1.heap.size) n ∧ Below w.heap.size w W) w6 from ⟨F.out.1.keep h6, F.out.2.1.keep h6, F.out.2.2.1.keep h6, F.out.2.2.2.1.keep h6, gt F.out.2.2.2.2 h6⟩); clear h6; obtain ⟨⟨y0, y1, y2, y3, y4⟩, ⟨y5, y6, y7, y8, y9⟩, ⟨y10, y11, y12, y13, y14⟩, ⟨y15, y16, y17, y18, y19⟩, hlow⟩ := F.out) | (go_at_call 16; refine (HB.out _).mono ?_; rintro e w6 ⟨rfl, h6⟩; clear HB y0 y1 y2 y3 y4 y5 y6 y7 y8 y9 y10 y11 y12 y13 y14 y15 y16 y17 y18 y19 hlow; have F := hid (show (fun W : World => C5 W (w.heap.size) a ∧ C5 W (w.heap.size + 1) b ∧ C5 W (w.heap.size + 1 + 1) c ∧ C5 W (v1.heap.size) n ∧ Below w.heap.size w W) w6 from ⟨F.out.1.keep h6, F.out.2.1.keep h6, F.out.2.2.1.keep h6, F.out.2.2.2.1.keep h6, gt F.out.2.2.2.2 h6⟩); clear h6; obtain ⟨⟨y0, y1, y2, y3, y4⟩, ⟨y5, y6, y7, y8, y9⟩, ⟨y10, y11, y12, y13, y14⟩, ⟨y15, y16, y17, y18, y19⟩, hlow⟩ := F.out) | (go_at_call 14; refine (MA.out _).mono ?_; rintro e w6 ⟨rfl, h6⟩; clear MA y0 y1 y2 y3 y4 y5 y6 y7 y8 y9 y10 y11 y12 y13 y14 y15 y16 y17 y18 y19 hlow; have F := hid (show (fun W : World => C5 W (w.heap.size) a ∧ C5 W (w.heap.size + 1) b ∧ C5 W (w.heap.size + 1 + 1) c ∧ C5 W (v1.heap.size) n ∧ Below w.heap.size w W) w6 from ⟨F.out.1.keep h6, F.out.2.1.keep h6, F.out.2.2.1.keep h6, F.out.2.2.2.1.keep h6, gt F.out.2.2.2.2 h6⟩); clear h6; obtain ⟨⟨y0, y1, y2, y3, y4⟩, ⟨y5, y6, y7, y8, y9⟩, ⟨y10, y11, y12, y13, y14⟩, ⟨y15, y16, y17, y18, y19⟩, hlow⟩ := F.out))
      refine wp_region_K (S := (fun W : World => C5 W (w.heap.size) a ∧ C5 W (w.heap.size + 1) b ∧ C5 W (w.heap.size + 1 + 1) c ∧ C5 W (v1.heap.size) n ∧ Below w.heap.size w W)) (fun _ => false) (by kernel_rfl) (by exact ⟨F.out.1, F.out.2.1, F.out.2.2.1, F.out.2.2.2.1, (by repeat (first | with_reducible exact Below.refl _ _ | with_reducible assumption | with_reducible refine Below.drew ?_ | with_reducible refine below_drewN ?_ _ | with_reducible refine Below.alloc ?_ (by simp <;> omega) _ | with_reducible refine Below.setCell ?_ (by simp <;> omega) _))⟩) (fun hHeld => ?_)
      refine gkt 0 ?_ (h := by intro W hSw; obtain ⟨⟨y0, y1, y2, y3, y4⟩, ⟨y5, y6, y7, y8, y9⟩, ⟨y10, y11, y12, y13, y14⟩, ⟨y15, y16, y17, y18, y19⟩, _⟩ := hSw; go_simp; first | done | with_reducible rfl)
      refine gkt 1 ?_ (h := by intro W hSw; obtain ⟨⟨y0, y1, y2, y3, y4⟩, ⟨y5, y6, y7, y8, y9⟩, ⟨y10, y11, y12, y13, y14⟩, ⟨y15, y16, y17, y18, y19⟩, _⟩ := hSw; go_simp; first | done | with_reducible rfl)
      refine gk1 2 (fun K hK => ?_)
      go_simp
      go_at_call 16; refine (HH.out _).mono ?_; rintro e w6 ⟨rfl, h6⟩; have hR : (fun W : World => C5 W (w.heap.size) a ∧ C5 W (w.heap.size + 1) b ∧ C5 W (w.heap.size + 1 + 1) c ∧ C5 W (v1.heap.size) n ∧ Below w.heap.size w W) w6 := ⟨hHeld.1.keep h6, hHeld.2.1.keep h6, hHeld.2.2.1.keep h6, hHeld.2.2.2.1.keep h6, gt hHeld.2.2.2.2 h6⟩; clear h6
      refine hK.out _ _ hR (fun hHeld => ?_)
      clear hK K
      (try simp only [Act.put, sA, sZ, sS])
      refine gkp 3 ?_
      refine gku 4 ?_
      refine gku 5 ?_
      refine gku 6 ?_
      refine gku 7 ?_
      refine gku 8 ?_
      refine gku 9 ?_
      refine gkp 10 ?_
      refine wpAnyK_done (by kernel_rfl) ?_ _
      have F := hid hHeld
      clear y0 y1 y2 y3 y4 y5 y6 y7 y8 y9 y10 y11 y12 y13 y14 y15 y16 y17 y18 y19 hlow
      have hlow := F.out.2.2.2.2
      go_wp2
      refine wp_region_K (S := (fun W : World => C5 W (w.heap.size) a ∧ C5 W (w.heap.size + 1) b ∧ C5 W (w.heap.size + 1 + 1) c ∧ C5 W (v1.heap.size) n ∧ Below w.heap.size w W)) (fun _ => false) (by kernel_rfl) (by exact ⟨F.out.1, F.out.2.1, F.out.2.2.1, F.out.2.2.2.1, (by repeat (first | with_reducible exact Below.refl _ _ | with_reducible assumption | with_reducible refine Below.drew ?_ | with_reducible refine below_drewN ?_ _ | with_reducible refine Below.alloc ?_ (by simp <;> omega) _ | with_reducible refine Below.setCell ?_ (by simp <;> omega) _))⟩) (fun hHeld => ?_)
      refine gkt 0 ?_ (h := by intro W hSw; obtain ⟨⟨y0, y1, y2, y3, y4⟩, ⟨y5, y6, y7, y8, y9⟩, ⟨y10, y11, y12, y13, y14⟩, ⟨y15, y16, y17, y18, y19⟩, _⟩ := hSw; go_simp; first | done | with_reducible rfl)
      refine gkt 2 ?_ (h := by intro W hSw; obtain ⟨⟨y0, y1, y2, y3, y4⟩, ⟨y5, y6, y7, y8, y9⟩, ⟨y10, y11, y12, y13, y14⟩, ⟨y15, y16, y17, y18, y19⟩, _⟩ := hSw; go_simp; first | done | with_reducible rfl)
      refine gk1 1 (fun K hK => ?_)
      go_simp
      go_at_call 21; refine (R1.out _).mono ?_; rintro e w6 ⟨rfl, h6⟩; have hR : (fun W : World => C5 W (w.heap.size) a ∧ C5 W (w.heap.size + 1) b ∧ C5 W (w.heap.size + 1 + 1) c ∧ C5 W (v1.heap.size) n ∧ Below w.heap.size w W) w6 := ⟨hHeld.1.keep h6, hHeld.2.1.keep h6, hHeld.2.2.1.keep h6, hHeld.2.2.2.1.keep h6, gt hHeld.2.2.2.2 h6⟩; clear h6
      refine hK.out _ _ hR (fun hHeld => ?_)
      clear hK K
      (try simp only [Act.put, sA, sZ, sS])
      refine gk1 3 (fun K hK => ?_)
      go_simp
      go_at_call 21; refine (R2.out _).mono ?_; rintro e w6 ⟨rfl, h6⟩; have hR : (fun W : World => C5 W (w.heap.size) a ∧ C5 W (w.heap.size + 1) b ∧ C5 W (w.heap.size + 1 + 1) c ∧ C5 W (v1.heap.size) n ∧ Below w.heap.size w W) w6 := ⟨hHeld.1.keep h6, hHeld.2.1.keep h6, hHeld.2.2.1.keep h6, hHeld.2.2.2.1.keep h6, gt hHeld.2.2.2.2 h6⟩; clear h6
      refine hK.out _ _ hR (fun hHeld => ?_)
      clear hK K
      (try simp only [Act.put, sA, sZ, sS])
      refine gkp 4 ?_ (v := .bool sm) (h := by intro W hSw; go_simp; first | done | with_reducible rfl)
      refine gkp 5 ?_
      refine wpAnyK_done (by kernel_rfl) ?_ _
      have F := hid hHeld
      clear hlow
      have hlow := F.out.2.2.2.2
      go_wp2
      refine wp_region_K (S := (fun W : World => C5 W (w.heap.size) a ∧ C5 W (w.heap.size + 1) b ∧ C5 W (w.heap.size + 1 + 1) c ∧ C5 W (v1.heap.size) n ∧ Below w.heap.size w W)) (fun _ => false) (by kernel_rfl) (by exact ⟨F.out.1, F.out.2.1, F.out.2.2.1, F.out.2.2.2.1, (by repeat (first | with_reducible exact Below.refl _ _ | with_reducible assumption | with_reducible refine Below.drew ?_ | with_reducible refine below_drewN ?_ _ | with_reducible refine Below.alloc ?_ (by simp <;> omega) _ | with_reducible refine Below.setCell ?_ (by simp <;> omega) _))⟩) (fun hHeld => ?_)
      refine gkt 0 ?_ (h := by intro W hSw; obtain ⟨⟨y0, y1, y2, y3, y4⟩, ⟨y5, y6, y7, y8, y9⟩, ⟨y10, y11, y12, y13, y14⟩, ⟨y15, y16, y17, y18, y19⟩, _⟩ := hSw; go_simp; first | done | with_reducible rfl)
      refine gkt 1 ?_ (h := by intro W hSw; obtain ⟨⟨y0, y1, y2, y3, y4⟩, ⟨y5, y6, y7, y8, y9⟩, ⟨y10, y11, y12, y13, y14⟩, ⟨y15, y16, y17, y18, y19⟩, _⟩ := hSw; go_simp; first | done | with_reducible rfl)
      refine gkp 3 ?_
      refine gkp 5 ?_
      refine gk1 2 (fun K hK => ?_)
      go_simp
      go_at_call 23; refine (GC.out _).mono ?_; rintro e w6 ⟨rfl, h6⟩; have hR : (fun W : World => C5 W (w.heap.size) a ∧ C5 W (w.heap.size + 1) b ∧ C5 W (w.heap.size + 1 + 1) c ∧ C5 W (v1.heap.size) n ∧ Below w.heap.size w W) w6 := ⟨hHeld.1.keep h6, hHeld.2.1.keep h6, hHeld.2.2.1.keep h6, hHeld.2.2.2.1.keep h6, gt hHeld.2.2.2.2 h6⟩; clear h6
      refine hK.out _ _ hR (fun hHeld => ?_)
      clear hK K
      (try simp only [Act.put, sA, sZ, sS])
      refine gkp 4 ?_ (v := .bool sm) (h := by intro W hSw; go_simp; first | done | with_reducible rfl)
      refine gkp 6 ?_ (v := .bool true) (h := by intro W hSw; go_simp; first | done | with_reducible rfl)
      refine gkp 7 ?_
      refine gkt 8 ?_ (h := by intro W hSw; obtain ⟨⟨y0, y1, y2, y3, y4⟩, ⟨y5, y6, y7, y8, y9⟩, ⟨y10, y11, y12, y13, y14⟩, ⟨y15, y16, y17, y18, y19⟩, _⟩ := hSw; go_simp; first | done | with_reducible rfl)
      refine gkt 9 ?_ (h := by intro W hSw; obtain ⟨⟨y0, y1, y2, y3, y4⟩, ⟨y5, y6, y7, y8, y9⟩, ⟨y10, y11, y12, y13, y14⟩, ⟨y15, y16, y17, y18, y19⟩, _⟩ := hSw; go_simp; first | done | with_reducible rfl)
      refine gkt 11 ?_ (h := by intro W hSw; obtain ⟨⟨y0, y1, y2, y3, y4⟩, ⟨y5, y6, y7, y8, y9⟩, ⟨y10, y11, y12, y13, y14⟩, ⟨y15, y16, y17, y18, y19⟩, _⟩ := hSw; go_simp; first | done | with_reducible rfl)
      refine gkt 12 ?_ (h := by intro W hSw; obtain ⟨⟨y0, y1, y2, y3, y4⟩, ⟨y5, y6, y7, y8, y9⟩, ⟨y10, y11, y12, y13, y14⟩, ⟨y15, y16, y17, y18, y19⟩, _⟩ := hSw; go_simp; first | done | with_reducible rfl)
      refine gk1 10 (fun K hK => ?_)
      go_simp
      go_at_call 14; refine (M1.out _).mono ?_; rintro e w6 ⟨rfl, h6⟩; have hR : (fun W : World => C5 W (w.heap.size) a ∧ C5 W (w.heap.size + 1) b ∧ C5 W (w.heap.size + 1 + 1) c ∧ C5 W (v1.heap.size) n ∧ Below w.heap.size w W) w6 := ⟨hHeld.1.keep h6, hHeld.2.1.keep h6, hHeld.2.2.1.keep h6, hHeld.2.2.2.1.keep h6, gt hHeld.2.2.2.2 h6⟩; clear h6
      refine hK.out _ _ hR (fun hHeld => ?_)
      clear hK K
      (try simp only [Act.put, sA, sZ, sS])
      refine gk1 13 (fun K hK => ?_)
      go_simp
      go_at_call 14; refine (M2.out _).mono ?_; rintro e w6 ⟨rfl, h6⟩; have hR : (fun W : World => C5 W (w.heap.size) a ∧ C5 W (w.heap.size + 1) b ∧ C5 W (w.heap.size + 1 + 1) c ∧ C5 W (v1.heap.size) n ∧ Below w.heap.size w W) w6 := ⟨hHeld.1.keep h6, hHeld.2.1.keep h6, hHeld.2.2.1.keep h6, hHeld.2.2.2.1.keep h6, gt hHeld.2.2.2.2 h6⟩; clear h6
      refine hK.out _ _ hR (fun hHeld => ?_)
      clear hK K
      (try simp only [Act.put, sA, sZ, sS])
      refine gkp 14 ?_ (v := .bool true) (h := by intro W hSw; go_simp; first | done | with_reducible rfl)
      refine gkp 15 ?_
      refine gkp 16 ?_
      refine gkt 17 ?_ (h := by intro W hSw; obtain ⟨⟨y0, y1, y2, y3, y4⟩, ⟨y5, y6, y7, y8, y9⟩, ⟨y10, y11, y12, y13, y14⟩, ⟨y15, y16, y17, y18, y19⟩, _⟩ := hSw; go_simp; first | done | with_reducible rfl)
      refine gkt 18 ?_ (h := by intro W hSw; obtain ⟨⟨y0, y1, y2, y3, y4⟩, ⟨y5, y6, y7, y8, y9⟩, ⟨y10, y11, y12, y13, y14⟩, ⟨y15, y16, y17, y18, y19⟩, _⟩ := hSw; go_simp; first | done | with_reducible rfl)
      refine gkt 20 ?_ (h := by intro W hSw; obtain ⟨⟨y0, y1, y2, y3, y4⟩, ⟨y5, y6, y7, y8, y9⟩, ⟨y10, y11, y12, y13, y14⟩, ⟨y15, y16, y17, y18, y19⟩, _⟩ := hSw; go_simp; first | done | with_reducible rfl)
      refine gkt 21 ?_ (h := by intro W hSw; obtain ⟨⟨y0, y1, y2, y3, y4⟩, ⟨y5, y6, y7, y8, y9⟩, ⟨y10, y11, y12, y13, y14⟩, ⟨y15, y16, y17, y18, y19⟩, _⟩ := hSw; go_simp; first | done | with_reducible rfl)
      refine gk1 19 (fun K hK => ?_)
      go_simp
      go_at_call 12; refine (U3.out _).mono ?_; rintro e w6 ⟨rfl, h6⟩; have hR : (fun W : World => C5 W (w.heap.size) a ∧ C5 W (w.heap.size + 1) b ∧ C5 W (w.heap.size + 1 + 1) c ∧ C5 W (v1.heap.size) n ∧ Below w.heap.size w W) w6 := ⟨hHeld.1.keep h6, hHeld.2.1.keep h6, hHeld.2.2.1.keep h6, hHeld.2.2.2.1.keep h6, gt hHeld.2.2.2.2 h6⟩; clear h6
      refine hK.out _ _ hR (fun hHeld => ?_)
      clear hK K
      (try simp only [Act.put, sA, sZ, sS])
      refine gk1 22 (fun K hK => ?_)
      go_simp
      go_at_call 12; refine (U4.out _).mono ?_; rintro e w6 ⟨rfl, h6⟩; have hR : (fun W : World => C5 W (w.heap.size) a ∧ C5 W (w.heap.size + 1) b ∧ C5 W (w.heap.size + 1 + 1) c ∧ C5 W (v1.heap.size) n ∧ Below w.heap.size w W) w6 := ⟨hHeld.1.keep h6, hHeld.2.1.keep h6, hHeld.2.2.1.keep h6, hHeld.2.2.2.1.keep h6, gt hHeld.2.2.2.2 h6⟩; clear h6
      refine hK.out _ _ hR (fun hHeld => ?_)
      clear hK K
      (try simp only [Act.put, sA, sZ, sS])
      refine gkp 23 ?_ (v := .bool true) (h := by intro W hSw; go_simp; first | done | with_reducible rfl)
      refine gkp 24 ?_
      refine gkp 25 ?_
      refine gk1 26 (fun K hK => ?_)
      go_simp
      go_at_call 25; refine (LC.out _).mono ?_; rintro e w6 ⟨rfl, h6⟩; have hR : (fun W : World => C5 W (w.heap.size) a ∧ C5 W (w.heap.size + 1) b ∧ C5 W (w.heap.size + 1 + 1) c ∧ C5 W (v1.heap.size) n ∧ Below w.heap.size w W) w6 := ⟨hHeld.1.keep h6, hHeld.2.1.keep h6, hHeld.2.2.1.keep h6, hHeld.2.2.2.1.keep h6, gt hHeld.2.2.2.2 h6⟩; clear h6
      refine hK.out _ _ hR (fun hHeld => ?_)
      clear hK K
      (try simp only [Act.put, sA, sZ, sS])
      refine gkp 27 ?_
      refine gkp 28 ?_
      refine wpAnyK_done (by kernel_rfl) ?_ _
      have F := hid hHeld
      clear hlow
      have hlow := F.out.2.2.2.2
      go_wp2
      go_ret
      exact ⟨rfl, (by repeat (first | with_reducible exact Below.refl _ _ | with_reducible assumption | with_reducible refine Below.drew ?_ | with_reducible refine below_drewN ?_ _ | with_reducible refine Below.alloc ?_ (by simp <;> omega) _ | with_reducible refine Below.setCell ?_ (by simp <;> omega) _))⟩
end Go.Proofs.Ytjlahomjhadnkaa
