/- The document's Meets, Holds and Equal; no statement of the seat is proved here. The document's Area and Growth, and u; no statement of the seat is proved here. The document's Growth; no statement of the seat is proved here. -/
import Derived.Test.YtjlahomjhadnkaaFa
import Derived.Test.YtjlahomjhadnkaaDa
import Derived.Test.YtjlahomjhadnkaaWRz
namespace Go.Proofs.Ytjlahomjhadnkaa
open Go.RowKit Go.Maps Wid

theorem meets_no1 {a b : Rect} (h : hasR a = false) : meetsR a b = false := by rw [meets_or, or_hasn h]; rfl
theorem meets_no2 {a b : Rect} (h : hasR b = false) : meetsR a b = false := by rw [meets_comm]; exact meets_no1 h
theorem meets_yes {a b : Rect} (ha : hasR a = true) (hb : hasR b = true) : meetsR a b = (decide (a.lx ≤ b.hx) && decide (b.lx ≤ a.hx) && decide (a.ly ≤ b.hy) && decide (b.ly ≤ a.hy)) := by
  rw [meets_or, or_has' ha, or_has' hb]
  simp [meetsV, has_n ha, has_n hb]
theorem holds_no2 {a b : Rect} (h : hasR b = false) : holdsR a b = true := by
  unfold holdsR
  rw [eqR_iff, uni_v, or_hasn h]
  rcases or_cases a with e | ⟨a0, a1, a2, a3, e, _⟩ <;> rw [e] <;> rfl
theorem holds_no1 {a b : Rect} (ha : hasR a = false) (hb : hasR b = true) : holdsR a b = false := by
  unfold holdsR
  rw [eqR_false, uni_v, or_hasn ha, or_has' hb]
  intro e
  have h1 := has_n hb
  rw [show uniV noR b = b from rfl] at e
  rw [e] at h1
  cases h1
theorem holds_yes {a b : Rect} (ha : hasR a = true) (hb : hasR b = true) : holdsR a b = (decide (a.lx ≤ b.lx) && decide (b.hx ≤ a.hx) && decide (a.ly ≤ b.ly) && decide (b.hy ≤ a.hy)) := by
  unfold holdsR
  rw [Bool.eq_iff_iff, eqR_iff, uni_v, or_has' ha, or_has' hb]
  have h1 := has_n ha
  have h2 := has_n hb
  obtain ⟨an, a0, a1, a2, a3⟩ := a
  obtain ⟨bn, b0, b1, b2, b3⟩ := b
  simp only at h1 h2
  subst h1 h2
  simp [uniV]
  omega
theorem equal_no {a b : Rect} (ha : hasR a = false) (hb : hasR b = false) : equalR a b = true := by unfold equalR; rw [or_hasn ha, or_hasn hb]; rfl
theorem equal_no1 {a b : Rect} (ha : hasR a = false) (hb : hasR b = true) : equalR a b = false := by
  unfold equalR
  rw [eqR_false, or_hasn ha, or_has' hb]
  intro e
  have h1 := has_n hb
  rw [← e] at h1
  cases h1
theorem equal_no2 {a b : Rect} (ha : hasR a = true) (hb : hasR b = false) : equalR a b = false := by
  unfold equalR
  rw [eqR_false, or_has' ha, or_hasn hb]
  intro e
  have h1 := has_n ha
  rw [e] at h1
  cases h1
theorem equal_yes {a b : Rect} (ha : hasR a = true) (hb : hasR b = true) : equalR a b = eqR a b := by unfold equalR; rw [or_has' ha, or_has' hb]

set_option maxRecDepth 100000 in
set_option maxHeartbeats 4000000 in
theorem rmeets_call (a b : Rect) (w : World) : Calls Try.prog 15 #[.agg #[.bool (a).n, .int .i64 (a).lx, .int .i64 (a).ly, .int .i64 (a).hx, .int .i64 (a).hy], .agg #[.bool (b).n, .int .i64 (b).lx, .int .i64 (b).ly, .int .i64 (b).hx, .int .i64 (b).hy]] w fun e w' => e = .returned (.bool (meetsR a b)) ∧ Below w.heap.size w w' := by
  have HA := rhas_call a
  have HB := rhas_call b
  have F := hid (show (fun W : World => C5 W (w.heap.size) a ∧ C5 W (w.heap.size + 1) b ∧ Below w.heap.size w W) ((w.alloc (.cells #[.bool (a).n, .int .i64 (a).lx, .int .i64 (a).ly, .int .i64 (a).hx, .int .i64 (a).hy] 25)).alloc (.cells #[.bool (b).n, .int .i64 (b).lx, .int .i64 (b).ly, .int .i64 (b).hx, .int .i64 (b).hy] 25)) from ⟨by exact C5.of (by repeat (first | (refine at_new ?_; first | with_reducible rfl | (simp only [World.size_alloc]; done)) | refine at_old ?_)), by exact C5.of (by repeat (first | (refine at_new ?_; first | with_reducible rfl | (simp only [World.size_alloc]; done)) | refine at_old ?_)), (by repeat (first | with_reducible exact Below.refl _ _ | with_reducible assumption | with_reducible refine Below.drew ?_ | with_reducible refine below_drewN ?_ _ | with_reducible refine Below.alloc ?_ (by simp <;> omega) _ | with_reducible refine Below.setCell ?_ (by simp <;> omega) _))⟩)
  obtain ⟨y0_0, y0_1, y0_2, y0_3, y0_4⟩ := F.out.1
  obtain ⟨y1_0, y1_1, y1_2, y1_3, y1_4⟩ := F.out.2.1
  have hlow := F.out.2.2
  cases ha : hasR a with
  | false =>
    cases hb : hasR b with
    | false =>
      rw [meets_no1 ha]
      rw [ha] at HA
      rw [hb] at HB
      clear ha hb
      have H0 := hid HA
      clear HA HB
      go_enter Try.func15, Try.ntmps15
      go_wp2_with (first | (go_at_call 46; refine (H0.out _).mono ?_; rintro e w6 ⟨rfl, h6⟩; clear y0_0 y0_1 y0_2 y0_3 y0_4 y1_0 y1_1 y1_2 y1_3 y1_4 hlow; have F := hid (show (fun W : World => C5 W (w.heap.size) a ∧ C5 W (w.heap.size + 1) b ∧ Below w.heap.size w W) w6 from ⟨F.out.1.keep h6, F.out.2.1.keep h6, gt F.out.2.2 h6⟩); clear h6 H0; obtain ⟨y0_0, y0_1, y0_2, y0_3, y0_4⟩ := F.out.1; obtain ⟨y1_0, y1_1, y1_2, y1_3, y1_4⟩ := F.out.2.1; have hlow := F.out.2.2))
      go_ret
      exact ⟨rfl, (by repeat (first | with_reducible exact Below.refl _ _ | with_reducible assumption | with_reducible refine Below.drew ?_ | with_reducible refine below_drewN ?_ _ | with_reducible refine Below.alloc ?_ (by simp <;> omega) _ | with_reducible refine Below.setCell ?_ (by simp <;> omega) _))⟩
    | true =>
      rw [meets_no1 ha]
      rw [ha] at HA
      rw [hb] at HB
      clear ha hb
      have H0 := hid HA
      clear HA HB
      go_enter Try.func15, Try.ntmps15
      go_wp2_with (first | (go_at_call 46; refine (H0.out _).mono ?_; rintro e w6 ⟨rfl, h6⟩; clear y0_0 y0_1 y0_2 y0_3 y0_4 y1_0 y1_1 y1_2 y1_3 y1_4 hlow; have F := hid (show (fun W : World => C5 W (w.heap.size) a ∧ C5 W (w.heap.size + 1) b ∧ Below w.heap.size w W) w6 from ⟨F.out.1.keep h6, F.out.2.1.keep h6, gt F.out.2.2 h6⟩); clear h6 H0; obtain ⟨y0_0, y0_1, y0_2, y0_3, y0_4⟩ := F.out.1; obtain ⟨y1_0, y1_1, y1_2, y1_3, y1_4⟩ := F.out.2.1; have hlow := F.out.2.2))
      go_ret
      exact ⟨rfl, (by repeat (first | with_reducible exact Below.refl _ _ | with_reducible assumption | with_reducible refine Below.drew ?_ | with_reducible refine below_drewN ?_ _ | with_reducible refine Below.alloc ?_ (by simp <;> omega) _ | with_reducible refine Below.setCell ?_ (by simp <;> omega) _))⟩
  | true =>
    cases hb : hasR b with
    | false =>
      rw [meets_no2 hb]
      rw [ha] at HA
      rw [hb] at HB
      clear ha hb
      have H0 := hid HA
      have H1 := hid HB
      clear HA HB
      go_enter Try.func15, Try.ntmps15
      go_wp2_with (first | (go_at_call 46; refine (H0.out _).mono ?_; rintro e w6 ⟨rfl, h6⟩; clear y0_0 y0_1 y0_2 y0_3 y0_4 y1_0 y1_1 y1_2 y1_3 y1_4 hlow; have F := hid (show (fun W : World => C5 W (w.heap.size) a ∧ C5 W (w.heap.size + 1) b ∧ Below w.heap.size w W) w6 from ⟨F.out.1.keep h6, F.out.2.1.keep h6, gt F.out.2.2 h6⟩); clear h6 H0; obtain ⟨y0_0, y0_1, y0_2, y0_3, y0_4⟩ := F.out.1; obtain ⟨y1_0, y1_1, y1_2, y1_3, y1_4⟩ := F.out.2.1; have hlow := F.out.2.2) | (go_at_call 46; refine (H1.out _).mono ?_; rintro e w6 ⟨rfl, h6⟩; clear y0_0 y0_1 y0_2 y0_3 y0_4 y1_0 y1_1 y1_2 y1_3 y1_4 hlow; have F := hid (show (fun W : World => C5 W (w.heap.size) a ∧ C5 W (w.heap.size + 1) b ∧ Below w.heap.size w W) w6 from ⟨F.out.1.keep h6, F.out.2.1.keep h6, gt F.out.2.2 h6⟩); clear h6 H1; obtain ⟨y0_0, y0_1, y0_2, y0_3, y0_4⟩ := F.out.1; obtain ⟨y1_0, y1_1, y1_2, y1_3, y1_4⟩ := F.out.2.1; have hlow := F.out.2.2))
      go_ret
      exact ⟨rfl, (by repeat (first | with_reducible exact Below.refl _ _ | with_reducible assumption | with_reducible refine Below.drew ?_ | with_reducible refine below_drewN ?_ _ | with_reducible refine Below.alloc ?_ (by simp <;> omega) _ | with_reducible refine Below.setCell ?_ (by simp <;> omega) _))⟩
    | true =>
      rw [meets_yes ha hb]
      rw [ha] at HA
      rw [hb] at HB
      clear ha hb
      by_cases c0 : a.lx ≤ b.hx
      · by_cases c1 : b.lx ≤ a.hx
        · by_cases c2 : a.ly ≤ b.hy
          · rw [decide_eq_true c0, decide_eq_true c1, decide_eq_true c2, Bool.true_and]
            have H0 := hid HA
            have H1 := hid HB
            clear HA HB
            go_enter Try.func15, Try.ntmps15
            go_wp2_with (first | (go_at_call 46; refine (H0.out _).mono ?_; rintro e w6 ⟨rfl, h6⟩; clear y0_0 y0_1 y0_2 y0_3 y0_4 y1_0 y1_1 y1_2 y1_3 y1_4 hlow; have F := hid (show (fun W : World => C5 W (w.heap.size) a ∧ C5 W (w.heap.size + 1) b ∧ Below w.heap.size w W) w6 from ⟨F.out.1.keep h6, F.out.2.1.keep h6, gt F.out.2.2 h6⟩); clear h6 H0; obtain ⟨y0_0, y0_1, y0_2, y0_3, y0_4⟩ := F.out.1; obtain ⟨y1_0, y1_1, y1_2, y1_3, y1_4⟩ := F.out.2.1; have hlow := F.out.2.2) | (go_at_call 46; refine (H1.out _).mono ?_; rintro e w6 ⟨rfl, h6⟩; clear y0_0 y0_1 y0_2 y0_3 y0_4 y1_0 y1_1 y1_2 y1_3 y1_4 hlow; have F := hid (show (fun W : World => C5 W (w.heap.size) a ∧ C5 W (w.heap.size + 1) b ∧ Below w.heap.size w W) w6 from ⟨F.out.1.keep h6, F.out.2.1.keep h6, gt F.out.2.2 h6⟩); clear h6 H1; obtain ⟨y0_0, y0_1, y0_2, y0_3, y0_4⟩ := F.out.1; obtain ⟨y1_0, y1_1, y1_2, y1_3, y1_4⟩ := F.out.2.1; have hlow := F.out.2.2))
            go_ret
            exact ⟨rfl, (by repeat (first | with_reducible exact Below.refl _ _ | with_reducible assumption | with_reducible refine Below.drew ?_ | with_reducible refine below_drewN ?_ _ | with_reducible refine Below.alloc ?_ (by simp <;> omega) _ | with_reducible refine Below.setCell ?_ (by simp <;> omega) _))⟩
          · rw [decide_eq_false c2]
            simp only [Bool.and_false, Bool.false_and]
            have H0 := hid HA
            have H1 := hid HB
            clear HA HB
            go_enter Try.func15, Try.ntmps15
            go_wp2_with (first | (go_at_call 46; refine (H0.out _).mono ?_; rintro e w6 ⟨rfl, h6⟩; clear y0_0 y0_1 y0_2 y0_3 y0_4 y1_0 y1_1 y1_2 y1_3 y1_4 hlow; have F := hid (show (fun W : World => C5 W (w.heap.size) a ∧ C5 W (w.heap.size + 1) b ∧ Below w.heap.size w W) w6 from ⟨F.out.1.keep h6, F.out.2.1.keep h6, gt F.out.2.2 h6⟩); clear h6 H0; obtain ⟨y0_0, y0_1, y0_2, y0_3, y0_4⟩ := F.out.1; obtain ⟨y1_0, y1_1, y1_2, y1_3, y1_4⟩ := F.out.2.1; have hlow := F.out.2.2) | (go_at_call 46; refine (H1.out _).mono ?_; rintro e w6 ⟨rfl, h6⟩; clear y0_0 y0_1 y0_2 y0_3 y0_4 y1_0 y1_1 y1_2 y1_3 y1_4 hlow; have F := hid (show (fun W : World => C5 W (w.heap.size) a ∧ C5 W (w.heap.size + 1) b ∧ Below w.heap.size w W) w6 from ⟨F.out.1.keep h6, F.out.2.1.keep h6, gt F.out.2.2 h6⟩); clear h6 H1; obtain ⟨y0_0, y0_1, y0_2, y0_3, y0_4⟩ := F.out.1; obtain ⟨y1_0, y1_1, y1_2, y1_3, y1_4⟩ := F.out.2.1; have hlow := F.out.2.2))
            go_ret
            exact ⟨rfl, (by repeat (first | with_reducible exact Below.refl _ _ | with_reducible assumption | with_reducible refine Below.drew ?_ | with_reducible refine below_drewN ?_ _ | with_reducible refine Below.alloc ?_ (by simp <;> omega) _ | with_reducible refine Below.setCell ?_ (by simp <;> omega) _))⟩
        · rw [decide_eq_false c1]
          simp only [Bool.and_false, Bool.false_and]
          have H0 := hid HA
          have H1 := hid HB
          clear HA HB
          go_enter Try.func15, Try.ntmps15
          go_wp2_with (first | (go_at_call 46; refine (H0.out _).mono ?_; rintro e w6 ⟨rfl, h6⟩; clear y0_0 y0_1 y0_2 y0_3 y0_4 y1_0 y1_1 y1_2 y1_3 y1_4 hlow; have F := hid (show (fun W : World => C5 W (w.heap.size) a ∧ C5 W (w.heap.size + 1) b ∧ Below w.heap.size w W) w6 from ⟨F.out.1.keep h6, F.out.2.1.keep h6, gt F.out.2.2 h6⟩); clear h6 H0; obtain ⟨y0_0, y0_1, y0_2, y0_3, y0_4⟩ := F.out.1; obtain ⟨y1_0, y1_1, y1_2, y1_3, y1_4⟩ := F.out.2.1; have hlow := F.out.2.2) | (go_at_call 46; refine (H1.out _).mono ?_; rintro e w6 ⟨rfl, h6⟩; clear y0_0 y0_1 y0_2 y0_3 y0_4 y1_0 y1_1 y1_2 y1_3 y1_4 hlow; have F := hid (show (fun W : World => C5 W (w.heap.size) a ∧ C5 W (w.heap.size + 1) b ∧ Below w.heap.size w W) w6 from ⟨F.out.1.keep h6, F.out.2.1.keep h6, gt F.out.2.2 h6⟩); clear h6 H1; obtain ⟨y0_0, y0_1, y0_2, y0_3, y0_4⟩ := F.out.1; obtain ⟨y1_0, y1_1, y1_2, y1_3, y1_4⟩ := F.out.2.1; have hlow := F.out.2.2))
          go_ret
          exact ⟨rfl, (by repeat (first | with_reducible exact Below.refl _ _ | with_reducible assumption | with_reducible refine Below.drew ?_ | with_reducible refine below_drewN ?_ _ | with_reducible refine Below.alloc ?_ (by simp <;> omega) _ | with_reducible refine Below.setCell ?_ (by simp <;> omega) _))⟩
      · rw [decide_eq_false c0]
        simp only [Bool.false_and]
        have H0 := hid HA
        have H1 := hid HB
        clear HA HB
        go_enter Try.func15, Try.ntmps15
        go_wp2_with (first | (go_at_call 46; refine (H0.out _).mono ?_; rintro e w6 ⟨rfl, h6⟩; clear y0_0 y0_1 y0_2 y0_3 y0_4 y1_0 y1_1 y1_2 y1_3 y1_4 hlow; have F := hid (show (fun W : World => C5 W (w.heap.size) a ∧ C5 W (w.heap.size + 1) b ∧ Below w.heap.size w W) w6 from ⟨F.out.1.keep h6, F.out.2.1.keep h6, gt F.out.2.2 h6⟩); clear h6 H0; obtain ⟨y0_0, y0_1, y0_2, y0_3, y0_4⟩ := F.out.1; obtain ⟨y1_0, y1_1, y1_2, y1_3, y1_4⟩ := F.out.2.1; have hlow := F.out.2.2) | (go_at_call 46; refine (H1.out _).mono ?_; rintro e w6 ⟨rfl, h6⟩; clear y0_0 y0_1 y0_2 y0_3 y0_4 y1_0 y1_1 y1_2 y1_3 y1_4 hlow; have F := hid (show (fun W : World => C5 W (w.heap.size) a ∧ C5 W (w.heap.size + 1) b ∧ Below w.heap.size w W) w6 from ⟨F.out.1.keep h6, F.out.2.1.keep h6, gt F.out.2.2 h6⟩); clear h6 H1; obtain ⟨y0_0, y0_1, y0_2, y0_3, y0_4⟩ := F.out.1; obtain ⟨y1_0, y1_1, y1_2, y1_3, y1_4⟩ := F.out.2.1; have hlow := F.out.2.2))
        go_ret
        exact ⟨rfl, (by repeat (first | with_reducible exact Below.refl _ _ | with_reducible assumption | with_reducible refine Below.drew ?_ | with_reducible refine below_drewN ?_ _ | with_reducible refine Below.alloc ?_ (by simp <;> omega) _ | with_reducible refine Below.setCell ?_ (by simp <;> omega) _))⟩
set_option maxRecDepth 100000 in
set_option maxHeartbeats 4000000 in
theorem rholds_call (a b : Rect) (w : World) : Calls Try.prog 17 #[.agg #[.bool (a).n, .int .i64 (a).lx, .int .i64 (a).ly, .int .i64 (a).hx, .int .i64 (a).hy], .agg #[.bool (b).n, .int .i64 (b).lx, .int .i64 (b).ly, .int .i64 (b).hx, .int .i64 (b).hy]] w fun e w' => e = .returned (.bool (holdsR a b)) ∧ Below w.heap.size w w' := by
  have HA := rhas_call a
  have HB := rhas_call b
  have F := hid (show (fun W : World => C5 W (w.heap.size) a ∧ C5 W (w.heap.size + 1) b ∧ Below w.heap.size w W) ((w.alloc (.cells #[.bool (a).n, .int .i64 (a).lx, .int .i64 (a).ly, .int .i64 (a).hx, .int .i64 (a).hy] 25)).alloc (.cells #[.bool (b).n, .int .i64 (b).lx, .int .i64 (b).ly, .int .i64 (b).hx, .int .i64 (b).hy] 25)) from ⟨by exact C5.of (by repeat (first | (refine at_new ?_; first | with_reducible rfl | (simp only [World.size_alloc]; done)) | refine at_old ?_)), by exact C5.of (by repeat (first | (refine at_new ?_; first | with_reducible rfl | (simp only [World.size_alloc]; done)) | refine at_old ?_)), (by repeat (first | with_reducible exact Below.refl _ _ | with_reducible assumption | with_reducible refine Below.drew ?_ | with_reducible refine below_drewN ?_ _ | with_reducible refine Below.alloc ?_ (by simp <;> omega) _ | with_reducible refine Below.setCell ?_ (by simp <;> omega) _))⟩)
  obtain ⟨y0_0, y0_1, y0_2, y0_3, y0_4⟩ := F.out.1
  obtain ⟨y1_0, y1_1, y1_2, y1_3, y1_4⟩ := F.out.2.1
  have hlow := F.out.2.2
  cases ha : hasR a with
  | false =>
    cases hb : hasR b with
    | false =>
      rw [holds_no2 hb]
      rw [ha] at HA
      rw [hb] at HB
      clear ha hb
      have H0 := hid HB
      clear HA HB
      go_enter Try.func17, Try.ntmps17
      go_wp2_with (first | (go_at_call 46; refine (H0.out _).mono ?_; rintro e w6 ⟨rfl, h6⟩; clear y0_0 y0_1 y0_2 y0_3 y0_4 y1_0 y1_1 y1_2 y1_3 y1_4 hlow; have F := hid (show (fun W : World => C5 W (w.heap.size) a ∧ C5 W (w.heap.size + 1) b ∧ Below w.heap.size w W) w6 from ⟨F.out.1.keep h6, F.out.2.1.keep h6, gt F.out.2.2 h6⟩); clear h6 H0; obtain ⟨y0_0, y0_1, y0_2, y0_3, y0_4⟩ := F.out.1; obtain ⟨y1_0, y1_1, y1_2, y1_3, y1_4⟩ := F.out.2.1; have hlow := F.out.2.2))
      go_ret
      exact ⟨rfl, (by repeat (first | with_reducible exact Below.refl _ _ | with_reducible assumption | with_reducible refine Below.drew ?_ | with_reducible refine below_drewN ?_ _ | with_reducible refine Below.alloc ?_ (by simp <;> omega) _ | with_reducible refine Below.setCell ?_ (by simp <;> omega) _))⟩
    | true =>
      rw [holds_no1 ha hb]
      rw [ha] at HA
      rw [hb] at HB
      clear ha hb
      have H0 := hid HB
      have H1 := hid HA
      clear HA HB
      go_enter Try.func17, Try.ntmps17
      go_wp2_with (first | (go_at_call 46; refine (H0.out _).mono ?_; rintro e w6 ⟨rfl, h6⟩; clear y0_0 y0_1 y0_2 y0_3 y0_4 y1_0 y1_1 y1_2 y1_3 y1_4 hlow; have F := hid (show (fun W : World => C5 W (w.heap.size) a ∧ C5 W (w.heap.size + 1) b ∧ Below w.heap.size w W) w6 from ⟨F.out.1.keep h6, F.out.2.1.keep h6, gt F.out.2.2 h6⟩); clear h6 H0; obtain ⟨y0_0, y0_1, y0_2, y0_3, y0_4⟩ := F.out.1; obtain ⟨y1_0, y1_1, y1_2, y1_3, y1_4⟩ := F.out.2.1; have hlow := F.out.2.2) | (go_at_call 46; refine (H1.out _).mono ?_; rintro e w6 ⟨rfl, h6⟩; clear y0_0 y0_1 y0_2 y0_3 y0_4 y1_0 y1_1 y1_2 y1_3 y1_4 hlow; have F := hid (show (fun W : World => C5 W (w.heap.size) a ∧ C5 W (w.heap.size + 1) b ∧ Below w.heap.size w W) w6 from ⟨F.out.1.keep h6, F.out.2.1.keep h6, gt F.out.2.2 h6⟩); clear h6 H1; obtain ⟨y0_0, y0_1, y0_2, y0_3, y0_4⟩ := F.out.1; obtain ⟨y1_0, y1_1, y1_2, y1_3, y1_4⟩ := F.out.2.1; have hlow := F.out.2.2))
      go_ret
      exact ⟨rfl, (by repeat (first | with_reducible exact Below.refl _ _ | with_reducible assumption | with_reducible refine Below.drew ?_ | with_reducible refine below_drewN ?_ _ | with_reducible refine Below.alloc ?_ (by simp <;> omega) _ | with_reducible refine Below.setCell ?_ (by simp <;> omega) _))⟩
  | true =>
    cases hb : hasR b with
    | false =>
      rw [holds_no2 hb]
      rw [ha] at HA
      rw [hb] at HB
      clear ha hb
      have H0 := hid HB
      clear HA HB
      go_enter Try.func17, Try.ntmps17
      go_wp2_with (first | (go_at_call 46; refine (H0.out _).mono ?_; rintro e w6 ⟨rfl, h6⟩; clear y0_0 y0_1 y0_2 y0_3 y0_4 y1_0 y1_1 y1_2 y1_3 y1_4 hlow; have F := hid (show (fun W : World => C5 W (w.heap.size) a ∧ C5 W (w.heap.size + 1) b ∧ Below w.heap.size w W) w6 from ⟨F.out.1.keep h6, F.out.2.1.keep h6, gt F.out.2.2 h6⟩); clear h6 H0; obtain ⟨y0_0, y0_1, y0_2, y0_3, y0_4⟩ := F.out.1; obtain ⟨y1_0, y1_1, y1_2, y1_3, y1_4⟩ := F.out.2.1; have hlow := F.out.2.2))
      go_ret
      exact ⟨rfl, (by repeat (first | with_reducible exact Below.refl _ _ | with_reducible assumption | with_reducible refine Below.drew ?_ | with_reducible refine below_drewN ?_ _ | with_reducible refine Below.alloc ?_ (by simp <;> omega) _ | with_reducible refine Below.setCell ?_ (by simp <;> omega) _))⟩
    | true =>
      rw [holds_yes ha hb]
      rw [ha] at HA
      rw [hb] at HB
      clear ha hb
      by_cases c0 : a.lx ≤ b.lx
      · by_cases c1 : b.hx ≤ a.hx
        · by_cases c2 : a.ly ≤ b.ly
          · rw [decide_eq_true c0, decide_eq_true c1, decide_eq_true c2, Bool.true_and]
            have H0 := hid HB
            have H1 := hid HA
            clear HA HB
            go_enter Try.func17, Try.ntmps17
            go_wp2_with (first | (go_at_call 46; refine (H0.out _).mono ?_; rintro e w6 ⟨rfl, h6⟩; clear y0_0 y0_1 y0_2 y0_3 y0_4 y1_0 y1_1 y1_2 y1_3 y1_4 hlow; have F := hid (show (fun W : World => C5 W (w.heap.size) a ∧ C5 W (w.heap.size + 1) b ∧ Below w.heap.size w W) w6 from ⟨F.out.1.keep h6, F.out.2.1.keep h6, gt F.out.2.2 h6⟩); clear h6 H0; obtain ⟨y0_0, y0_1, y0_2, y0_3, y0_4⟩ := F.out.1; obtain ⟨y1_0, y1_1, y1_2, y1_3, y1_4⟩ := F.out.2.1; have hlow := F.out.2.2) | (go_at_call 46; refine (H1.out _).mono ?_; rintro e w6 ⟨rfl, h6⟩; clear y0_0 y0_1 y0_2 y0_3 y0_4 y1_0 y1_1 y1_2 y1_3 y1_4 hlow; have F := hid (show (fun W : World => C5 W (w.heap.size) a ∧ C5 W (w.heap.size + 1) b ∧ Below w.heap.size w W) w6 from ⟨F.out.1.keep h6, F.out.2.1.keep h6, gt F.out.2.2 h6⟩); clear h6 H1; obtain ⟨y0_0, y0_1, y0_2, y0_3, y0_4⟩ := F.out.1; obtain ⟨y1_0, y1_1, y1_2, y1_3, y1_4⟩ := F.out.2.1; have hlow := F.out.2.2))
            go_ret
            exact ⟨rfl, (by repeat (first | with_reducible exact Below.refl _ _ | with_reducible assumption | with_reducible refine Below.drew ?_ | with_reducible refine below_drewN ?_ _ | with_reducible refine Below.alloc ?_ (by simp <;> omega) _ | with_reducible refine Below.setCell ?_ (by simp <;> omega) _))⟩
          · rw [decide_eq_false c2]
            simp only [Bool.and_false, Bool.false_and]
            have H0 := hid HB
            have H1 := hid HA
            clear HA HB
            go_enter Try.func17, Try.ntmps17
            go_wp2_with (first | (go_at_call 46; refine (H0.out _).mono ?_; rintro e w6 ⟨rfl, h6⟩; clear y0_0 y0_1 y0_2 y0_3 y0_4 y1_0 y1_1 y1_2 y1_3 y1_4 hlow; have F := hid (show (fun W : World => C5 W (w.heap.size) a ∧ C5 W (w.heap.size + 1) b ∧ Below w.heap.size w W) w6 from ⟨F.out.1.keep h6, F.out.2.1.keep h6, gt F.out.2.2 h6⟩); clear h6 H0; obtain ⟨y0_0, y0_1, y0_2, y0_3, y0_4⟩ := F.out.1; obtain ⟨y1_0, y1_1, y1_2, y1_3, y1_4⟩ := F.out.2.1; have hlow := F.out.2.2) | (go_at_call 46; refine (H1.out _).mono ?_; rintro e w6 ⟨rfl, h6⟩; clear y0_0 y0_1 y0_2 y0_3 y0_4 y1_0 y1_1 y1_2 y1_3 y1_4 hlow; have F := hid (show (fun W : World => C5 W (w.heap.size) a ∧ C5 W (w.heap.size + 1) b ∧ Below w.heap.size w W) w6 from ⟨F.out.1.keep h6, F.out.2.1.keep h6, gt F.out.2.2 h6⟩); clear h6 H1; obtain ⟨y0_0, y0_1, y0_2, y0_3, y0_4⟩ := F.out.1; obtain ⟨y1_0, y1_1, y1_2, y1_3, y1_4⟩ := F.out.2.1; have hlow := F.out.2.2))
            go_ret
            exact ⟨rfl, (by repeat (first | with_reducible exact Below.refl _ _ | with_reducible assumption | with_reducible refine Below.drew ?_ | with_reducible refine below_drewN ?_ _ | with_reducible refine Below.alloc ?_ (by simp <;> omega) _ | with_reducible refine Below.setCell ?_ (by simp <;> omega) _))⟩
        · rw [decide_eq_false c1]
          simp only [Bool.and_false, Bool.false_and]
          have H0 := hid HB
          have H1 := hid HA
          clear HA HB
          go_enter Try.func17, Try.ntmps17
          go_wp2_with (first | (go_at_call 46; refine (H0.out _).mono ?_; rintro e w6 ⟨rfl, h6⟩; clear y0_0 y0_1 y0_2 y0_3 y0_4 y1_0 y1_1 y1_2 y1_3 y1_4 hlow; have F := hid (show (fun W : World => C5 W (w.heap.size) a ∧ C5 W (w.heap.size + 1) b ∧ Below w.heap.size w W) w6 from ⟨F.out.1.keep h6, F.out.2.1.keep h6, gt F.out.2.2 h6⟩); clear h6 H0; obtain ⟨y0_0, y0_1, y0_2, y0_3, y0_4⟩ := F.out.1; obtain ⟨y1_0, y1_1, y1_2, y1_3, y1_4⟩ := F.out.2.1; have hlow := F.out.2.2) | (go_at_call 46; refine (H1.out _).mono ?_; rintro e w6 ⟨rfl, h6⟩; clear y0_0 y0_1 y0_2 y0_3 y0_4 y1_0 y1_1 y1_2 y1_3 y1_4 hlow; have F := hid (show (fun W : World => C5 W (w.heap.size) a ∧ C5 W (w.heap.size + 1) b ∧ Below w.heap.size w W) w6 from ⟨F.out.1.keep h6, F.out.2.1.keep h6, gt F.out.2.2 h6⟩); clear h6 H1; obtain ⟨y0_0, y0_1, y0_2, y0_3, y0_4⟩ := F.out.1; obtain ⟨y1_0, y1_1, y1_2, y1_3, y1_4⟩ := F.out.2.1; have hlow := F.out.2.2))
          go_ret
          exact ⟨rfl, (by repeat (first | with_reducible exact Below.refl _ _ | with_reducible assumption | with_reducible refine Below.drew ?_ | with_reducible refine below_drewN ?_ _ | with_reducible refine Below.alloc ?_ (by simp <;> omega) _ | with_reducible refine Below.setCell ?_ (by simp <;> omega) _))⟩
      · rw [decide_eq_false c0]
        simp only [Bool.false_and]
        have H0 := hid HB
        have H1 := hid HA
        clear HA HB
        go_enter Try.func17, Try.ntmps17
        go_wp2_with (first | (go_at_call 46; refine (H0.out _).mono ?_; rintro e w6 ⟨rfl, h6⟩; clear y0_0 y0_1 y0_2 y0_3 y0_4 y1_0 y1_1 y1_2 y1_3 y1_4 hlow; have F := hid (show (fun W : World => C5 W (w.heap.size) a ∧ C5 W (w.heap.size + 1) b ∧ Below w.heap.size w W) w6 from ⟨F.out.1.keep h6, F.out.2.1.keep h6, gt F.out.2.2 h6⟩); clear h6 H0; obtain ⟨y0_0, y0_1, y0_2, y0_3, y0_4⟩ := F.out.1; obtain ⟨y1_0, y1_1, y1_2, y1_3, y1_4⟩ := F.out.2.1; have hlow := F.out.2.2) | (go_at_call 46; refine (H1.out _).mono ?_; rintro e w6 ⟨rfl, h6⟩; clear y0_0 y0_1 y0_2 y0_3 y0_4 y1_0 y1_1 y1_2 y1_3 y1_4 hlow; have F := hid (show (fun W : World => C5 W (w.heap.size) a ∧ C5 W (w.heap.size + 1) b ∧ Below w.heap.size w W) w6 from ⟨F.out.1.keep h6, F.out.2.1.keep h6, gt F.out.2.2 h6⟩); clear h6 H1; obtain ⟨y0_0, y0_1, y0_2, y0_3, y0_4⟩ := F.out.1; obtain ⟨y1_0, y1_1, y1_2, y1_3, y1_4⟩ := F.out.2.1; have hlow := F.out.2.2))
        go_ret
        exact ⟨rfl, (by repeat (first | with_reducible exact Below.refl _ _ | with_reducible assumption | with_reducible refine Below.drew ?_ | with_reducible refine below_drewN ?_ _ | with_reducible refine Below.alloc ?_ (by simp <;> omega) _ | with_reducible refine Below.setCell ?_ (by simp <;> omega) _))⟩
set_option maxRecDepth 100000 in
set_option maxHeartbeats 4000000 in
theorem requal_call (a b : Rect) (w : World) : Calls Try.prog 19 #[.agg #[.bool (a).n, .int .i64 (a).lx, .int .i64 (a).ly, .int .i64 (a).hx, .int .i64 (a).hy], .agg #[.bool (b).n, .int .i64 (b).lx, .int .i64 (b).ly, .int .i64 (b).hx, .int .i64 (b).hy]] w fun e w' => e = .returned (.bool (equalR a b)) ∧ Below w.heap.size w w' := by
  have HA := rhas_call a
  have HB := rhas_call b
  have F := hid (show (fun W : World => C5 W (w.heap.size) a ∧ C5 W (w.heap.size + 1) b ∧ Below w.heap.size w W) ((w.alloc (.cells #[.bool (a).n, .int .i64 (a).lx, .int .i64 (a).ly, .int .i64 (a).hx, .int .i64 (a).hy] 25)).alloc (.cells #[.bool (b).n, .int .i64 (b).lx, .int .i64 (b).ly, .int .i64 (b).hx, .int .i64 (b).hy] 25)) from ⟨by exact C5.of (by repeat (first | (refine at_new ?_; first | with_reducible rfl | (simp only [World.size_alloc]; done)) | refine at_old ?_)), by exact C5.of (by repeat (first | (refine at_new ?_; first | with_reducible rfl | (simp only [World.size_alloc]; done)) | refine at_old ?_)), (by repeat (first | with_reducible exact Below.refl _ _ | with_reducible assumption | with_reducible refine Below.drew ?_ | with_reducible refine below_drewN ?_ _ | with_reducible refine Below.alloc ?_ (by simp <;> omega) _ | with_reducible refine Below.setCell ?_ (by simp <;> omega) _))⟩)
  obtain ⟨y0_0, y0_1, y0_2, y0_3, y0_4⟩ := F.out.1
  obtain ⟨y1_0, y1_1, y1_2, y1_3, y1_4⟩ := F.out.2.1
  have hlow := F.out.2.2
  cases ha : hasR a with
  | false =>
    cases hb : hasR b with
    | false =>
      rw [equal_no ha hb]
      rw [ha] at HA
      rw [hb] at HB
      clear ha hb
      have H0 := hid HA
      have H1 := hid HB
      clear HA HB
      go_enter Try.func19, Try.ntmps19
      go_wp2_with (first | (go_at_call 46; refine (H0.out _).mono ?_; rintro e w6 ⟨rfl, h6⟩; clear y0_0 y0_1 y0_2 y0_3 y0_4 y1_0 y1_1 y1_2 y1_3 y1_4 hlow; have F := hid (show (fun W : World => C5 W (w.heap.size) a ∧ C5 W (w.heap.size + 1) b ∧ Below w.heap.size w W) w6 from ⟨F.out.1.keep h6, F.out.2.1.keep h6, gt F.out.2.2 h6⟩); clear h6 H0; obtain ⟨y0_0, y0_1, y0_2, y0_3, y0_4⟩ := F.out.1; obtain ⟨y1_0, y1_1, y1_2, y1_3, y1_4⟩ := F.out.2.1; have hlow := F.out.2.2) | (go_at_call 46; refine (H1.out _).mono ?_; rintro e w6 ⟨rfl, h6⟩; clear y0_0 y0_1 y0_2 y0_3 y0_4 y1_0 y1_1 y1_2 y1_3 y1_4 hlow; have F := hid (show (fun W : World => C5 W (w.heap.size) a ∧ C5 W (w.heap.size + 1) b ∧ Below w.heap.size w W) w6 from ⟨F.out.1.keep h6, F.out.2.1.keep h6, gt F.out.2.2 h6⟩); clear h6 H1; obtain ⟨y0_0, y0_1, y0_2, y0_3, y0_4⟩ := F.out.1; obtain ⟨y1_0, y1_1, y1_2, y1_3, y1_4⟩ := F.out.2.1; have hlow := F.out.2.2))
      go_ret
      exact ⟨rfl, (by repeat (first | with_reducible exact Below.refl _ _ | with_reducible assumption | with_reducible refine Below.drew ?_ | with_reducible refine below_drewN ?_ _ | with_reducible refine Below.alloc ?_ (by simp <;> omega) _ | with_reducible refine Below.setCell ?_ (by simp <;> omega) _))⟩
    | true =>
      rw [equal_no1 ha hb]
      rw [ha] at HA
      rw [hb] at HB
      clear ha hb
      have H0 := hid HA
      have H1 := hid HB
      have H2 := hid HA
      clear HA HB
      go_enter Try.func19, Try.ntmps19
      go_wp2_with (first | (go_at_call 46; refine (H0.out _).mono ?_; rintro e w6 ⟨rfl, h6⟩; clear y0_0 y0_1 y0_2 y0_3 y0_4 y1_0 y1_1 y1_2 y1_3 y1_4 hlow; have F := hid (show (fun W : World => C5 W (w.heap.size) a ∧ C5 W (w.heap.size + 1) b ∧ Below w.heap.size w W) w6 from ⟨F.out.1.keep h6, F.out.2.1.keep h6, gt F.out.2.2 h6⟩); clear h6 H0; obtain ⟨y0_0, y0_1, y0_2, y0_3, y0_4⟩ := F.out.1; obtain ⟨y1_0, y1_1, y1_2, y1_3, y1_4⟩ := F.out.2.1; have hlow := F.out.2.2) | (go_at_call 46; refine (H1.out _).mono ?_; rintro e w6 ⟨rfl, h6⟩; clear y0_0 y0_1 y0_2 y0_3 y0_4 y1_0 y1_1 y1_2 y1_3 y1_4 hlow; have F := hid (show (fun W : World => C5 W (w.heap.size) a ∧ C5 W (w.heap.size + 1) b ∧ Below w.heap.size w W) w6 from ⟨F.out.1.keep h6, F.out.2.1.keep h6, gt F.out.2.2 h6⟩); clear h6 H1; obtain ⟨y0_0, y0_1, y0_2, y0_3, y0_4⟩ := F.out.1; obtain ⟨y1_0, y1_1, y1_2, y1_3, y1_4⟩ := F.out.2.1; have hlow := F.out.2.2) | (go_at_call 46; refine (H2.out _).mono ?_; rintro e w6 ⟨rfl, h6⟩; clear y0_0 y0_1 y0_2 y0_3 y0_4 y1_0 y1_1 y1_2 y1_3 y1_4 hlow; have F := hid (show (fun W : World => C5 W (w.heap.size) a ∧ C5 W (w.heap.size + 1) b ∧ Below w.heap.size w W) w6 from ⟨F.out.1.keep h6, F.out.2.1.keep h6, gt F.out.2.2 h6⟩); clear h6 H2; obtain ⟨y0_0, y0_1, y0_2, y0_3, y0_4⟩ := F.out.1; obtain ⟨y1_0, y1_1, y1_2, y1_3, y1_4⟩ := F.out.2.1; have hlow := F.out.2.2))
      go_ret
      exact ⟨rfl, (by repeat (first | with_reducible exact Below.refl _ _ | with_reducible assumption | with_reducible refine Below.drew ?_ | with_reducible refine below_drewN ?_ _ | with_reducible refine Below.alloc ?_ (by simp <;> omega) _ | with_reducible refine Below.setCell ?_ (by simp <;> omega) _))⟩
  | true =>
    cases hb : hasR b with
    | false =>
      rw [equal_no2 ha hb]
      rw [ha] at HA
      rw [hb] at HB
      clear ha hb
      have H0 := hid HA
      have H1 := hid HA
      have H2 := hid HB
      clear HA HB
      go_enter Try.func19, Try.ntmps19
      go_wp2_with (first | (go_at_call 46; refine (H0.out _).mono ?_; rintro e w6 ⟨rfl, h6⟩; clear y0_0 y0_1 y0_2 y0_3 y0_4 y1_0 y1_1 y1_2 y1_3 y1_4 hlow; have F := hid (show (fun W : World => C5 W (w.heap.size) a ∧ C5 W (w.heap.size + 1) b ∧ Below w.heap.size w W) w6 from ⟨F.out.1.keep h6, F.out.2.1.keep h6, gt F.out.2.2 h6⟩); clear h6 H0; obtain ⟨y0_0, y0_1, y0_2, y0_3, y0_4⟩ := F.out.1; obtain ⟨y1_0, y1_1, y1_2, y1_3, y1_4⟩ := F.out.2.1; have hlow := F.out.2.2) | (go_at_call 46; refine (H1.out _).mono ?_; rintro e w6 ⟨rfl, h6⟩; clear y0_0 y0_1 y0_2 y0_3 y0_4 y1_0 y1_1 y1_2 y1_3 y1_4 hlow; have F := hid (show (fun W : World => C5 W (w.heap.size) a ∧ C5 W (w.heap.size + 1) b ∧ Below w.heap.size w W) w6 from ⟨F.out.1.keep h6, F.out.2.1.keep h6, gt F.out.2.2 h6⟩); clear h6 H1; obtain ⟨y0_0, y0_1, y0_2, y0_3, y0_4⟩ := F.out.1; obtain ⟨y1_0, y1_1, y1_2, y1_3, y1_4⟩ := F.out.2.1; have hlow := F.out.2.2) | (go_at_call 46; refine (H2.out _).mono ?_; rintro e w6 ⟨rfl, h6⟩; clear y0_0 y0_1 y0_2 y0_3 y0_4 y1_0 y1_1 y1_2 y1_3 y1_4 hlow; have F := hid (show (fun W : World => C5 W (w.heap.size) a ∧ C5 W (w.heap.size + 1) b ∧ Below w.heap.size w W) w6 from ⟨F.out.1.keep h6, F.out.2.1.keep h6, gt F.out.2.2 h6⟩); clear h6 H2; obtain ⟨y0_0, y0_1, y0_2, y0_3, y0_4⟩ := F.out.1; obtain ⟨y1_0, y1_1, y1_2, y1_3, y1_4⟩ := F.out.2.1; have hlow := F.out.2.2))
      go_ret
      exact ⟨rfl, (by repeat (first | with_reducible exact Below.refl _ _ | with_reducible assumption | with_reducible refine Below.drew ?_ | with_reducible refine below_drewN ?_ _ | with_reducible refine Below.alloc ?_ (by simp <;> omega) _ | with_reducible refine Below.setCell ?_ (by simp <;> omega) _))⟩
    | true =>
      rw [equal_yes ha hb]
      rw [ha] at HA
      rw [hb] at HB
      clear ha hb
      have PE := box_eql a b
      generalize eqR a b = g at *
      have H0 := hid HA
      have H1 := hid HA
      have H2 := hid HB
      clear HA HB
      go_enter Try.func19, Try.ntmps19
      go_wp2_with (first | (go_at_call 46; refine (H0.out _).mono ?_; rintro e w6 ⟨rfl, h6⟩; clear y0_0 y0_1 y0_2 y0_3 y0_4 y1_0 y1_1 y1_2 y1_3 y1_4 hlow; have F := hid (show (fun W : World => C5 W (w.heap.size) a ∧ C5 W (w.heap.size + 1) b ∧ Below w.heap.size w W) w6 from ⟨F.out.1.keep h6, F.out.2.1.keep h6, gt F.out.2.2 h6⟩); clear h6 H0; obtain ⟨y0_0, y0_1, y0_2, y0_3, y0_4⟩ := F.out.1; obtain ⟨y1_0, y1_1, y1_2, y1_3, y1_4⟩ := F.out.2.1; have hlow := F.out.2.2) | (go_at_call 46; refine (H1.out _).mono ?_; rintro e w6 ⟨rfl, h6⟩; clear y0_0 y0_1 y0_2 y0_3 y0_4 y1_0 y1_1 y1_2 y1_3 y1_4 hlow; have F := hid (show (fun W : World => C5 W (w.heap.size) a ∧ C5 W (w.heap.size + 1) b ∧ Below w.heap.size w W) w6 from ⟨F.out.1.keep h6, F.out.2.1.keep h6, gt F.out.2.2 h6⟩); clear h6 H1; obtain ⟨y0_0, y0_1, y0_2, y0_3, y0_4⟩ := F.out.1; obtain ⟨y1_0, y1_1, y1_2, y1_3, y1_4⟩ := F.out.2.1; have hlow := F.out.2.2) | (go_at_call 46; refine (H2.out _).mono ?_; rintro e w6 ⟨rfl, h6⟩; clear y0_0 y0_1 y0_2 y0_3 y0_4 y1_0 y1_1 y1_2 y1_3 y1_4 hlow; have F := hid (show (fun W : World => C5 W (w.heap.size) a ∧ C5 W (w.heap.size + 1) b ∧ Below w.heap.size w W) w6 from ⟨F.out.1.keep h6, F.out.2.1.keep h6, gt F.out.2.2 h6⟩); clear h6 H2; obtain ⟨y0_0, y0_1, y0_2, y0_3, y0_4⟩ := F.out.1; obtain ⟨y1_0, y1_1, y1_2, y1_3, y1_4⟩ := F.out.2.1; have hlow := F.out.2.2))
      go_ret
      exact ⟨rfl, (by repeat (first | with_reducible exact Below.refl _ _ | with_reducible assumption | with_reducible refine Below.drew ?_ | with_reducible refine below_drewN ?_ _ | with_reducible refine Below.alloc ?_ (by simp <;> omega) _ | with_reducible refine Below.setCell ?_ (by simp <;> omega) _))⟩
end Go.Proofs.Ytjlahomjhadnkaa
namespace Go.Proofs.Ytjlahomjhadnkaa
open Go.RowKit Go.Maps Wid

/-- A number in three words, in a block of its own. -/
def R3 (W : World) (b n : Nat) : Prop := W.heap[b]? = some (.cells #[.int .u64 (W0 n), .int .u64 (W1 n), .int .u64 (W2 n)] 27)
theorem R3.c {W : World} {b n : Nat} (h : R3 W b n) : W.cell? ⟨b, 0, none⟩ = some (.int .u64 (W0 n)) ∧ W.cell? ⟨b, 1, none⟩ = some (.int .u64 (W1 n)) ∧ W.cell? ⟨b, 2, none⟩ = some (.int .u64 (W2 n)) := by
  unfold R3 at h
  refine ⟨?_, ?_, ?_⟩ <;> simp [World.cell?, h]
theorem R3.fz {W : World} {b n : Nat} (h : R3 W b n) (i : Nat) : W.frozen? ⟨b, i, none⟩ = false := by
  unfold R3 at h
  simp [World.frozen?, h]
theorem R3.lt {W : World} {b n : Nat} (h : R3 W b n) : b < W.heap.size := (Array.getElem?_eq_some_iff.1 h).1
theorem R3.keep {w w' : World} {b n : Nat} (h : R3 w b n) (k : Below w.heap.size w w') : R3 w' b n := (k.block b h.lt).trans h
theorem R3.set {W : World} {b n : Nat} (h : R3 W b n) (m : Nat) : R3 (((W.setCell ⟨b, 0, none⟩ (.int .u64 (W0 m))).setCell ⟨b, 1, none⟩ (.int .u64 (W1 m))).setCell ⟨b, 2, none⟩ (.int .u64 (W2 m))) b m := by
  have h0 := heap_setCell_same W b 0 _ 27 (.int .u64 (W0 m)) h
  have h1 := heap_setCell_same _ b 1 _ 27 (.int .u64 (W1 m)) h0
  have h2 := heap_setCell_same _ b 2 _ 27 (.int .u64 (W2 m)) h1
  unfold R3
  simpa using h2
theorem R3.far {W : World} {b c n : Nat} (h : R3 W c n) (hc : c ≠ b) (i : Nat) (v : Value) : R3 (W.setCell ⟨b, i, none⟩ v) c n := by
  unfold R3 at *
  rw [← h]
  exact heap_setCell_other _ _ _ _ hc
theorem R3.far3 {W : World} {b c n : Nat} (h : R3 W c n) (hc : c ≠ b) (u v x : Value) : R3 (((W.setCell ⟨b, 0, none⟩ u).setCell ⟨b, 1, none⟩ v).setCell ⟨b, 2, none⟩ x) c n := ((h.far hc _ _).far hc _ _).far hc _ _
theorem R3.far5 {W : World} {b c n : Nat} (h : R3 W c n) (hc : c ≠ b) (u v x y z : Value) : R3 (((((W.setCell ⟨b, 0, none⟩ u).setCell ⟨b, 1, none⟩ v).setCell ⟨b, 2, none⟩ x).setCell ⟨b, 3, none⟩ y).setCell ⟨b, 4, none⟩ z) c n := ((((h.far hc _ _).far hc _ _).far hc _ _).far hc _ _).far hc _ _
theorem R3.zero {W : World} {b : Nat} (h : W.heap[b]? = some (.cells #[.int .u64 0, .int .u64 0, .int .u64 0] 27)) : R3 W b 0 := h
theorem B5.far3' {W : World} {b c : Nat} {r : Rect} (h : B5 W c r) (hc : c ≠ b) (u v x : Value) : B5 (((W.setCell ⟨b, 0, none⟩ u).setCell ⟨b, 1, none⟩ v).setCell ⟨b, 2, none⟩ x) c r := h.far3 hc u v x
theorem area_no {r : Rect} (h : hasR r = false) : areaN r = 0 := by unfold areaN; rw [or_hasn h]; rfl
theorem area_yes {r : Rect} (h : hasR r = true) : areaN r = spanN r.lx r.hx * spanN r.ly r.hy := by unfold areaN; rw [or_has' h]
/-- Numbers are compared, in the document's form. -/
theorem rnum_eql (m n : Nat) (hm : m < 6277101735386680763835789423207666416102355444464034512896) (hn : n < 6277101735386680763835789423207666416102355444464034512896) (W : World) : (binOp .eql 27 (.agg #[.int .u64 (W0 (m)), .int .u64 (W1 (m)), .int .u64 (W2 (m))]) (.agg #[.int .u64 (W0 (n)), .int .u64 (W1 (n)), .int .u64 (W2 (n))])).run Try.prog W = .ok (.bool (decide (m = n))) W := by
  have h : ∀ W, (Op.equalIn 10000 27 (.agg #[.int .u64 (W0 (m)), .int .u64 (W1 (m)), .int .u64 (W2 (m))]) (.agg #[.int .u64 (W0 (n)), .int .u64 (W1 (n)), .int .u64 (W2 (n))])).run Try.prog W = .ok (decide (m = n)) W := by
    intro W
    rw [eqU 27 Try.underlying27]
    congr 1
    rw [Bool.eq_iff_iff]
    simp only [Bool.and_eq_true, beq_iff_eq, decide_eq_true_eq]
    exact ⟨fun ⟨⟨h1, h2⟩, h3⟩ => W_inj m n hm hn h1 h2 h3, fun h => by subst h; exact ⟨⟨rfl, rfl⟩, rfl⟩⟩
  rw [run_eql_struct, h]; rfl
set_option maxRecDepth 100000 in
set_option maxHeartbeats 1000000 in
theorem u_call (n : Nat) (w : World) : Calls Try.prog 20 #[.agg #[.int .u64 (W0 (n)), .int .u64 (W1 (n)), .int .u64 (W2 (n))]] w fun e w' => e = .returned (.agg #[.int .u64 (W0 (n)), .int .u64 (W1 (n)), .int .u64 (W2 (n))]) ∧ Below w.heap.size w w' := by
  go_enter Try.func20, Try.ntmps20
  go_wp2
  exact bodyPost_ret (v := .agg #[.int .u64 (W0 (n)), .int .u64 (W1 (n)), .int .u64 (W2 (n))]) (by simp [results, Try.results20, go_sem]) rfl ⟨rfl, (by repeat (first | with_reducible exact Below.refl _ _ | with_reducible assumption | with_reducible refine Below.drew ?_ | with_reducible refine below_drewN ?_ _ | with_reducible refine Below.alloc ?_ (by simp <;> omega) _ | with_reducible refine Below.setCell ?_ (by simp <;> omega) _))⟩
set_option maxRecDepth 100000 in
set_option maxHeartbeats 1000000 in
theorem rarea_call (r : Rect) (h : Bd r) (w : World) : Calls Try.prog 22 #[.agg #[.bool (r).n, .int .i64 (r).lx, .int .i64 (r).ly, .int .i64 (r).hx, .int .i64 (r).hy]] w fun e w' => e = .returned (.agg #[.int .u64 (W0 (areaN r)), .int .u64 (W1 (areaN r)), .int .u64 (W2 (areaN r))]) ∧ Below w.heap.size w w' := by
  have H0 := hid (rhas_call r)
  have F := hid (show (fun W : World => C5 W (w.heap.size) r ∧ R3 W (w.heap.size + 1) 0 ∧ Below w.heap.size w W) ((w.alloc (.cells #[.bool (r).n, .int .i64 (r).lx, .int .i64 (r).ly, .int .i64 (r).hx, .int .i64 (r).hy] 25)).alloc (.cells #[.int .u64 0, .int .u64 0, .int .u64 0] 27)) from ⟨C5.of (by repeat (first | (refine at_new ?_; first | with_reducible rfl | (simp only [World.size_alloc]; done)) | refine at_old ?_)), R3.zero (by repeat (first | (refine at_new ?_; first | with_reducible rfl | (simp only [World.size_alloc]; done)) | refine at_old ?_)), (by repeat (first | with_reducible exact Below.refl _ _ | with_reducible assumption | with_reducible refine Below.drew ?_ | with_reducible refine below_drewN ?_ _ | with_reducible refine Below.alloc ?_ (by simp <;> omega) _ | with_reducible refine Below.setCell ?_ (by simp <;> omega) _))⟩)
  obtain ⟨y0_0, y0_1, y0_2, y0_3, y0_4⟩ := F.out.1
  obtain ⟨y1_0, y1_1, y1_2⟩ := F.out.2.1.c
  have f1_0 := F.out.2.1.fz 0
  have f1_1 := F.out.2.1.fz 1
  have f1_2 := F.out.2.1.fz 2
  have hlow := F.out.2.2
  cases hr : hasR r with
  | false =>
    rw [area_no hr, W0_zero, W1_zero, W2_zero]
    rw [hr] at H0
    clear hr h
    go_enter Try.func22, Try.ntmps22
    go_wp2_with ((go_at_call 46; refine (H0.out _).mono ?_; rintro e w6 ⟨rfl, h6⟩; clear y0_0 y0_1 y0_2 y0_3 y0_4 y1_0 y1_1 y1_2 f1_0 f1_1 f1_2 hlow; have F := hid (show (fun W : World => C5 W (w.heap.size) r ∧ R3 W (w.heap.size + 1) 0 ∧ Below w.heap.size w W) w6 from ⟨F.out.1.keep h6, F.out.2.1.keep h6, gt F.out.2.2 h6⟩); clear h6 H0; obtain ⟨y0_0, y0_1, y0_2, y0_3, y0_4⟩ := F.out.1; obtain ⟨y1_0, y1_1, y1_2⟩ := F.out.2.1.c; have f1_0 := F.out.2.1.fz 0; have f1_1 := F.out.2.1.fz 1; have f1_2 := F.out.2.1.fz 2; have hlow := F.out.2.2))
    obtain ⟨z0, z1, z2⟩ := (F.out.2.1.set 0).c
    rw [W0_zero, W1_zero, W2_zero] at z0 z1 z2
    exact bodyPost_ret (v := .agg #[.int .u64 0, .int .u64 0, .int .u64 0]) (by simp [results, Try.results22, go_sem, z0, z1, z2]) rfl ⟨rfl, (by repeat (first | with_reducible exact Below.refl _ _ | with_reducible assumption | with_reducible refine Below.drew ?_ | with_reducible refine below_drewN ?_ _ | with_reducible refine Below.alloc ?_ (by simp <;> omega) _ | with_reducible refine Below.setCell ?_ (by simp <;> omega) _))⟩
  | true =>
    rw [area_yes hr]
    rw [hr] at H0
    obtain ⟨⟨c0, c1⟩, ⟨c2, c3⟩, ⟨c4, c5⟩, ⟨c6, c7⟩⟩ := h
    have SX := hid (fun W => rspan_any r.lx r.hx W c0 c1 c4 c5)
    have SY := hid (fun W => rspan_any r.ly r.hy W c2 c3 c6 c7)
    have TC := hid (rtimes_any (spanN r.lx r.hx) (spanN r.ly r.hy) (spanN_lt _ _ c0 c5) (spanN_lt _ _ c2 c7))
    clear c0 c1 c2 c3 c4 c5 c6 c7 hr
    generalize spanN r.lx r.hx = sx at *
    generalize spanN r.ly r.hy = sy at *
    go_enter Try.func22, Try.ntmps22
    go_wp2_with ((go_at_call 46; refine (H0.out _).mono ?_; rintro e w6 ⟨rfl, h6⟩; clear y0_0 y0_1 y0_2 y0_3 y0_4 y1_0 y1_1 y1_2 f1_0 f1_1 f1_2 hlow; have F := hid (show (fun W : World => C5 W (w.heap.size) r ∧ R3 W (w.heap.size + 1) 0 ∧ Below w.heap.size w W) w6 from ⟨F.out.1.keep h6, F.out.2.1.keep h6, gt F.out.2.2 h6⟩); clear h6 H0; obtain ⟨y0_0, y0_1, y0_2, y0_3, y0_4⟩ := F.out.1; obtain ⟨y1_0, y1_1, y1_2⟩ := F.out.2.1.c; have f1_0 := F.out.2.1.fz 0; have f1_1 := F.out.2.1.fz 1; have f1_2 := F.out.2.1.fz 2; have hlow := F.out.2.2))
    refine wp_region_K (S := (fun W : World => C5 W (w.heap.size) r ∧ R3 W (w.heap.size + 1) 0 ∧ Below w.heap.size w W)) (fun i => i == 15) (by kernel_rfl) (by exact ⟨F.out.1, F.out.2.1, (by repeat (first | with_reducible exact Below.refl _ _ | with_reducible assumption | with_reducible refine Below.drew ?_ | with_reducible refine below_drewN ?_ _ | with_reducible refine Below.alloc ?_ (by simp <;> omega) _ | with_reducible refine Below.setCell ?_ (by simp <;> omega) _))⟩) (fun hHeld => ?_)
    refine gkp 0 ?_
    refine gkp 1 ?_
    refine gkt 2 ?_ (h := by intro W hSw; obtain ⟨⟨y0, y1, y2, y3, y4⟩, _, _⟩ := hSw; go_simp; first | done | with_reducible rfl)
    refine gkp 3 ?_
    refine gkp 4 ?_
    refine gkt 5 ?_ (h := by intro W hSw; obtain ⟨⟨y0, y1, y2, y3, y4⟩, _, _⟩ := hSw; go_simp; first | done | with_reducible rfl)
    refine gkp 7 ?_
    refine gkp 8 ?_
    refine gkt 9 ?_ (h := by intro W hSw; obtain ⟨⟨y0, y1, y2, y3, y4⟩, _, _⟩ := hSw; go_simp; first | done | with_reducible rfl)
    refine gkp 10 ?_
    refine gkp 11 ?_
    refine gkt 12 ?_ (h := by intro W hSw; obtain ⟨⟨y0, y1, y2, y3, y4⟩, _, _⟩ := hSw; go_simp; first | done | with_reducible rfl)
    refine gk1 6 (fun K hK => ?_)
    go_simp
    go_at_call 52; refine (SX.out _).mono ?_; rintro e w7 ⟨rfl, h7⟩; subst h7; have hR := hHeld
    refine hK.out _ _ hR (fun hHeld => ?_)
    clear hK K
    (try simp only [Act.put, sA, sZ, sS])
    refine gk1 13 (fun K hK => ?_)
    go_simp
    go_at_call 52; refine (SY.out _).mono ?_; rintro e w7 ⟨rfl, h7⟩; subst h7; have hR := hHeld
    refine hK.out _ _ hR (fun hHeld => ?_)
    clear hK K
    (try simp only [Act.put, sA, sZ, sS])
    refine gk1 14 (fun K hK => ?_)
    go_simp
    go_at_call 51; refine (TC.out _).mono ?_; rintro e w6 ⟨rfl, h6⟩; have hR : (fun W : World => C5 W (w.heap.size) r ∧ R3 W (w.heap.size + 1) 0 ∧ Below w.heap.size w W) w6 := ⟨hHeld.1.keep h6, hHeld.2.1.keep h6, gt hHeld.2.2 h6⟩; have Z := hR.2.1; obtain ⟨u0, u1, u2⟩ := Z.c; have g0 := Z.fz 0; have g1 := Z.fz 1; have g2 := Z.fz 2; have hc := hR.2.2; clear h6
    refine hK.out _ _ hR (fun hHeld => ?_)
    clear hK K
    (try simp only [Act.put, sA, sZ, sS])
    refine gkl 15 (fun K hK => ?_)
    go_simp
    refine hK.out _ _ ?_
    clear hK K
    (try simp only [Act.put, sA, sZ, sS])
    refine wpAnyK_done (by kernel_rfl) ?_ _
    go_wp2
    obtain ⟨z0, z1, z2⟩ := (Z.set (sx * sy)).c
    exact bodyPost_ret (v := .agg #[.int .u64 (W0 (sx * sy)), .int .u64 (W1 (sx * sy)), .int .u64 (W2 (sx * sy))]) (by simp [results, Try.results22, go_sem, z0, z1, z2]) rfl ⟨rfl, (by repeat (first | with_reducible exact Below.refl _ _ | with_reducible assumption | with_reducible refine Below.drew ?_ | with_reducible refine below_drewN ?_ _ | with_reducible refine Below.alloc ?_ (by simp <;> omega) _ | with_reducible refine Below.setCell ?_ (by simp <;> omega) _))⟩
end Go.Proofs.Ytjlahomjhadnkaa
namespace Go.Proofs.Ytjlahomjhadnkaa
open Go.RowKit Go.Maps Wid

theorem rsub_le (m n : Nat) (hm : m < 6277101735386680763835789423207666416102355444464034512896) (hn : n < 6277101735386680763835789423207666416102355444464034512896) (w : World) (h : n ≤ m) :
    Calls Try.prog 41 #[.agg #[.int .u64 (W0 (m)), .int .u64 (W1 (m)), .int .u64 (W2 (m))], .agg #[.int .u64 (W0 (n)), .int .u64 (W1 (n)), .int .u64 (W2 (n))]] w fun e w' => e = .returned (.tuple #[.agg #[.int .u64 (W0 (m - n)), .int .u64 (W1 (m - n)), .int .u64 (W2 (m - n))], .bool true]) ∧ Below w.heap.size w w' :=
  rsub_v m n hm hn w _ (hid fun _ => rfl) (hid fun k => absurd h k)

set_option maxRecDepth 100000 in
set_option maxHeartbeats 8000000 in
theorem rgrowth_call (a b : Rect) (ha : Bd a) (hb : Bd b) (w : World) : Calls Try.prog 24 #[.agg #[.bool (a).n, .int .i64 (a).lx, .int .i64 (a).ly, .int .i64 (a).hx, .int .i64 (a).hy], .agg #[.bool (b).n, .int .i64 (b).lx, .int .i64 (b).ly, .int .i64 (b).hx, .int .i64 (b).hy]] w fun e w' => e = .returned (.agg #[.int .u64 (W0 (growN a b)), .int .u64 (W1 (growN a b)), .int .u64 (W2 (growN a b))]) ∧ Below w.heap.size w w' := by
  have UC := hid (runion_call a b)
  have AU := hid (rarea_call (uniR a b) (bd_uni ha hb))
  have AA := hid (rarea_call a ha)
  have SC := hid (fun W => rsub_le (areaN (uniR a b)) (areaN a) (u192 (area_lt (bd_uni ha hb))) (u192 (area_lt ha)) W (area_le a b))
  rw [show growN a b = areaN (uniR a b) - areaN a from rfl]
  generalize areaN (uniR a b) - areaN a = gg at *
  generalize areaN (uniR a b) = nu at *
  generalize areaN a = na at *
  generalize uniR a b = U at *
  clear ha hb
  go_enter Try.func24, Try.ntmps24
  go_wp2
  refine wp_region_K (S := (fun W : World => C5 W (w.heap.size) a ∧ C5 W (w.heap.size + 1) b ∧ R3 W (w.heap.size + 1 + 1) 0 ∧ Below w.heap.size w W)) (fun i => i == 11) (by kernel_rfl) (⟨by exact C5.of (by repeat (first | (refine at_new ?_; first | with_reducible rfl | (simp only [World.size_alloc]; done)) | refine at_old ?_)), by exact C5.of (by repeat (first | (refine at_new ?_; first | with_reducible rfl | (simp only [World.size_alloc]; done)) | refine at_old ?_)), by exact R3.zero (by repeat (first | (refine at_new ?_; first | with_reducible rfl | (simp only [World.size_alloc]; done)) | refine at_old ?_)), (by repeat (first | with_reducible exact Below.refl _ _ | with_reducible assumption | with_reducible refine Below.drew ?_ | with_reducible refine below_drewN ?_ _ | with_reducible refine Below.alloc ?_ (by simp <;> omega) _ | with_reducible refine Below.setCell ?_ (by simp <;> omega) _))⟩) (fun hHeld => ?_)
  refine gkt 0 ?_ (h := by intro W hSw; obtain ⟨⟨y0, y1, y2, y3, y4⟩, ⟨y5, y6, y7, y8, y9⟩, _, _⟩ := hSw; go_simp; first | done | with_reducible rfl)
  refine gkt 1 ?_ (h := by intro W hSw; obtain ⟨⟨y0, y1, y2, y3, y4⟩, ⟨y5, y6, y7, y8, y9⟩, _, _⟩ := hSw; go_simp; first | done | with_reducible rfl)
  refine gkt 4 ?_ (h := by intro W hSw; obtain ⟨⟨y0, y1, y2, y3, y4⟩, ⟨y5, y6, y7, y8, y9⟩, _, _⟩ := hSw; go_simp; first | done | with_reducible rfl)
  refine wpAnyK_ready (rs := [2, 10]) (by kernel_rfl) (by simp) ?_
  refine AllReadyK.cons (at_op _ _ _ rfl) (fun K hK => ?_) ?_
  · as_aux_lemma =>
      go_simp
      go_at_call 13; refine (UC.out _).mono ?_; rintro e v1 ⟨rfl, h1⟩; have hR : (fun W : World => C5 W (w.heap.size) a ∧ C5 W (w.heap.size + 1) b ∧ R3 W (w.heap.size + 1 + 1) 0 ∧ Below w.heap.size w W) v1 := ⟨hHeld.1.keep h1, hHeld.2.1.keep h1, hHeld.2.2.1.keep h1, gt hHeld.2.2.2 h1⟩; clear h1
      refine hK.out _ _ hR (fun hHeld => ?_)
      clear hK K
      (try simp only [Act.put, sA, sZ, sS])
      refine wpAnyK_ready (rs := [3, 10]) (by kernel_rfl) (by simp) ?_
      refine AllReadyK.cons (at_op _ _ _ rfl) (fun K hK => ?_) ?_
      · as_aux_lemma =>
          go_simp
          go_at_call 22; refine (AU.out _).mono ?_; rintro e v2 ⟨rfl, h2⟩; have hR : (fun W : World => C5 W (w.heap.size) a ∧ C5 W (w.heap.size + 1) b ∧ R3 W (w.heap.size + 1 + 1) 0 ∧ Below w.heap.size w W) v2 := ⟨hHeld.1.keep h2, hHeld.2.1.keep h2, hHeld.2.2.1.keep h2, gt hHeld.2.2.2 h2⟩; clear h2
          refine hK.out _ _ hR (fun hHeld => ?_)
          clear hK K
          (try simp only [Act.put, sA, sZ, sS])
          refine wpAnyK_ready (rs := [5, 10]) (by kernel_rfl) (by simp) ?_
          refine AllReadyK.cons (at_op _ _ _ rfl) (fun K hK => ?_) ?_
          · as_aux_lemma =>
              go_simp
              go_at_call 22; refine (AA.out _).mono ?_; rintro e v3 ⟨rfl, h3⟩; have hR : (fun W : World => C5 W (w.heap.size) a ∧ C5 W (w.heap.size + 1) b ∧ R3 W (w.heap.size + 1 + 1) 0 ∧ Below w.heap.size w W) v3 := ⟨hHeld.1.keep h3, hHeld.2.1.keep h3, hHeld.2.2.1.keep h3, gt hHeld.2.2.2 h3⟩; clear h3
              refine hK.out _ _ hR (fun hHeld => ?_)
              clear hK K
              (try simp only [Act.put, sA, sZ, sS])
              refine wpAnyK_ready (rs := [6, 10]) (by kernel_rfl) (by simp) ?_
              refine AllReadyK.cons (at_op _ _ _ rfl) (fun K hK => ?_) ?_
              · as_aux_lemma =>
                  go_simp
                  go_at_call 41; refine (SC.out _).mono ?_; rintro e v4 ⟨rfl, h4⟩; have hR : (fun W : World => C5 W (w.heap.size) a ∧ C5 W (w.heap.size + 1) b ∧ R3 W (w.heap.size + 1 + 1) 0 ∧ Below w.heap.size w W) v4 := ⟨hHeld.1.keep h4, hHeld.2.1.keep h4, hHeld.2.2.1.keep h4, gt hHeld.2.2.2 h4⟩; clear h4
                  refine hK.out _ _ hR (fun hHeld => ?_)
                  clear hK K
                  (try simp only [Act.put, sA, sZ, sS])
                  refine gkp 7 ?_
                  refine gkp 8 ?_
                  refine gkp 9 ?_
                  refine gk1 10 (fun K hK => ?_)
                  have hlt := (hHeld.2.2.1).lt
                  go_simp
                  refine hK.out _ _ (by exact ⟨hHeld.1.keep (ext1 _), hHeld.2.1.keep (ext1 _), hHeld.2.2.1.keep (ext1 _), gt hHeld.2.2.2 (ext1 _)⟩) (fun hHeld => ?_)
                  clear hK K
                  (try simp only [Act.put, sA, sZ, sS])
                  refine wpAnyK_more (S' := (fun W : World => R3 W (v4.heap.size) 0 ∧ C5 W (w.heap.size) a ∧ C5 W (w.heap.size + 1) b ∧ R3 W (w.heap.size + 1 + 1) 0 ∧ Below w.heap.size w W)) (fun W h => h.2) ?_
                  replace hHeld : (fun W : World => R3 W (v4.heap.size) 0 ∧ C5 W (w.heap.size) a ∧ C5 W (w.heap.size + 1) b ∧ R3 W (w.heap.size + 1 + 1) 0 ∧ Below w.heap.size w W) _ := ⟨by exact R3.zero (by repeat (first | (refine at_new ?_; first | with_reducible rfl | (simp only [World.size_alloc]; done)) | refine at_old ?_)), hHeld⟩
                  obtain ⟨va1, hva1⟩ : ∃ W : World, W = (v4).alloc (.cells #[.int .u64 0, .int .u64 0, .int .u64 0] 27) := ⟨_, rfl⟩
                  rw [← hva1] at hHeld ⊢
                  clear hva1
                  refine gkl 11 (fun K hK => ?_)
                  have Z := hHeld.1; obtain ⟨u0, u1, u2⟩ := Z.c; have g0 := Z.fz 0; have g1 := Z.fz 1; have g2 := Z.fz 2; have hc := hHeld.2.2.2.2
                  go_simp
                  refine hK.out _ _ ?_
                  clear hK K
                  (try simp only [Act.put, sA, sZ, sS])
                  refine gkp 12 ?_
                  refine wpAnyK_done (by kernel_rfl) ?_ _
                  have Z1 := Z.set gg
                  have Z0 := (hHeld.2.2.2.1).far3 (show w.heap.size + 1 + 1 ≠ v4.heap.size by omega) (.int .u64 (W0 gg)) (.int .u64 (W1 gg)) (.int .u64 (W2 gg))
                  have hd := show Below w.heap.size w ((((va1).setCell ⟨v4.heap.size, 0, none⟩ (.int .u64 (W0 gg))).setCell ⟨v4.heap.size, 1, none⟩ (.int .u64 (W1 gg))).setCell ⟨v4.heap.size, 2, none⟩ (.int .u64 (W2 gg))) from (by repeat (first | with_reducible exact Below.refl _ _ | with_reducible assumption | with_reducible refine Below.drew ?_ | with_reducible refine below_drewN ?_ _ | with_reducible refine Below.alloc ?_ (by simp <;> omega) _ | with_reducible refine Below.setCell ?_ (by simp <;> omega) _))
                  clear hHeld hc hlt u0 u1 u2 g0 g1 g2 Z
                  obtain ⟨w9, hw9⟩ : ∃ W : World, W = (((va1).setCell ⟨v4.heap.size, 0, none⟩ (.int .u64 (W0 gg))).setCell ⟨v4.heap.size, 1, none⟩ (.int .u64 (W1 gg))).setCell ⟨v4.heap.size, 2, none⟩ (.int .u64 (W2 gg)) := ⟨_, rfl⟩
                  rw [← hw9] at Z1 Z0 hd ⊢
                  clear hw9
                  obtain ⟨t0, t1, t2⟩ := Z1.c
                  obtain ⟨q0, q1, q2⟩ := Z0.c
                  have k0 := Z0.fz 0; have k1 := Z0.fz 1; have k2 := Z0.fz 2
                  clear Z1
                  go_wp2
                  obtain ⟨z0, z1, z2⟩ := (Z0.set gg).c
                  exact bodyPost_ret (v := .agg #[.int .u64 (W0 (gg)), .int .u64 (W1 (gg)), .int .u64 (W2 (gg))]) (by simp [results, Try.results24, go_sem, z0, z1, z2]) rfl ⟨rfl, (by repeat (first | with_reducible exact Below.refl _ _ | with_reducible assumption | with_reducible refine Below.drew ?_ | with_reducible refine below_drewN ?_ _ | with_reducible refine Below.alloc ?_ (by simp <;> omega) _ | with_reducible refine Below.setCell ?_ (by simp <;> omega) _))⟩
              refine AllReadyK.cons (at_op _ _ _ rfl) (fun K hK => ?_) ?_
              · as_aux_lemma =>
                  have hlt := (hHeld.2.2.1).lt
                  go_simp
                  refine hK.out _ _ (by exact ⟨hHeld.1.keep (ext1 _), hHeld.2.1.keep (ext1 _), hHeld.2.2.1.keep (ext1 _), gt hHeld.2.2.2 (ext1 _)⟩) (fun hHeld => ?_)
                  clear hK K
                  (try simp only [Act.put, sA, sZ, sS])
                  refine wpAnyK_more (S' := (fun W : World => R3 W (v3.heap.size) 0 ∧ C5 W (w.heap.size) a ∧ C5 W (w.heap.size + 1) b ∧ R3 W (w.heap.size + 1 + 1) 0 ∧ Below w.heap.size w W)) (fun W h => h.2) ?_
                  replace hHeld : (fun W : World => R3 W (v3.heap.size) 0 ∧ C5 W (w.heap.size) a ∧ C5 W (w.heap.size + 1) b ∧ R3 W (w.heap.size + 1 + 1) 0 ∧ Below w.heap.size w W) _ := ⟨by exact R3.zero (by repeat (first | (refine at_new ?_; first | with_reducible rfl | (simp only [World.size_alloc]; done)) | refine at_old ?_)), hHeld⟩
                  obtain ⟨va1, hva1⟩ : ∃ W : World, W = (v3).alloc (.cells #[.int .u64 0, .int .u64 0, .int .u64 0] 27) := ⟨_, rfl⟩
                  rw [← hva1] at hHeld ⊢
                  clear hva1
                  refine gk1 6 (fun K hK => ?_)
                  go_simp
                  go_at_call 41; refine (SC.out _).mono ?_; rintro e v4 ⟨rfl, h4⟩; have hR : (fun W : World => R3 W (v3.heap.size) 0 ∧ C5 W (w.heap.size) a ∧ C5 W (w.heap.size + 1) b ∧ R3 W (w.heap.size + 1 + 1) 0 ∧ Below w.heap.size w W) v4 := ⟨hHeld.1.keep h4, hHeld.2.1.keep h4, hHeld.2.2.1.keep h4, hHeld.2.2.2.1.keep h4, gt hHeld.2.2.2.2 h4⟩; clear h4
                  refine hK.out _ _ hR (fun hHeld => ?_)
                  clear hK K
                  (try simp only [Act.put, sA, sZ, sS])
                  refine gkp 7 ?_
                  refine gkp 8 ?_
                  refine gkp 9 ?_
                  refine gkl 11 (fun K hK => ?_)
                  have Z := hHeld.1; obtain ⟨u0, u1, u2⟩ := Z.c; have g0 := Z.fz 0; have g1 := Z.fz 1; have g2 := Z.fz 2; have hc := hHeld.2.2.2.2
                  go_simp
                  refine hK.out _ _ ?_
                  clear hK K
                  (try simp only [Act.put, sA, sZ, sS])
                  refine gkp 12 ?_
                  refine wpAnyK_done (by kernel_rfl) ?_ _
                  have Z1 := Z.set gg
                  have Z0 := (hHeld.2.2.2.1).far3 (show w.heap.size + 1 + 1 ≠ v3.heap.size by omega) (.int .u64 (W0 gg)) (.int .u64 (W1 gg)) (.int .u64 (W2 gg))
                  have hd := show Below w.heap.size w ((((v4).setCell ⟨v3.heap.size, 0, none⟩ (.int .u64 (W0 gg))).setCell ⟨v3.heap.size, 1, none⟩ (.int .u64 (W1 gg))).setCell ⟨v3.heap.size, 2, none⟩ (.int .u64 (W2 gg))) from (by repeat (first | with_reducible exact Below.refl _ _ | with_reducible assumption | with_reducible refine Below.drew ?_ | with_reducible refine below_drewN ?_ _ | with_reducible refine Below.alloc ?_ (by simp <;> omega) _ | with_reducible refine Below.setCell ?_ (by simp <;> omega) _))
                  clear hHeld hc hlt u0 u1 u2 g0 g1 g2 Z
                  obtain ⟨w9, hw9⟩ : ∃ W : World, W = (((v4).setCell ⟨v3.heap.size, 0, none⟩ (.int .u64 (W0 gg))).setCell ⟨v3.heap.size, 1, none⟩ (.int .u64 (W1 gg))).setCell ⟨v3.heap.size, 2, none⟩ (.int .u64 (W2 gg)) := ⟨_, rfl⟩
                  rw [← hw9] at Z1 Z0 hd ⊢
                  clear hw9
                  obtain ⟨t0, t1, t2⟩ := Z1.c
                  obtain ⟨q0, q1, q2⟩ := Z0.c
                  have k0 := Z0.fz 0; have k1 := Z0.fz 1; have k2 := Z0.fz 2
                  clear Z1
                  go_wp2
                  obtain ⟨z0, z1, z2⟩ := (Z0.set gg).c
                  exact bodyPost_ret (v := .agg #[.int .u64 (W0 (gg)), .int .u64 (W1 (gg)), .int .u64 (W2 (gg))]) (by simp [results, Try.results24, go_sem, z0, z1, z2]) rfl ⟨rfl, (by repeat (first | with_reducible exact Below.refl _ _ | with_reducible assumption | with_reducible refine Below.drew ?_ | with_reducible refine below_drewN ?_ _ | with_reducible refine Below.alloc ?_ (by simp <;> omega) _ | with_reducible refine Below.setCell ?_ (by simp <;> omega) _))⟩
              exact AllReadyK.nil
          refine AllReadyK.cons (at_op _ _ _ rfl) (fun K hK => ?_) ?_
          · as_aux_lemma =>
              have hlt := (hHeld.2.2.1).lt
              go_simp
              refine hK.out _ _ (by exact ⟨hHeld.1.keep (ext1 _), hHeld.2.1.keep (ext1 _), hHeld.2.2.1.keep (ext1 _), gt hHeld.2.2.2 (ext1 _)⟩) (fun hHeld => ?_)
              clear hK K
              (try simp only [Act.put, sA, sZ, sS])
              refine wpAnyK_more (S' := (fun W : World => R3 W (v2.heap.size) 0 ∧ C5 W (w.heap.size) a ∧ C5 W (w.heap.size + 1) b ∧ R3 W (w.heap.size + 1 + 1) 0 ∧ Below w.heap.size w W)) (fun W h => h.2) ?_
              replace hHeld : (fun W : World => R3 W (v2.heap.size) 0 ∧ C5 W (w.heap.size) a ∧ C5 W (w.heap.size + 1) b ∧ R3 W (w.heap.size + 1 + 1) 0 ∧ Below w.heap.size w W) _ := ⟨by exact R3.zero (by repeat (first | (refine at_new ?_; first | with_reducible rfl | (simp only [World.size_alloc]; done)) | refine at_old ?_)), hHeld⟩
              obtain ⟨va1, hva1⟩ : ∃ W : World, W = (v2).alloc (.cells #[.int .u64 0, .int .u64 0, .int .u64 0] 27) := ⟨_, rfl⟩
              rw [← hva1] at hHeld ⊢
              clear hva1
              refine gk1 5 (fun K hK => ?_)
              go_simp
              go_at_call 22; refine (AA.out _).mono ?_; rintro e v3 ⟨rfl, h3⟩; have hR : (fun W : World => R3 W (v2.heap.size) 0 ∧ C5 W (w.heap.size) a ∧ C5 W (w.heap.size + 1) b ∧ R3 W (w.heap.size + 1 + 1) 0 ∧ Below w.heap.size w W) v3 := ⟨hHeld.1.keep h3, hHeld.2.1.keep h3, hHeld.2.2.1.keep h3, hHeld.2.2.2.1.keep h3, gt hHeld.2.2.2.2 h3⟩; clear h3
              refine hK.out _ _ hR (fun hHeld => ?_)
              clear hK K
              (try simp only [Act.put, sA, sZ, sS])
              refine gk1 6 (fun K hK => ?_)
              go_simp
              go_at_call 41; refine (SC.out _).mono ?_; rintro e v4 ⟨rfl, h4⟩; have hR : (fun W : World => R3 W (v2.heap.size) 0 ∧ C5 W (w.heap.size) a ∧ C5 W (w.heap.size + 1) b ∧ R3 W (w.heap.size + 1 + 1) 0 ∧ Below w.heap.size w W) v4 := ⟨hHeld.1.keep h4, hHeld.2.1.keep h4, hHeld.2.2.1.keep h4, hHeld.2.2.2.1.keep h4, gt hHeld.2.2.2.2 h4⟩; clear h4
              refine hK.out _ _ hR (fun hHeld => ?_)
              clear hK K
              (try simp only [Act.put, sA, sZ, sS])
              refine gkp 7 ?_
              refine gkp 8 ?_
              refine gkp 9 ?_
              refine gkl 11 (fun K hK => ?_)
              have Z := hHeld.1; obtain ⟨u0, u1, u2⟩ := Z.c; have g0 := Z.fz 0; have g1 := Z.fz 1; have g2 := Z.fz 2; have hc := hHeld.2.2.2.2
              go_simp
              refine hK.out _ _ ?_
              clear hK K
              (try simp only [Act.put, sA, sZ, sS])
              refine gkp 12 ?_
              refine wpAnyK_done (by kernel_rfl) ?_ _
              have Z1 := Z.set gg
              have Z0 := (hHeld.2.2.2.1).far3 (show w.heap.size + 1 + 1 ≠ v2.heap.size by omega) (.int .u64 (W0 gg)) (.int .u64 (W1 gg)) (.int .u64 (W2 gg))
              have hd := show Below w.heap.size w ((((v4).setCell ⟨v2.heap.size, 0, none⟩ (.int .u64 (W0 gg))).setCell ⟨v2.heap.size, 1, none⟩ (.int .u64 (W1 gg))).setCell ⟨v2.heap.size, 2, none⟩ (.int .u64 (W2 gg))) from (by repeat (first | with_reducible exact Below.refl _ _ | with_reducible assumption | with_reducible refine Below.drew ?_ | with_reducible refine below_drewN ?_ _ | with_reducible refine Below.alloc ?_ (by simp <;> omega) _ | with_reducible refine Below.setCell ?_ (by simp <;> omega) _))
              clear hHeld hc hlt u0 u1 u2 g0 g1 g2 Z
              obtain ⟨w9, hw9⟩ : ∃ W : World, W = (((v4).setCell ⟨v2.heap.size, 0, none⟩ (.int .u64 (W0 gg))).setCell ⟨v2.heap.size, 1, none⟩ (.int .u64 (W1 gg))).setCell ⟨v2.heap.size, 2, none⟩ (.int .u64 (W2 gg)) := ⟨_, rfl⟩
              rw [← hw9] at Z1 Z0 hd ⊢
              clear hw9
              obtain ⟨t0, t1, t2⟩ := Z1.c
              obtain ⟨q0, q1, q2⟩ := Z0.c
              have k0 := Z0.fz 0; have k1 := Z0.fz 1; have k2 := Z0.fz 2
              clear Z1
              go_wp2
              obtain ⟨z0, z1, z2⟩ := (Z0.set gg).c
              exact bodyPost_ret (v := .agg #[.int .u64 (W0 (gg)), .int .u64 (W1 (gg)), .int .u64 (W2 (gg))]) (by simp [results, Try.results24, go_sem, z0, z1, z2]) rfl ⟨rfl, (by repeat (first | with_reducible exact Below.refl _ _ | with_reducible assumption | with_reducible refine Below.drew ?_ | with_reducible refine below_drewN ?_ _ | with_reducible refine Below.alloc ?_ (by simp <;> omega) _ | with_reducible refine Below.setCell ?_ (by simp <;> omega) _))⟩
          exact AllReadyK.nil
      refine AllReadyK.cons (at_op _ _ _ rfl) (fun K hK => ?_) ?_
      · as_aux_lemma =>
          have hlt := (hHeld.2.2.1).lt
          go_simp
          refine hK.out _ _ (by exact ⟨hHeld.1.keep (ext1 _), hHeld.2.1.keep (ext1 _), hHeld.2.2.1.keep (ext1 _), gt hHeld.2.2.2 (ext1 _)⟩) (fun hHeld => ?_)
          clear hK K
          (try simp only [Act.put, sA, sZ, sS])
          refine wpAnyK_more (S' := (fun W : World => R3 W (v1.heap.size) 0 ∧ C5 W (w.heap.size) a ∧ C5 W (w.heap.size + 1) b ∧ R3 W (w.heap.size + 1 + 1) 0 ∧ Below w.heap.size w W)) (fun W h => h.2) ?_
          replace hHeld : (fun W : World => R3 W (v1.heap.size) 0 ∧ C5 W (w.heap.size) a ∧ C5 W (w.heap.size + 1) b ∧ R3 W (w.heap.size + 1 + 1) 0 ∧ Below w.heap.size w W) _ := ⟨by exact R3.zero (by repeat (first | (refine at_new ?_; first | with_reducible rfl | (simp only [World.size_alloc]; done)) | refine at_old ?_)), hHeld⟩
          obtain ⟨va1, hva1⟩ : ∃ W : World, W = (v1).alloc (.cells #[.int .u64 0, .int .u64 0, .int .u64 0] 27) := ⟨_, rfl⟩
          rw [← hva1] at hHeld ⊢
          clear hva1
          refine gk1 3 (fun K hK => ?_)
          go_simp
          go_at_call 22; refine (AU.out _).mono ?_; rintro e v2 ⟨rfl, h2⟩; have hR : (fun W : World => R3 W (v1.heap.size) 0 ∧ C5 W (w.heap.size) a ∧ C5 W (w.heap.size + 1) b ∧ R3 W (w.heap.size + 1 + 1) 0 ∧ Below w.heap.size w W) v2 := ⟨hHeld.1.keep h2, hHeld.2.1.keep h2, hHeld.2.2.1.keep h2, hHeld.2.2.2.1.keep h2, gt hHeld.2.2.2.2 h2⟩; clear h2
          refine hK.out _ _ hR (fun hHeld => ?_)
          clear hK K
          (try simp only [Act.put, sA, sZ, sS])
          refine gk1 5 (fun K hK => ?_)
          go_simp
          go_at_call 22; refine (AA.out _).mono ?_; rintro e v3 ⟨rfl, h3⟩; have hR : (fun W : World => R3 W (v1.heap.size) 0 ∧ C5 W (w.heap.size) a ∧ C5 W (w.heap.size + 1) b ∧ R3 W (w.heap.size + 1 + 1) 0 ∧ Below w.heap.size w W) v3 := ⟨hHeld.1.keep h3, hHeld.2.1.keep h3, hHeld.2.2.1.keep h3, hHeld.2.2.2.1.keep h3, gt hHeld.2.2.2.2 h3⟩; clear h3
          refine hK.out _ _ hR (fun hHeld => ?_)
          clear hK K
          (try simp only [Act.put, sA, sZ, sS])
          refine gk1 6 (fun K hK => ?_)
          go_simp
          go_at_call 41; refine (SC.out _).mono ?_; rintro e v4 ⟨rfl, h4⟩; have hR : (fun W : World => R3 W (v1.heap.size) 0 ∧ C5 W (w.heap.size) a ∧ C5 W (w.heap.size + 1) b ∧ R3 W (w.heap.size + 1 + 1) 0 ∧ Below w.heap.size w W) v4 := ⟨hHeld.1.keep h4, hHeld.2.1.keep h4, hHeld.2.2.1.keep h4, hHeld.2.2.2.1.keep h4, gt hHeld.2.2.2.2 h4⟩; clear h4
          refine hK.out _ _ hR (fun hHeld => ?_)
          clear hK K
          (try simp only [Act.put, sA, sZ, sS])
          refine gkp 7 ?_
          refine gkp 8 ?_
          refine gkp 9 ?_
          refine gkl 11 (fun K hK => ?_)
          have Z := hHeld.1; obtain ⟨u0, u1, u2⟩ := Z.c; have g0 := Z.fz 0; have g1 := Z.fz 1; have g2 := Z.fz 2; have hc := hHeld.2.2.2.2
          go_simp
          refine hK.out _ _ ?_
          clear hK K
          (try simp only [Act.put, sA, sZ, sS])
          refine gkp 12 ?_
          refine wpAnyK_done (by kernel_rfl) ?_ _
          have Z1 := Z.set gg
          have Z0 := (hHeld.2.2.2.1).far3 (show w.heap.size + 1 + 1 ≠ v1.heap.size by omega) (.int .u64 (W0 gg)) (.int .u64 (W1 gg)) (.int .u64 (W2 gg))
          have hd := show Below w.heap.size w ((((v4).setCell ⟨v1.heap.size, 0, none⟩ (.int .u64 (W0 gg))).setCell ⟨v1.heap.size, 1, none⟩ (.int .u64 (W1 gg))).setCell ⟨v1.heap.size, 2, none⟩ (.int .u64 (W2 gg))) from (by repeat (first | with_reducible exact Below.refl _ _ | with_reducible assumption | with_reducible refine Below.drew ?_ | with_reducible refine below_drewN ?_ _ | with_reducible refine Below.alloc ?_ (by simp <;> omega) _ | with_reducible refine Below.setCell ?_ (by simp <;> omega) _))
          clear hHeld hc hlt u0 u1 u2 g0 g1 g2 Z
          obtain ⟨w9, hw9⟩ : ∃ W : World, W = (((v4).setCell ⟨v1.heap.size, 0, none⟩ (.int .u64 (W0 gg))).setCell ⟨v1.heap.size, 1, none⟩ (.int .u64 (W1 gg))).setCell ⟨v1.heap.size, 2, none⟩ (.int .u64 (W2 gg)) := ⟨_, rfl⟩
          rw [← hw9] at Z1 Z0 hd ⊢
          clear hw9
          obtain ⟨t0, t1, t2⟩ := Z1.c
          obtain ⟨q0, q1, q2⟩ := Z0.c
          have k0 := Z0.fz 0; have k1 := Z0.fz 1; have k2 := Z0.fz 2
          clear Z1
          go_wp2
          obtain ⟨z0, z1, z2⟩ := (Z0.set gg).c
          exact bodyPost_ret (v := .agg #[.int .u64 (W0 (gg)), .int .u64 (W1 (gg)), .int .u64 (W2 (gg))]) (by simp [results, Try.results24, go_sem, z0, z1, z2]) rfl ⟨rfl, (by repeat (first | with_reducible exact Below.refl _ _ | with_reducible assumption | with_reducible refine Below.drew ?_ | with_reducible refine below_drewN ?_ _ | with_reducible refine Below.alloc ?_ (by simp <;> omega) _ | with_reducible refine Below.setCell ?_ (by simp <;> omega) _))⟩
      exact AllReadyK.nil
  refine AllReadyK.cons (at_op _ _ _ rfl) (fun K hK => ?_) ?_
  · as_aux_lemma =>
      have hlt : w.heap.size + 1 + 1 < w.heap.size + 1 + 1 + 1 := by omega
      go_simp
      refine hK.out _ _ (by exact ⟨hHeld.1.keep (ext1 _), hHeld.2.1.keep (ext1 _), hHeld.2.2.1.keep (ext1 _), gt hHeld.2.2.2 (ext1 _)⟩) (fun hHeld => ?_)
      clear hK K
      (try simp only [Act.put, sA, sZ, sS])
      refine wpAnyK_more (S' := (fun W : World => R3 W (w.heap.size + 1 + 1 + 1) 0 ∧ C5 W (w.heap.size) a ∧ C5 W (w.heap.size + 1) b ∧ R3 W (w.heap.size + 1 + 1) 0 ∧ Below w.heap.size w W)) (fun W h => h.2) ?_
      replace hHeld : (fun W : World => R3 W (w.heap.size + 1 + 1 + 1) 0 ∧ C5 W (w.heap.size) a ∧ C5 W (w.heap.size + 1) b ∧ R3 W (w.heap.size + 1 + 1) 0 ∧ Below w.heap.size w W) _ := ⟨by exact R3.zero (by repeat (first | (refine at_new ?_; first | with_reducible rfl | (simp only [World.size_alloc]; done)) | refine at_old ?_)), hHeld⟩
      obtain ⟨va1, hva1⟩ : ∃ W : World, W = World.drew ((((w.alloc (.cells #[.bool (a).n, .int .i64 (a).lx, .int .i64 (a).ly, .int .i64 (a).hx, .int .i64 (a).hy] 25)).alloc (.cells #[.bool (b).n, .int .i64 (b).lx, .int .i64 (b).ly, .int .i64 (b).hx, .int .i64 (b).hy] 25)).alloc (.cells #[.int .u64 0, .int .u64 0, .int .u64 0] 27)).alloc (.cells #[.int .u64 0, .int .u64 0, .int .u64 0] 27)) := ⟨_, rfl⟩
      rw [← hva1] at hHeld ⊢
      clear hva1
      refine gk1 2 (fun K hK => ?_)
      go_simp
      go_at_call 13; refine (UC.out _).mono ?_; rintro e v1 ⟨rfl, h1⟩; have hR : (fun W : World => R3 W (w.heap.size + 1 + 1 + 1) 0 ∧ C5 W (w.heap.size) a ∧ C5 W (w.heap.size + 1) b ∧ R3 W (w.heap.size + 1 + 1) 0 ∧ Below w.heap.size w W) v1 := ⟨hHeld.1.keep h1, hHeld.2.1.keep h1, hHeld.2.2.1.keep h1, hHeld.2.2.2.1.keep h1, gt hHeld.2.2.2.2 h1⟩; clear h1
      refine hK.out _ _ hR (fun hHeld => ?_)
      clear hK K
      (try simp only [Act.put, sA, sZ, sS])
      refine gk1 3 (fun K hK => ?_)
      go_simp
      go_at_call 22; refine (AU.out _).mono ?_; rintro e v2 ⟨rfl, h2⟩; have hR : (fun W : World => R3 W (w.heap.size + 1 + 1 + 1) 0 ∧ C5 W (w.heap.size) a ∧ C5 W (w.heap.size + 1) b ∧ R3 W (w.heap.size + 1 + 1) 0 ∧ Below w.heap.size w W) v2 := ⟨hHeld.1.keep h2, hHeld.2.1.keep h2, hHeld.2.2.1.keep h2, hHeld.2.2.2.1.keep h2, gt hHeld.2.2.2.2 h2⟩; clear h2
      refine hK.out _ _ hR (fun hHeld => ?_)
      clear hK K
      (try simp only [Act.put, sA, sZ, sS])
      refine gk1 5 (fun K hK => ?_)
      go_simp
      go_at_call 22; refine (AA.out _).mono ?_; rintro e v3 ⟨rfl, h3⟩; have hR : (fun W : World => R3 W (w.heap.size + 1 + 1 + 1) 0 ∧ C5 W (w.heap.size) a ∧ C5 W (w.heap.size + 1) b ∧ R3 W (w.heap.size + 1 + 1) 0 ∧ Below w.heap.size w W) v3 := ⟨hHeld.1.keep h3, hHeld.2.1.keep h3, hHeld.2.2.1.keep h3, hHeld.2.2.2.1.keep h3, gt hHeld.2.2.2.2 h3⟩; clear h3
      refine hK.out _ _ hR (fun hHeld => ?_)
      clear hK K
      (try simp only [Act.put, sA, sZ, sS])
      refine gk1 6 (fun K hK => ?_)
      go_simp
      go_at_call 41; refine (SC.out _).mono ?_; rintro e v4 ⟨rfl, h4⟩; have hR : (fun W : World => R3 W (w.heap.size + 1 + 1 + 1) 0 ∧ C5 W (w.heap.size) a ∧ C5 W (w.heap.size + 1) b ∧ R3 W (w.heap.size + 1 + 1) 0 ∧ Below w.heap.size w W) v4 := ⟨hHeld.1.keep h4, hHeld.2.1.keep h4, hHeld.2.2.1.keep h4, hHeld.2.2.2.1.keep h4, gt hHeld.2.2.2.2 h4⟩; clear h4
      refine hK.out _ _ hR (fun hHeld => ?_)
      clear hK K
      (try simp only [Act.put, sA, sZ, sS])
      refine gkp 7 ?_
      refine gkp 8 ?_
      refine gkp 9 ?_
      refine gkl 11 (fun K hK => ?_)
      have Z := hHeld.1; obtain ⟨u0, u1, u2⟩ := Z.c; have g0 := Z.fz 0; have g1 := Z.fz 1; have g2 := Z.fz 2; have hc := hHeld.2.2.2.2
      go_simp
      refine hK.out _ _ ?_
      clear hK K
      (try simp only [Act.put, sA, sZ, sS])
      refine gkp 12 ?_
      refine wpAnyK_done (by kernel_rfl) ?_ _
      have Z1 := Z.set gg
      have Z0 := (hHeld.2.2.2.1).far3 (show w.heap.size + 1 + 1 ≠ w.heap.size + 1 + 1 + 1 by omega) (.int .u64 (W0 gg)) (.int .u64 (W1 gg)) (.int .u64 (W2 gg))
      have hd := show Below w.heap.size w ((((v4).setCell ⟨w.heap.size + 1 + 1 + 1, 0, none⟩ (.int .u64 (W0 gg))).setCell ⟨w.heap.size + 1 + 1 + 1, 1, none⟩ (.int .u64 (W1 gg))).setCell ⟨w.heap.size + 1 + 1 + 1, 2, none⟩ (.int .u64 (W2 gg))) from (by repeat (first | with_reducible exact Below.refl _ _ | with_reducible assumption | with_reducible refine Below.drew ?_ | with_reducible refine below_drewN ?_ _ | with_reducible refine Below.alloc ?_ (by simp <;> omega) _ | with_reducible refine Below.setCell ?_ (by simp <;> omega) _))
      clear hHeld hc hlt u0 u1 u2 g0 g1 g2 Z
      obtain ⟨w9, hw9⟩ : ∃ W : World, W = (((v4).setCell ⟨w.heap.size + 1 + 1 + 1, 0, none⟩ (.int .u64 (W0 gg))).setCell ⟨w.heap.size + 1 + 1 + 1, 1, none⟩ (.int .u64 (W1 gg))).setCell ⟨w.heap.size + 1 + 1 + 1, 2, none⟩ (.int .u64 (W2 gg)) := ⟨_, rfl⟩
      rw [← hw9] at Z1 Z0 hd ⊢
      clear hw9
      obtain ⟨t0, t1, t2⟩ := Z1.c
      obtain ⟨q0, q1, q2⟩ := Z0.c
      have k0 := Z0.fz 0; have k1 := Z0.fz 1; have k2 := Z0.fz 2
      clear Z1
      go_wp2
      obtain ⟨z0, z1, z2⟩ := (Z0.set gg).c
      exact bodyPost_ret (v := .agg #[.int .u64 (W0 (gg)), .int .u64 (W1 (gg)), .int .u64 (W2 (gg))]) (by simp [results, Try.results24, go_sem, z0, z1, z2]) rfl ⟨rfl, (by repeat (first | with_reducible exact Below.refl _ _ | with_reducible assumption | with_reducible refine Below.drew ?_ | with_reducible refine below_drewN ?_ _ | with_reducible refine Below.alloc ?_ (by simp <;> omega) _ | with_reducible refine Below.setCell ?_ (by simp <;> omega) _))⟩
  exact AllReadyK.nil
end Go.Proofs.Ytjlahomjhadnkaa
