/- The law JournalReads, walked; no statement of the seat is proved here. -/
import Derived.Test.YtndlogjmnbgegaaDoorJg
import Derived.Test.YtndlogjmnbgegaaDoorHd
namespace Go.Proofs.YtndlogjmnbgegaaDoor
open Go.RowKit

set_option maxHeartbeats 1000000 in
theorem reads_long (ao : Option Addr) (n cap : Nat) (k : Int) (w : World) (h : 20000 < n) :
    Calls Tryd.prog 4 #[.slice ao n cap, .int .u64 k] w fun e w' => e = .returned (.bool true) ∧ Below w.heap.size w w' := by
  have lv := hid lives_any
  have h1 : (20000 : Int) < (n : Int) := by omega
  clear h
  go_enter Tryd.func4, Tryd.ntmps4
  go_wp2_with (go_at_call 8; refine (lv.out _).mono ?_; rintro e w3 ⟨rfl, h3⟩; obtain rfl := h3.symm)
  go_ret
  exact ⟨rfl, Below.refl _ _⟩

theorem rdJ_len (xs : List Nat) (h : xs.length ≤ 20000) : (rdJ xs).2.1 ≤ 100000 := by
  unfold rdJ
  split
  · simp
  · split
    · simp
    · split
      · simp only; omega
      · simp

/-- One record in a row of its own. -/
theorem one_rec {W : World} {g : Nat} {p : Int} {a : Option Addr} {n c : Nat} {d : List Nat} (h0 : W.cell? ⟨g, 0, none⟩ = some (.int .i64 p)) (h1 : W.cell? ⟨g, 1, none⟩ = some (.slice a n c)) (hr : Rd W a n c d) : Recs W (some ⟨g, 0, none⟩) 1 (fun _ => p) (fun _ => d) := by
  intro _
  refine ⟨g, 0, rfl, fun i hi => ?_⟩
  obtain rfl : i = 0 := by omega
  exact ⟨a, n, c, h0, h1, hr⟩

/-- What the law reads of its four boxes. -/
abbrev SL (q1 q2 q3 q4 : Nat) (c p : Int) (m : Nat) (u : Int) (a : Option Addr) (k ca : Nat) (b : Option Addr) (cb : Nat) (W : World) : Prop :=
  (W.cell? ⟨q1, 0, none⟩ = some (.int .i64 c) ∧ W.cell? ⟨q1, 1, none⟩ = some (.int .i64 p) ∧ W.cell? ⟨q1, 2, none⟩ = some (.int .u64 (m : Int))) ∧
  (W.cell? ⟨q2, 0, none⟩ = some (.int .i64 c) ∧ W.cell? ⟨q2, 1, none⟩ = some (.int .i64 p) ∧ W.cell? ⟨q2, 2, none⟩ = some (.int .u64 (m : Int))) ∧
  (W.cell? ⟨q3, 0, none⟩ = some (.int .i64 u) ∧ W.cell? ⟨q3, 1, none⟩ = some (.slice a k ca)) ∧
  (W.cell? ⟨q4, 0, none⟩ = some (.int .i64 u) ∧ W.cell? ⟨q4, 1, none⟩ = some (.slice b k cb))

theorem SL.keep {q1 q2 q3 q4 : Nat} {c p : Int} {m : Nat} {u : Int} {a : Option Addr} {k ca : Nat} {b : Option Addr} {cb : Nat} {W W' : World} (h : SL q1 q2 q3 q4 c p m u a k ca b cb W) (hb : Below W.heap.size W W') : SL q1 q2 q3 q4 c p m u a k ca b cb W' := by
  obtain ⟨⟨h1, h2, h3⟩, ⟨h4, h5, h6⟩, ⟨h7, h8⟩, h9, h10⟩ := h
  exact ⟨⟨keep_old hb h1, keep_old hb h2, keep_old hb h3⟩, ⟨keep_old hb h4, keep_old hb h5, keep_old hb h6⟩, ⟨keep_old hb h7, keep_old hb h8⟩, keep_old hb h9, keep_old hb h10⟩

theorem alloc_rec {W : World} {p : Int} {a : Option Addr} {n c : Nat} {d : List Nat} (t : TypeId) (hr : Rd W a n c d) : Recs (W.alloc (.cells #[.int .i64 p, .slice a n c] t)) (some ⟨W.heap.size, 0, none⟩) 1 (fun _ => p) (fun _ => d) := by
  obtain ⟨h0, h1, _⟩ := (RB.new t W p a n c).cells
  exact one_rec h0 h1 (hr.keep (Below.alloc (Below.refl _ _) (Nat.le_refl _) _))

theorem alloc_rec2 {W : World} {o : Obj} {p : Int} {a : Option Addr} {n c : Nat} {d : List Nat} (t : TypeId) (hr : Rd W a n c d) : Recs ((W.alloc o).alloc (.cells #[.int .i64 p, .slice a n c] t)) (some ⟨W.heap.size + 1, 0, none⟩) 1 (fun _ => p) (fun _ => d) := by
  have := alloc_rec (p := p) t (hr.keep (Below.alloc (Below.refl _ _) (Nat.le_refl _) o))
  simpa using this

set_option maxHeartbeats 8000000 in
set_option maxRecDepth 20000 in
theorem reads_law (ao : Option Addr) (n cap : Nat) (xs : List Nat) (k : Nat) (w : World) (hT : Tab w) (h : Rd w ao n cap xs) (hx : ∀ x ∈ xs, x < 256) (hn : n ≤ 20000) :
    Calls Tryd.prog 4 #[.slice ao n cap, .int .u64 (k : Int)] w fun e w' => e = .returned (.bool true) ∧ Below w.heap.size w w' := by
  have lv := hid lives_any
  have g1 : ¬ (20000 : Int) < (n : Int) := by omega
  have c21 := fun W (hb : Below w.heap.size w W) => rhead_all ao n cap xs W (h.keep hb) hx (by omega) (hT.keep hb)
  have c22 := fun W (hb : Below w.heap.size w W) => rrhead_all ao n cap xs W (h.keep hb) hx (by omega)
  have c23 := fun W (hb : Below w.heap.size w W) => rrec_all ao n cap xs k W (h.keep hb) hx (by omega) (hT.keep hb)
  have c24 := fun W (hb : Below w.heap.size w W) => rrrec_all ao n cap xs k W (h.keep hb) hx (by omega)
  have c26 := fun W (hb : Below w.heap.size w W) => parse_any ao n cap xs W (h.keep hb) hx (by omega) (hT.keep hb)
  have c27 := fun W (hb : Below w.heap.size w W) => rparse_any ao n cap xs W (h.keep hb) hx (by omega)
  have c28 := fun W (hb : Below w.heap.size w W) => hot_any ao n cap xs W (h.keep hb) hx (by omega) (hT.keep hb)
  have c29 := fun W (hb : Below w.heap.size w W) => rhot_any ao n cap xs W (h.keep hb) hx (by omega)
  have hJl := rdJ_len xs (by have := h.1; omega)
  unfold JIs at c26 c27
  generalize rdH xs = rH at *
  obtain ⟨⟨hc, hp, hm⟩, her⟩ := rH
  generalize rdR xs k = rR at *
  obtain ⟨⟨u, d⟩, uer⟩ := rR
  generalize rdJ xs = rJ at *
  obtain ⟨⟨jc, jp, jm⟩, L, jer⟩ := rJ
  generalize pP xs = PP at *
  generalize pD xs = DD at *
  generalize hotN xs = hot at *
  simp only at c21 c22 c23 c24 c26 c27 c28 c29 hJl
  generalize hN2 : d.length = N2 at *
  have c21 := hid c21
  have c22 := hid c22
  have c23 := hid c23
  have c24 := hid c24
  have c26 := hid c26
  have c27 := hid c27
  have c28 := hid c28
  have c29 := hid c29
  clear h hx hT hN2
  go_enter Tryd.func4, Tryd.ntmps4
  go_upto_region 7 with (first
    | (go_at_call 21; refine (c21.out _ (Below.refl _ _)).mono ?_; rintro e w1 ⟨rfl, hb1⟩; have A1 : Below w1.heap.size w1 (w1.alloc (.cells #[.int .i64 (hc : Int), .int .i64 (hp : Int), .int .u64 (hm : Int)] 24)) := Below.alloc (Below.refl _ _) (Nat.le_refl _) _; have B1 := hid (gt hb1 A1); have X1 := hid (HB.new 24 w1 hc hp hm); clear hb1 A1)
    | (go_at_call 22; refine (c22.out _ B1.out).mono ?_; rintro e w2 ⟨rfl, hb2⟩; have A2 : Below w2.heap.size w2 (w2.alloc (.cells #[.int .i64 (hc : Int), .int .i64 (hp : Int), .int .u64 (hm : Int)] 29)) := Below.alloc (Below.refl _ _) (Nat.le_refl _) _; have B2 := hid (gt (gt B1.out hb2) A2); have X12 := hid ((X1.out.keep hb2).keep A2); have X2 := hid (HB.new 29 w2 hc hp hm); clear hb2 A2 X1)
    | (go_at_call 23; refine (c23.out _ B2.out).mono ?_; rintro e w3 ⟨a3, c3, rfl, r3, hb3⟩; have A3 : Below w3.heap.size w3 (w3.alloc (.cells #[.int .i64 (u : Int), .slice a3 N2 c3] 32)) := Below.alloc (Below.refl _ _) (Nat.le_refl _) _; have B3 := hid (gt (gt B2.out hb3) A3); have X13 := hid ((X12.out.keep hb3).keep A3); have X23 := hid ((X2.out.keep hb3).keep A3); have X3 := hid (RB.new 32 w3 u a3 N2 c3); have R3 := hid (r3.keep A3); clear hb3 r3 A3 X12 X2)
    | (go_at_call 24; refine (c24.out _ B3.out).mono ?_; rintro e w4 ⟨a4, c4, rfl, r4, _, hb4⟩; have A4 : Below w4.heap.size w4 (w4.alloc (.cells #[.int .i64 (u : Int), .slice a4 N2 c4] 35)) := Below.alloc (Below.refl _ _) (Nat.le_refl _) _; have B4 := hid (gt (gt B3.out hb4) A4); have X14 := hid ((X13.out.keep hb4).keep A4); have X24 := hid ((X23.out.keep hb4).keep A4); have X34 := hid ((X3.out.keep hb4).keep A4); have X4 := hid (RB.new 35 w4 u a4 N2 c4); have R34 := hid ((R3.out.keep hb4).keep A4); have R4 := hid (r4.keep A4); clear hb4 r4 A4 X13 X23 X3 R3))
  obtain ⟨W, hW⟩ : ∃ W, W = w4.alloc (.cells #[.int .i64 (u : Int), .slice a4 N2 c4] 35) := ⟨_, rfl⟩
  rw [← hW] at B4 X14 X24 X34 X4 R34 R4
  rw [← hW]
  have SS0 : Hid (SL w1.heap.size w2.heap.size w3.heap.size w4.heap.size hc hp hm u a3 N2 c3 a4 c4 W) := hid (by
    obtain ⟨p0, p1, p2, _⟩ := X14.out.cells
    obtain ⟨q0, q1, q2, _⟩ := X24.out.cells
    obtain ⟨s0, s1, _⟩ := X34.out.cells
    obtain ⟨t0, t1, _⟩ := X4.out.cells
    exact ⟨⟨p0, p1, p2⟩, ⟨q0, q1, q2⟩, ⟨s0, s1⟩, t0, t1⟩)
  clear hW B1 B2 B3 X14 X24 X34 X4
  generalize w1.heap.size = q1 at *
  generalize w2.heap.size = q2 at *
  generalize w3.heap.size = q3 at *
  generalize w4.heap.size = q4 at *
  have G1 : Hid (Below W.heap.size W ((W.alloc (.cells #[.int .i64 (u : Int), .slice a3 N2 c3] 32)).drew)) := hid (Below.alloc (Below.refl _ _) (Nat.le_refl _) _).drew
  have G2 : Hid (Below W.heap.size W (((W.alloc (.cells #[.int .i64 (u : Int), .slice a3 N2 c3] 32)).alloc (.cells #[.int .i64 (u : Int), .slice a4 N2 c4] 35)).drew)) := hid (gt (Below.alloc (Below.refl _ _) (Nat.le_refl _) _) (Below.alloc (Below.refl _ _) (Nat.le_refl _) _)).drew
  have G3 : Hid (Below W.heap.size W ((W.alloc (.cells #[.int .i64 (u : Int), .slice a4 N2 c4] 35)).drew)) := hid (Below.alloc (Below.refl _ _) (Nat.le_refl _) _).drew
  have G4 : Hid (Below W.heap.size W (((W.alloc (.cells #[.int .i64 (u : Int), .slice a4 N2 c4] 35)).alloc (.cells #[.int .i64 (u : Int), .slice a3 N2 c3] 32)).drew)) := hid (gt (Below.alloc (Below.refl _ _) (Nat.le_refl _) _) (Below.alloc (Below.refl _ _) (Nat.le_refl _) _)).drew
  have x0 : SL q1 q2 q3 q4 hc hp hm u a3 N2 c3 a4 c4 W.drew := SS0.out.keep (Below.refl _ _).drew
  have x1 : SL q1 q2 q3 q4 hc hp hm u a3 N2 c3 a4 c4 ((W.alloc (.cells #[.int .i64 (u : Int), .slice a3 N2 c3] 32)).drew) := SS0.out.keep G1.out
  have x2 : SL q1 q2 q3 q4 hc hp hm u a3 N2 c3 a4 c4 (((W.alloc (.cells #[.int .i64 (u : Int), .slice a3 N2 c3] 32)).alloc (.cells #[.int .i64 (u : Int), .slice a4 N2 c4] 35)).drew) := SS0.out.keep G2.out
  have x3 : SL q1 q2 q3 q4 hc hp hm u a3 N2 c3 a4 c4 ((W.alloc (.cells #[.int .i64 (u : Int), .slice a4 N2 c4] 35)).drew) := SS0.out.keep G3.out
  have x4 : SL q1 q2 q3 q4 hc hp hm u a3 N2 c3 a4 c4 (((W.alloc (.cells #[.int .i64 (u : Int), .slice a4 N2 c4] 35)).alloc (.cells #[.int .i64 (u : Int), .slice a3 N2 c3] 32)).drew) := SS0.out.keep G4.out
  have K1 : Hid (Recs ((W.alloc (.cells #[.int .i64 (u : Int), .slice a3 N2 c3] 32)).drew) (some ⟨W.heap.size, 0, none⟩) 1 (fun _ => (u : Int)) (fun _ => d)) := hid ((alloc_rec 32 R34.out).keep (Below.refl _ _).drew)
  have K2 : Hid (Recs (((W.alloc (.cells #[.int .i64 (u : Int), .slice a3 N2 c3] 32)).alloc (.cells #[.int .i64 (u : Int), .slice a4 N2 c4] 35)).drew) (some ⟨W.heap.size, 0, none⟩) 1 (fun _ => (u : Int)) (fun _ => d)) := hid (((alloc_rec 32 R34.out).keep (Below.alloc (Below.refl _ _) (Nat.le_refl _) _)).keep (Below.refl _ _).drew)
  have M2 : Hid (Recs (((W.alloc (.cells #[.int .i64 (u : Int), .slice a3 N2 c3] 32)).alloc (.cells #[.int .i64 (u : Int), .slice a4 N2 c4] 35)).drew) (some ⟨W.heap.size + 1, 0, none⟩) 1 (fun _ => (u : Int)) (fun _ => d)) := hid ((alloc_rec2 35 R4.out).keep (Below.refl _ _).drew)
  have K4 : Hid (Recs (((W.alloc (.cells #[.int .i64 (u : Int), .slice a4 N2 c4] 35)).alloc (.cells #[.int .i64 (u : Int), .slice a3 N2 c3] 32)).drew) (some ⟨W.heap.size + 1, 0, none⟩) 1 (fun _ => (u : Int)) (fun _ => d)) := hid ((alloc_rec2 32 R34.out).keep (Below.refl _ _).drew)
  have M4 : Hid (Recs (((W.alloc (.cells #[.int .i64 (u : Int), .slice a4 N2 c4] 35)).alloc (.cells #[.int .i64 (u : Int), .slice a3 N2 c3] 32)).drew) (some ⟨W.heap.size, 0, none⟩) 1 (fun _ => (u : Int)) (fun _ => d)) := hid (((alloc_rec 35 R4.out).keep (Below.alloc (Below.refl _ _) (Nat.le_refl _) _)).keep (Below.refl _ _).drew)
  go_region_held3 (SL q1 q2 q3 q4 hc hp hm u a3 N2 c3 a4 c4) (with_reducible assumption) (first
    | (go_at_call 12; with_reducible refine (plain_any (some ⟨W.heap.size, 0, none⟩) 1 1 (fun _ => (u : Int)) (fun _ => d) ((W.alloc (.cells #[.int .i64 (u : Int), .slice a3 N2 c3] 32)).drew) K1.out (by omega)).mono ?_; rintro e w8 ⟨ao8, cap8, rfl, r8, hb8⟩; have F8 := hid (gt G1.out hb8); have R8 : Hid (Recs (w8.alloc (.cells #[.int .i64 (u : Int), .slice a4 N2 c4] 35)) ao8 1 (fun _ => (u : Int)) (fun _ => d)) := hid (r8.keep (Below.alloc (Below.refl _ _) (Nat.le_refl _) _)); have M8 : Hid (Recs (w8.alloc (.cells #[.int .i64 (u : Int), .slice a4 N2 c4] 35)) (some ⟨w8.heap.size, 0, none⟩) 1 (fun _ => (u : Int)) (fun _ => d)) := hid (alloc_rec 35 (R4.out.keep F8.out)); have x8 : SL q1 q2 q3 q4 hc hp hm u a3 N2 c3 a4 c4 w8 := SS0.out.keep F8.out; have F8a : Hid (Below W.heap.size W (w8.alloc (.cells #[.int .i64 (u : Int), .slice a4 N2 c4] 35))) := hid (gt F8.out (Below.alloc (Below.refl _ _) (Nat.le_refl _) _)); have x8a : SL q1 q2 q3 q4 hc hp hm u a3 N2 c3 a4 c4 (w8.alloc (.cells #[.int .i64 (u : Int), .slice a4 N2 c4] 35)) := SS0.out.keep F8a.out; clear r8 hb8)
    | (go_at_call 12; with_reducible refine (plain_any (some ⟨W.heap.size, 0, none⟩) 1 1 (fun _ => (u : Int)) (fun _ => d) (((W.alloc (.cells #[.int .i64 (u : Int), .slice a3 N2 c3] 32)).alloc (.cells #[.int .i64 (u : Int), .slice a4 N2 c4] 35)).drew) K2.out (by omega)).mono ?_; rintro e w8 ⟨ao8, cap8, rfl, r8, hb8⟩; have F8 := hid (gt G2.out hb8); have R8 := hid r8; have M8 := hid (M2.out.keep hb8); have x8 : SL q1 q2 q3 q4 hc hp hm u a3 N2 c3 a4 c4 w8 := SS0.out.keep F8.out; clear r8 hb8)
    | (go_at_call 12; with_reducible refine (plain_any (some ⟨W.heap.size + 1, 0, none⟩) 1 1 (fun _ => (u : Int)) (fun _ => d) (((W.alloc (.cells #[.int .i64 (u : Int), .slice a4 N2 c4] 35)).alloc (.cells #[.int .i64 (u : Int), .slice a3 N2 c3] 32)).drew) K4.out (by omega)).mono ?_; rintro e w8 ⟨ao8, cap8, rfl, r8, hb8⟩; have F8 := hid (gt G4.out hb8); have R8 := hid r8; have M8 := hid (M4.out.keep hb8); have x8 : SL q1 q2 q3 q4 hc hp hm u a3 N2 c3 a4 c4 w8 := SS0.out.keep F8.out; clear r8 hb8)
    | (go_at_call 25; with_reducible refine (same_any ao8 _ 1 cap8 1 (fun _ => (u : Int)) (fun _ => d) (w8.alloc (.cells #[.int .i64 (u : Int), .slice a4 N2 c4] 35)) R8.out M8.out (by omega)).mono ?_; rintro e w9 ⟨rfl, hb9⟩; have F9 := hid (gt F8a.out hb9); have x9 : SL q1 q2 q3 q4 hc hp hm u a3 N2 c3 a4 c4 w9 := SS0.out.keep F9.out; clear hb9)
    | (go_at_call 25; with_reducible refine (same_any ao8 _ 1 cap8 1 (fun _ => (u : Int)) (fun _ => d) w8 R8.out M8.out (by omega)).mono ?_; rintro e w9 ⟨rfl, hb9⟩; have F9 := hid (gt F8.out hb9); have x9 : SL q1 q2 q3 q4 hc hp hm u a3 N2 c3 a4 c4 w9 := SS0.out.keep F9.out; clear hb9))
  all_goals
    have B9 := hid (gt B4.out F9.out)
    clear x0 x1 x2 x3 x4 x8 x9 G1 G2 G3 G4 K1 K2 M2 K4 M4 SS0 B4 R34 R4 F8 R8 M8 F9 c21 c22 c23 c24
    (try clear x8a F8a)
    go_wp2_with (first
      | (go_at_call 26; refine (c26.out _ B9.out).mono ?_; rintro e w10 ⟨a10, p10, rfl, r10, hb10⟩; have A10 : Below w10.heap.size w10 (w10.alloc (.cells #[.int .i64 (jc : Int), .int .i64 (jp : Int), .int .u64 (jm : Int)] 24)) := Below.alloc (Below.refl _ _) (Nat.le_refl _) _; have B10 := hid (gt (gt B9.out hb10) A10); have Y10 := hid (HB.new 24 w10 jc jp jm); have R10 := hid (r10.keep A10); clear hb10 r10 A10 c26)
      | (go_at_call 27; refine (c27.out _ B10.out).mono ?_; rintro e w11 ⟨a11, p11, rfl, r11, hb11⟩; have A11 : Below w11.heap.size w11 (w11.alloc (.cells #[.int .i64 (jc : Int), .int .i64 (jp : Int), .int .u64 (jm : Int)] 29)) := Below.alloc (Below.refl _ _) (Nat.le_refl _) _; have B11 := hid (gt (gt B10.out hb11) A11); have Y11 := Y10.out.keep hb11; have R1 := hid ((R10.out.keep hb11).keep A11); have R2 := hid (r11.keep A11); have hlt := Y11.lt; have hne : ¬ w10.heap.size = w11.heap.size := (by omega); obtain ⟨y0, y1, y2, _, _, _⟩ := Y11.cells; clear hb11 r11 A11 c27 Y10 R10)
      | (go_at_call 12; refine (plain_any a10 L p10 PP DD _ R1.out hJl).mono ?_; rintro e w12 ⟨a12, p12, rfl, r12, hb12⟩; have B12 := hid (gt B11.out hb12); have R12 := hid r12; have R22 := hid (R2.out.keep hb12); clear hb12 r12 y0 y1 y2)
      | (go_at_call 25; refine (same_any a12 a11 L p12 p11 PP DD _ R12.out R22.out hJl).mono ?_; rintro e w13 ⟨rfl, hb13⟩; have B13 := hid (gt B12.out hb13); clear hb13)
      | (go_at_call 28; refine (c28.out _ B13.out).mono ?_; rintro e w14 ⟨rfl, hb14⟩; have B14 := hid (gt B13.out hb14); clear hb14)
      | (go_at_call 29; refine (c29.out _ B14.out).mono ?_; rintro e w15 ⟨rfl, hb15⟩; have B15 := hid (gt B14.out hb15); clear hb15)
      | (go_at_call 8; refine (lv.out _).mono ?_; rintro e w16 ⟨rfl, h9⟩; obtain rfl := h9.symm))
    go_ret
    exact ⟨rfl, B15.out⟩

end Go.Proofs.YtndlogjmnbgegaaDoor
