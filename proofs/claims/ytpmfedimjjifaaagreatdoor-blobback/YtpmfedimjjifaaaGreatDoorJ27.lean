/- The document's Make; no statement of the seat is proved here. -/
import Derived.Test.YtpmfedimjjifaaaGreatDoorJ25
import Derived.Test.YtpmfedimjjifaaaGreatDoorJ26
import Derived.Test.YtpmfedimjjifaaaGreatDoorJ16
namespace Go.Proofs.YtpmfedimjjifaaaGreatDoor
open Go.RowKit Go.Maps
open Bxs (boxL C5)

set_option maxRecDepth 100000 in
theorem rd_four (w : World) (x y z t : Nat) : Rd (w.alloc (.cells #[.int .u8 (x : Int), .int .u8 (y : Int), .int .u8 (z : Int), .int .u8 (t : Int)] 5)) (some ⟨w.heap.size, 0, none⟩) 4 4 [x, y, z, t] := by
  refine ⟨rfl, Nat.le_refl _, fun h => (by cases h), fun _ => ⟨w.heap.size, 0, rfl, fun i hi => ?_⟩⟩
  have hh := heap_alloc_new w (.cells #[.int .u8 (x : Int), .int .u8 (y : Int), .int .u8 (z : Int), .int .u8 (t : Int)] 5)
  obtain rfl | rfl | rfl | rfl : i = 0 ∨ i = 1 ∨ i = 2 ∨ i = 3 := by omega
  · show World.cell? _ ⟨w.heap.size, 0 + 0, none⟩ = _
    unfold World.cell?; rw [hh]; rfl
  · show World.cell? _ ⟨w.heap.size, 0 + 1, none⟩ = _
    unfold World.cell?; rw [hh]; rfl
  · show World.cell? _ ⟨w.heap.size, 0 + 2, none⟩ = _
    unfold World.cell?; rw [hh]; rfl
  · show World.cell? _ ⟨w.heap.size, 0 + 3, none⟩ = _
    unfold World.cell?; rw [hh]; rfl
set_option maxRecDepth 100000 in
theorem rd_fourO (w : World) (o : Obj) (x y z t : Nat) : Rd ((w.alloc o).alloc (.cells #[.int .u8 (x : Int), .int .u8 (y : Int), .int .u8 (z : Int), .int .u8 (t : Int)] 5)) (some ⟨w.heap.size + 1, 0, none⟩) 4 4 [x, y, z, t] := by
  have h := rd_four (w.alloc o) x y z t
  rw [World.size_alloc] at h
  exact h
set_option maxRecDepth 100000 in
theorem ix_ord (r : Bxs.Rect) (k : Nat) (h : k < 4) : ∃ z, (ords r)[k]? = some z ∧ ∀ W, (Instr.index 108 (.agg #[.int .i64 r.lx, .int .i64 r.hx, .int .i64 r.ly, .int .i64 r.hy]) (.int .i64 (k : Int))).run Tryz.prog W = .ok (.int .i64 z) W := by
  obtain rfl | rfl | rfl | rfl : k = 0 ∨ k = 1 ∨ k = 2 ∨ k = 3 := by omega
  · exact ⟨r.lx, rfl, fun W => by kernel_rfl⟩
  · exact ⟨r.hx, rfl, fun W => by kernel_rfl⟩
  · exact ⟨r.ly, rfl, fun W => by kernel_rfl⟩
  · exact ⟨r.hy, rfl, fun W => by kernel_rfl⟩
set_option maxRecDepth 100000 in
theorem cv_u (z : Int) (W : World) : (convert 3 68 (.int .i64 z)).run Tryz.prog W = .ok (.int .u64 ((U z : Nat) : Int)) W := by
  rw [show ((U z : Nat) : Int) = IntKind.u64.wrap z by rw [IntKind.wrap_u64]; unfold U; omega]
  kernel_rfl
set_option maxRecDepth 100000 in
theorem check_light {S : Nat → Prop} {w : World} {s : Sh} (h : In S w s) (hc : checkN s = 0) : (ptsOf s).length ≤ 4000 := by
  rw [check_eq] at hc
  by_cases h1 : 16 < depthN (s.flat 1)
  · rw [if_pos h1] at hc; cases hc
  · rw [if_neg h1] at hc
    by_cases h2 : 4000 < ptsN (s.flat 1) ∨ 1000 < partsN (s.flat 1)
    · rw [if_pos h2] at hc; cases hc
    · exact pts_le h (by omega) (by omega)

set_option maxRecDepth 100000 in
set_option maxHeartbeats 1000000 in
theorem srs_call (n : Int) (w : World) : Calls Tryz.prog 37 #[.int .i64 n] w fun e w' => e = .returned (.bool (okS n)) ∧ w = w' := by
  unfold okS
  by_cases h : -2147483648 ≤ n
  · rw [decide_eq_true h, Bool.true_and]
    go_enter Tryz.func37, Tryz.ntmps37
    go_wp2
    go_ret
    exact ⟨rfl, rfl⟩
  · rw [decide_eq_false h, Bool.false_and]
    go_enter Tryz.func37, Tryz.ntmps37
    go_wp2
    go_ret
    exact ⟨rfl, rfl⟩
set_option maxRecDepth 100000 in
theorem rd_own' {w : World} {B n c : Nat} {ao : Option Addr} {xs : List Nat} (h : w.ownsRow B 5 1 (.slice ao n c) n (bs xs)) : Rd w ao n c xs := by
  obtain ⟨a, k, e, hr⟩ := rd_owned h
  simp only [Value.slice.injEq, true_and] at e
  obtain ⟨rfl, rfl⟩ := e
  exact hr
set_option maxRecDepth 100000 in
set_option maxHeartbeats 8000000 in
theorem rmake_call (s : Sh) (id : Int) (l b : Bool) (w : World) (h : In (fun b => b < w.heap.size) w s) : Calls Tryz.prog 32 #[.agg #[.int .i64 (s).k, .slice (s).xo (s).xn (s).xc, .slice (s).po (s).pn (s).pc], .int .i64 id, .bool l, .bool b] w fun e w' => ∃ ao n cap, e = .returned (.slice ao n cap) ∧ w'.ownsRow w.heap.size 5 1 (.slice ao n cap) n (bs (makeB s id l b)) ∧ Below w.heap.size w w' := by
  have hg : Below w.heap.size w (w.alloc (.cells #[.int .i64 (s).k, .slice (s).xo (s).xn (s).xc, .slice (s).po (s).pn (s).pc] 39)) := ext1 _
  have CK := hid (refCheck_call s _ (h.grow hg))
  have SC := hid (srs_call id)
  have BX := hid (Bx.new w s)
  obtain ⟨x0, x1, x2⟩ := BX.out.cells
  by_cases hc : checkN s = 0
  · cases hs : okS id with
    | false =>
      rw [show makeB s id l b = [] by unfold makeB; rw [if_neg (by rw [hs]; simp)]]
      rw [hc] at CK
      rw [hs] at SC
      clear h hg hc hs
      go_enter Tryz.func32, Tryz.ntmps32
      go_wp2_with (first | (go_at_call 18; refine CK.out.mono ?_; rintro e w3 ⟨rfl, b3⟩; have H3 := hid (gt (ext1 _) b3); clear b3) | (go_at_call 37; refine (SC.out _).mono ?_; rintro e w8 ⟨rfl, rfl⟩))
      go_ret
      exact ⟨none, 0, 0, rfl, World.ownsRow_nil _ _ _ _, H3.out⟩
    | true =>
      have h4 := check_light h hc
      have OC := hid (fun W (hb : Below w.heap.size w W) => Bxs.rof_call s W (h.grow hb) h4)
      have EC := hid (fun W (hb : Below w.heap.size w W) => refEncode_call s l W (h.grow hb))
      have SM := hid (show (encB s l).length ≤ 100000 by unfold encB; rw [if_pos hc, bytesI_length]; exact size_small h hc l)
      have MB := hid (show makeB s id l b = (headB (flagN (boxL (ptsOf s)).n l b) id l ++ (if !(boxL (ptsOf s)).n && b then ordsK (boxL (ptsOf s)) l 4 else [])) ++ encB s l from if_pos ⟨hc, hs⟩)
      rw [hc] at CK
      rw [hs] at SC
      have CV := cv_u id
      have o01 : bits .or .u8 0 1 = 1 := by decide +kernel
      have o16 : bits .or .u8 0 16 = 16 := by decide +kernel
      have o17 : bits .or .u8 1 16 = 17 := by decide +kernel
      have o02 : bits .or .u8 0 2 = 2 := by decide +kernel
      have o03 : bits .or .u8 1 2 = 3 := by decide +kernel
      have n00 : bits .and .u8 0 2 = 0 := by decide +kernel
      have n01 : bits .and .u8 1 2 = 0 := by decide +kernel
      have n16 : bits .and .u8 16 2 = 0 := by decide +kernel
      have n17 : bits .and .u8 17 2 = 0 := by decide +kernel
      have n02 : bits .and .u8 2 2 = 2 := by decide +kernel
      have n03 : bits .and .u8 3 2 = 2 := by decide +kernel
      have t1 := hid trivial
      clear h hg hc hs h4
      generalize boxL (ptsOf s) = R at *
      obtain ⟨rn, r0, r1, r2, r3⟩ := R
      simp only at OC MB
      cases rn <;> cases l <;> cases b
      · rw [show (!false && false) = false from rfl, show flagN false false false = 0 from rfl] at MB
        simp only [Bool.false_eq_true, if_false, List.append_nil] at MB
        go_enter Tryz.func32, Tryz.ntmps32
        go_wp2_with (first | (go_at_call 18; refine CK.out.mono ?_; rintro e w3 ⟨rfl, b3⟩; have H3 := hid (gt (ext1 _) b3); have X3 := hid (BX.out.keep b3); clear x0 x1 x2 b3; obtain ⟨x0, x1, x2⟩ := X3.out.cells) | (go_at_call 37; refine (SC.out _).mono ?_; rintro e w8 ⟨rfl, rfl⟩) | (go_at_call 19; refine (OC.out _ H3.out).mono ?_; rintro e w4 ⟨rfl, b4⟩; have H4 := hid (gt (gt H3.out b4) (ext1 (.cells #[.bool false, .int .i64 r0, .int .i64 r1, .int .i64 r2, .int .i64 r3] 27))); have X4 := hid ((X3.out.keep b4).keep (ext1 (.cells #[.bool false, .int .i64 r0, .int .i64 r1, .int .i64 r2, .int .i64 r3] 27))); have R4 := hid (show C5 (w4.alloc (.cells #[.bool false, .int .i64 r0, .int .i64 r1, .int .i64 r2, .int .i64 r3] 27)) w4.heap.size ⟨false, r0, r1, r2, r3⟩ from C5.of (heap_alloc_new _ _)); clear b4 x0 x1 x2; obtain ⟨x0, x1, x2⟩ := X4.out.cells; obtain ⟨y0, y1, y2, y3, y4⟩ := R4.out) | (go_at_call 38; clear t1; refine (rput_any (some ⟨w4.heap.size + 1, 0, none⟩) 4 4 [71, 80, 0, 0] (U id) 4 4 false ((w4.alloc (.cells #[.bool false, .int .i64 r0, .int .i64 r1, .int .i64 r2, .int .i64 r3] 27)).alloc (.cells #[.int .u8 71, .int .u8 80, .int .u8 0, .int .u8 0] 5)) (rd_fourO w4 _ 71 80 0 _) (by decide) (by decide)).mono ?_; rintro e w5 ⟨q5, rfl, o5, b5⟩; obtain ⟨a5, c5, rfl⟩ := row_form o5; have O5 := hid (own_base o5 (show w.heap.size ≤ _ by have := H4.out.size; simp only [World.size_alloc] at this ⊢; omega)); have H5 := hid (gt (gt H4.out (ext1 (.cells #[.int .u8 71, .int .u8 80, .int .u8 0, .int .u8 0] 5))) b5); have X5 := hid ((X4.out.keep (ext1 (.cells #[.int .u8 71, .int .u8 80, .int .u8 0, .int .u8 0] 5))).keep b5); have R5 := hid ((R4.out.keep (ext1 (.cells #[.int .u8 71, .int .u8 80, .int .u8 0, .int .u8 0] 5))).keep b5); clear o5 b5 x0 x1 x2 y0 y1 y2 y3 y4; obtain ⟨x0, x1, x2⟩ := X5.out.cells; obtain ⟨y0, y1, y2, y3, y4⟩ := R5.out) | (go_at_call 57; refine (EC.out _ H5.out).mono ?_; rintro e w6 ⟨a6, n6, c6, rfl, o6, b6⟩; have O6 := hid (own_below O5.out b6); have l6 := o6.1; rw [bs_length] at l6; have R6 := hid (rd_own' o6); have H6 := hid (gt H5.out b6); clear o6 b6) | ((with_reducible refine here_op 69 ?_); refine wpList_append_rd rfl (.tmp 65) (.tmp 68) rfl w.heap.size _ (4 + 4) (headB 0 id false) rfl O6.out _ _ _ (encB s false) rfl R6.out (by have := SM.out; omega) (by have := H6.out.size; omega) ?_; intro v7 w7 o7 b7; have O7 := hid o7; have H7 := hid (H6.out.trans b7); clear o7 b7))
        go_ret
        obtain ⟨a7, c7, rfl⟩ := row_form O7.out
        exact ⟨_, _, _, rfl, by rw [MB.out]; exact O7.out, H7.out⟩
      · rw [show (!false && true) = true from rfl, show flagN false false true = 2 from rfl] at MB
        simp only [if_true] at MB
        go_enter Tryz.func32, Tryz.ntmps32
        go_wp2_with (first | (go_at_call 18; refine CK.out.mono ?_; rintro e w3 ⟨rfl, b3⟩; have H3 := hid (gt (ext1 _) b3); have X3 := hid (BX.out.keep b3); clear x0 x1 x2 b3; obtain ⟨x0, x1, x2⟩ := X3.out.cells) | (go_at_call 37; refine (SC.out _).mono ?_; rintro e w8 ⟨rfl, rfl⟩) | (go_at_call 19; refine (OC.out _ H3.out).mono ?_; rintro e w4 ⟨rfl, b4⟩; have H4 := hid (gt (gt H3.out b4) (ext1 (.cells #[.bool false, .int .i64 r0, .int .i64 r1, .int .i64 r2, .int .i64 r3] 27))); have X4 := hid ((X3.out.keep b4).keep (ext1 (.cells #[.bool false, .int .i64 r0, .int .i64 r1, .int .i64 r2, .int .i64 r3] 27))); have R4 := hid (show C5 (w4.alloc (.cells #[.bool false, .int .i64 r0, .int .i64 r1, .int .i64 r2, .int .i64 r3] 27)) w4.heap.size ⟨false, r0, r1, r2, r3⟩ from C5.of (heap_alloc_new _ _)); clear b4 x0 x1 x2; obtain ⟨x0, x1, x2⟩ := X4.out.cells; obtain ⟨y0, y1, y2, y3, y4⟩ := R4.out) | (go_at_call 38; clear t1; refine (rput_any (some ⟨w4.heap.size + 1, 0, none⟩) 4 4 [71, 80, 0, 2] (U id) 4 4 false ((w4.alloc (.cells #[.bool false, .int .i64 r0, .int .i64 r1, .int .i64 r2, .int .i64 r3] 27)).alloc (.cells #[.int .u8 71, .int .u8 80, .int .u8 0, .int .u8 2] 5)) (rd_fourO w4 _ 71 80 0 _) (by decide) (by decide)).mono ?_; rintro e w5 ⟨q5, rfl, o5, b5⟩; obtain ⟨a5, c5, rfl⟩ := row_form o5; have O5 := hid (own_base o5 (show w.heap.size ≤ _ by have := H4.out.size; simp only [World.size_alloc] at this ⊢; omega)); have H5 := hid (gt (gt H4.out (ext1 (.cells #[.int .u8 71, .int .u8 80, .int .u8 0, .int .u8 2] 5))) b5); have X5 := hid ((X4.out.keep (ext1 (.cells #[.int .u8 71, .int .u8 80, .int .u8 0, .int .u8 2] 5))).keep b5); have R5 := hid ((R4.out.keep (ext1 (.cells #[.int .u8 71, .int .u8 80, .int .u8 0, .int .u8 2] 5))).keep b5); clear o5 b5 x0 x1 x2 y0 y1 y2 y3 y4; obtain ⟨x0, x1, x2⟩ := X5.out.cells; obtain ⟨y0, y1, y2, y3, y4⟩ := R5.out))
        go_loopw [11, 56] (fun v i W => ∃ (k : Nat) (ao : Option Addr) (c : Nat), k ≤ 4 ∧ i = .int .i64 (k : Int) ∧ v = .slice ao (4 + 4 + 8 * k) c ∧ Hid (W.ownsRow w.heap.size 5 1 (.slice ao (4 + 4 + 8 * k) c) (4 + 4 + 8 * k) (bs (headB 2 id false ++ ordsK ⟨false, r0, r1, r2, r3⟩ false k))) ∧ Hid (Below w.heap.size w W) ∧ Hid (Bx W w.heap.size s)) (fun _ i _ => 4 - (intOf i).toNat)
        case atStart => exact ⟨0, a5, c5, by omega, rfl, rfl, hid (by rw [show ordsK ⟨false, r0, r1, r2, r3⟩ false 0 = [] from rfl, List.append_nil]; exact O5.out), H5, X5⟩
        case round =>
          obtain ⟨k, ao, c, hk, rfl, rfl, hO, hb, hX⟩ := hrel
          clear x0 x1 x2 y0 y1 y2 y3 y4
          obtain ⟨x0, x1, x2⟩ := hX.out.cells
          have hwr := hb.out.size
          by_cases hk4 : k < 4
          · obtain ⟨z, hz, IX⟩ := ix_ord ⟨false, r0, r1, r2, r3⟩ k hk4
            simp only at IX
            have CZ := cv_u z
            have PC := hid (rput_any ao (4 + 4 + 8 * k) c (headB 2 id false ++ ordsK ⟨false, r0, r1, r2, r3⟩ false k) (U z) 8 8 false wr (rd_own' hO.out) (by omega) (by decide))
            have SN := hid (ordsK_snoc ⟨false, r0, r1, r2, r3⟩ false k z hz)
            clear hz
            generalize U z = u at *
            go_wp2_with (go_at_call 38; refine PC.out.mono ?_; rintro e w9 ⟨q9, rfl, o9, b9⟩; obtain ⟨a9, c9, rfl⟩ := row_form o9; have O9 := hid (own_base o9 hwr); have H9 := hid (gt hb.out b9); have X9 := hid (hX.out.keep b9); clear o9 b9)
            go_roundw
            case measure => simp [intOf]; omega
            case rel => exact ⟨k + 1, a9, c9, by omega, by go_num, rfl, hid (by rw [SN.out, ← List.append_assoc]; exact O9.out), H9, X9⟩
          · obtain rfl : k = 4 := by omega
            go_wp2_with (first | (go_at_call 57; refine (EC.out _ hb.out).mono ?_; rintro e w6 ⟨a6, n6, c6, rfl, o6, b6⟩; have O6 := hid (own_below hO.out b6); have l6 := o6.1; rw [bs_length] at l6; have R6 := hid (rd_own' o6); have H6 := hid (gt hb.out b6); clear o6 b6) | ((with_reducible refine here_op 69 ?_); refine wpList_append_rd rfl (.tmp 65) (.tmp 68) rfl w.heap.size _ (4 + 4 + 8 * 4) (headB 2 id false ++ ordsK ⟨false, r0, r1, r2, r3⟩ false 4) rfl O6.out _ _ _ (encB s false) rfl R6.out (by have := SM.out; omega) (by have := H6.out.size; omega) ?_; intro v7 w7 o7 b7; have O7 := hid o7; have H7 := hid (H6.out.trans b7); clear o7 b7))
            go_ret
            obtain ⟨a7, c7, rfl⟩ := row_form O7.out
            exact ⟨_, _, _, rfl, by rw [MB.out]; exact O7.out, H7.out⟩
      · rw [show (!false && false) = false from rfl, show flagN false true false = 1 from rfl] at MB
        simp only [Bool.false_eq_true, if_false, List.append_nil] at MB
        go_enter Tryz.func32, Tryz.ntmps32
        go_wp2_with (first | (go_at_call 18; refine CK.out.mono ?_; rintro e w3 ⟨rfl, b3⟩; have H3 := hid (gt (ext1 _) b3); have X3 := hid (BX.out.keep b3); clear x0 x1 x2 b3; obtain ⟨x0, x1, x2⟩ := X3.out.cells) | (go_at_call 37; refine (SC.out _).mono ?_; rintro e w8 ⟨rfl, rfl⟩) | (go_at_call 19; refine (OC.out _ H3.out).mono ?_; rintro e w4 ⟨rfl, b4⟩; have H4 := hid (gt (gt H3.out b4) (ext1 (.cells #[.bool false, .int .i64 r0, .int .i64 r1, .int .i64 r2, .int .i64 r3] 27))); have X4 := hid ((X3.out.keep b4).keep (ext1 (.cells #[.bool false, .int .i64 r0, .int .i64 r1, .int .i64 r2, .int .i64 r3] 27))); have R4 := hid (show C5 (w4.alloc (.cells #[.bool false, .int .i64 r0, .int .i64 r1, .int .i64 r2, .int .i64 r3] 27)) w4.heap.size ⟨false, r0, r1, r2, r3⟩ from C5.of (heap_alloc_new _ _)); clear b4 x0 x1 x2; obtain ⟨x0, x1, x2⟩ := X4.out.cells; obtain ⟨y0, y1, y2, y3, y4⟩ := R4.out) | (go_at_call 38; clear t1; refine (rput_any (some ⟨w4.heap.size + 1, 0, none⟩) 4 4 [71, 80, 0, 1] (U id) 4 4 true ((w4.alloc (.cells #[.bool false, .int .i64 r0, .int .i64 r1, .int .i64 r2, .int .i64 r3] 27)).alloc (.cells #[.int .u8 71, .int .u8 80, .int .u8 0, .int .u8 1] 5)) (rd_fourO w4 _ 71 80 0 _) (by decide) (by decide)).mono ?_; rintro e w5 ⟨q5, rfl, o5, b5⟩; obtain ⟨a5, c5, rfl⟩ := row_form o5; have O5 := hid (own_base o5 (show w.heap.size ≤ _ by have := H4.out.size; simp only [World.size_alloc] at this ⊢; omega)); have H5 := hid (gt (gt H4.out (ext1 (.cells #[.int .u8 71, .int .u8 80, .int .u8 0, .int .u8 1] 5))) b5); have X5 := hid ((X4.out.keep (ext1 (.cells #[.int .u8 71, .int .u8 80, .int .u8 0, .int .u8 1] 5))).keep b5); have R5 := hid ((R4.out.keep (ext1 (.cells #[.int .u8 71, .int .u8 80, .int .u8 0, .int .u8 1] 5))).keep b5); clear o5 b5 x0 x1 x2 y0 y1 y2 y3 y4; obtain ⟨x0, x1, x2⟩ := X5.out.cells; obtain ⟨y0, y1, y2, y3, y4⟩ := R5.out) | (go_at_call 57; refine (EC.out _ H5.out).mono ?_; rintro e w6 ⟨a6, n6, c6, rfl, o6, b6⟩; have O6 := hid (own_below O5.out b6); have l6 := o6.1; rw [bs_length] at l6; have R6 := hid (rd_own' o6); have H6 := hid (gt H5.out b6); clear o6 b6) | ((with_reducible refine here_op 69 ?_); refine wpList_append_rd rfl (.tmp 65) (.tmp 68) rfl w.heap.size _ (4 + 4) (headB 1 id true) rfl O6.out _ _ _ (encB s true) rfl R6.out (by have := SM.out; omega) (by have := H6.out.size; omega) ?_; intro v7 w7 o7 b7; have O7 := hid o7; have H7 := hid (H6.out.trans b7); clear o7 b7))
        go_ret
        obtain ⟨a7, c7, rfl⟩ := row_form O7.out
        exact ⟨_, _, _, rfl, by rw [MB.out]; exact O7.out, H7.out⟩
      · rw [show (!false && true) = true from rfl, show flagN false true true = 3 from rfl] at MB
        simp only [if_true] at MB
        go_enter Tryz.func32, Tryz.ntmps32
        go_wp2_with (first | (go_at_call 18; refine CK.out.mono ?_; rintro e w3 ⟨rfl, b3⟩; have H3 := hid (gt (ext1 _) b3); have X3 := hid (BX.out.keep b3); clear x0 x1 x2 b3; obtain ⟨x0, x1, x2⟩ := X3.out.cells) | (go_at_call 37; refine (SC.out _).mono ?_; rintro e w8 ⟨rfl, rfl⟩) | (go_at_call 19; refine (OC.out _ H3.out).mono ?_; rintro e w4 ⟨rfl, b4⟩; have H4 := hid (gt (gt H3.out b4) (ext1 (.cells #[.bool false, .int .i64 r0, .int .i64 r1, .int .i64 r2, .int .i64 r3] 27))); have X4 := hid ((X3.out.keep b4).keep (ext1 (.cells #[.bool false, .int .i64 r0, .int .i64 r1, .int .i64 r2, .int .i64 r3] 27))); have R4 := hid (show C5 (w4.alloc (.cells #[.bool false, .int .i64 r0, .int .i64 r1, .int .i64 r2, .int .i64 r3] 27)) w4.heap.size ⟨false, r0, r1, r2, r3⟩ from C5.of (heap_alloc_new _ _)); clear b4 x0 x1 x2; obtain ⟨x0, x1, x2⟩ := X4.out.cells; obtain ⟨y0, y1, y2, y3, y4⟩ := R4.out) | (go_at_call 38; clear t1; refine (rput_any (some ⟨w4.heap.size + 1, 0, none⟩) 4 4 [71, 80, 0, 3] (U id) 4 4 true ((w4.alloc (.cells #[.bool false, .int .i64 r0, .int .i64 r1, .int .i64 r2, .int .i64 r3] 27)).alloc (.cells #[.int .u8 71, .int .u8 80, .int .u8 0, .int .u8 3] 5)) (rd_fourO w4 _ 71 80 0 _) (by decide) (by decide)).mono ?_; rintro e w5 ⟨q5, rfl, o5, b5⟩; obtain ⟨a5, c5, rfl⟩ := row_form o5; have O5 := hid (own_base o5 (show w.heap.size ≤ _ by have := H4.out.size; simp only [World.size_alloc] at this ⊢; omega)); have H5 := hid (gt (gt H4.out (ext1 (.cells #[.int .u8 71, .int .u8 80, .int .u8 0, .int .u8 3] 5))) b5); have X5 := hid ((X4.out.keep (ext1 (.cells #[.int .u8 71, .int .u8 80, .int .u8 0, .int .u8 3] 5))).keep b5); have R5 := hid ((R4.out.keep (ext1 (.cells #[.int .u8 71, .int .u8 80, .int .u8 0, .int .u8 3] 5))).keep b5); clear o5 b5 x0 x1 x2 y0 y1 y2 y3 y4; obtain ⟨x0, x1, x2⟩ := X5.out.cells; obtain ⟨y0, y1, y2, y3, y4⟩ := R5.out))
        go_loopw [11, 56] (fun v i W => ∃ (k : Nat) (ao : Option Addr) (c : Nat), k ≤ 4 ∧ i = .int .i64 (k : Int) ∧ v = .slice ao (4 + 4 + 8 * k) c ∧ Hid (W.ownsRow w.heap.size 5 1 (.slice ao (4 + 4 + 8 * k) c) (4 + 4 + 8 * k) (bs (headB 3 id true ++ ordsK ⟨false, r0, r1, r2, r3⟩ true k))) ∧ Hid (Below w.heap.size w W) ∧ Hid (Bx W w.heap.size s)) (fun _ i _ => 4 - (intOf i).toNat)
        case atStart => exact ⟨0, a5, c5, by omega, rfl, rfl, hid (by rw [show ordsK ⟨false, r0, r1, r2, r3⟩ true 0 = [] from rfl, List.append_nil]; exact O5.out), H5, X5⟩
        case round =>
          obtain ⟨k, ao, c, hk, rfl, rfl, hO, hb, hX⟩ := hrel
          clear x0 x1 x2 y0 y1 y2 y3 y4
          obtain ⟨x0, x1, x2⟩ := hX.out.cells
          have hwr := hb.out.size
          by_cases hk4 : k < 4
          · obtain ⟨z, hz, IX⟩ := ix_ord ⟨false, r0, r1, r2, r3⟩ k hk4
            simp only at IX
            have CZ := cv_u z
            have PC := hid (rput_any ao (4 + 4 + 8 * k) c (headB 3 id true ++ ordsK ⟨false, r0, r1, r2, r3⟩ true k) (U z) 8 8 true wr (rd_own' hO.out) (by omega) (by decide))
            have SN := hid (ordsK_snoc ⟨false, r0, r1, r2, r3⟩ true k z hz)
            clear hz
            generalize U z = u at *
            go_wp2_with (go_at_call 38; refine PC.out.mono ?_; rintro e w9 ⟨q9, rfl, o9, b9⟩; obtain ⟨a9, c9, rfl⟩ := row_form o9; have O9 := hid (own_base o9 hwr); have H9 := hid (gt hb.out b9); have X9 := hid (hX.out.keep b9); clear o9 b9)
            go_roundw
            case measure => simp [intOf]; omega
            case rel => exact ⟨k + 1, a9, c9, by omega, by go_num, rfl, hid (by rw [SN.out, ← List.append_assoc]; exact O9.out), H9, X9⟩
          · obtain rfl : k = 4 := by omega
            go_wp2_with (first | (go_at_call 57; refine (EC.out _ hb.out).mono ?_; rintro e w6 ⟨a6, n6, c6, rfl, o6, b6⟩; have O6 := hid (own_below hO.out b6); have l6 := o6.1; rw [bs_length] at l6; have R6 := hid (rd_own' o6); have H6 := hid (gt hb.out b6); clear o6 b6) | ((with_reducible refine here_op 69 ?_); refine wpList_append_rd rfl (.tmp 65) (.tmp 68) rfl w.heap.size _ (4 + 4 + 8 * 4) (headB 3 id true ++ ordsK ⟨false, r0, r1, r2, r3⟩ true 4) rfl O6.out _ _ _ (encB s true) rfl R6.out (by have := SM.out; omega) (by have := H6.out.size; omega) ?_; intro v7 w7 o7 b7; have O7 := hid o7; have H7 := hid (H6.out.trans b7); clear o7 b7))
            go_ret
            obtain ⟨a7, c7, rfl⟩ := row_form O7.out
            exact ⟨_, _, _, rfl, by rw [MB.out]; exact O7.out, H7.out⟩
      · rw [show (!true && false) = false from rfl, show flagN true false false = 16 from rfl] at MB
        simp only [Bool.false_eq_true, if_false, List.append_nil] at MB
        go_enter Tryz.func32, Tryz.ntmps32
        go_wp2_with (first | (go_at_call 18; refine CK.out.mono ?_; rintro e w3 ⟨rfl, b3⟩; have H3 := hid (gt (ext1 _) b3); have X3 := hid (BX.out.keep b3); clear x0 x1 x2 b3; obtain ⟨x0, x1, x2⟩ := X3.out.cells) | (go_at_call 37; refine (SC.out _).mono ?_; rintro e w8 ⟨rfl, rfl⟩) | (go_at_call 19; refine (OC.out _ H3.out).mono ?_; rintro e w4 ⟨rfl, b4⟩; have H4 := hid (gt (gt H3.out b4) (ext1 (.cells #[.bool true, .int .i64 r0, .int .i64 r1, .int .i64 r2, .int .i64 r3] 27))); have X4 := hid ((X3.out.keep b4).keep (ext1 (.cells #[.bool true, .int .i64 r0, .int .i64 r1, .int .i64 r2, .int .i64 r3] 27))); have R4 := hid (show C5 (w4.alloc (.cells #[.bool true, .int .i64 r0, .int .i64 r1, .int .i64 r2, .int .i64 r3] 27)) w4.heap.size ⟨true, r0, r1, r2, r3⟩ from C5.of (heap_alloc_new _ _)); clear b4 x0 x1 x2; obtain ⟨x0, x1, x2⟩ := X4.out.cells; obtain ⟨y0, y1, y2, y3, y4⟩ := R4.out) | (go_at_call 38; clear t1; refine (rput_any (some ⟨w4.heap.size + 1, 0, none⟩) 4 4 [71, 80, 0, 16] (U id) 4 4 false ((w4.alloc (.cells #[.bool true, .int .i64 r0, .int .i64 r1, .int .i64 r2, .int .i64 r3] 27)).alloc (.cells #[.int .u8 71, .int .u8 80, .int .u8 0, .int .u8 16] 5)) (rd_fourO w4 _ 71 80 0 _) (by decide) (by decide)).mono ?_; rintro e w5 ⟨q5, rfl, o5, b5⟩; obtain ⟨a5, c5, rfl⟩ := row_form o5; have O5 := hid (own_base o5 (show w.heap.size ≤ _ by have := H4.out.size; simp only [World.size_alloc] at this ⊢; omega)); have H5 := hid (gt (gt H4.out (ext1 (.cells #[.int .u8 71, .int .u8 80, .int .u8 0, .int .u8 16] 5))) b5); have X5 := hid ((X4.out.keep (ext1 (.cells #[.int .u8 71, .int .u8 80, .int .u8 0, .int .u8 16] 5))).keep b5); have R5 := hid ((R4.out.keep (ext1 (.cells #[.int .u8 71, .int .u8 80, .int .u8 0, .int .u8 16] 5))).keep b5); clear o5 b5 x0 x1 x2 y0 y1 y2 y3 y4; obtain ⟨x0, x1, x2⟩ := X5.out.cells; obtain ⟨y0, y1, y2, y3, y4⟩ := R5.out) | (go_at_call 57; refine (EC.out _ H5.out).mono ?_; rintro e w6 ⟨a6, n6, c6, rfl, o6, b6⟩; have O6 := hid (own_below O5.out b6); have l6 := o6.1; rw [bs_length] at l6; have R6 := hid (rd_own' o6); have H6 := hid (gt H5.out b6); clear o6 b6) | ((with_reducible refine here_op 69 ?_); refine wpList_append_rd rfl (.tmp 65) (.tmp 68) rfl w.heap.size _ (4 + 4) (headB 16 id false) rfl O6.out _ _ _ (encB s false) rfl R6.out (by have := SM.out; omega) (by have := H6.out.size; omega) ?_; intro v7 w7 o7 b7; have O7 := hid o7; have H7 := hid (H6.out.trans b7); clear o7 b7))
        go_ret
        obtain ⟨a7, c7, rfl⟩ := row_form O7.out
        exact ⟨_, _, _, rfl, by rw [MB.out]; exact O7.out, H7.out⟩
      · rw [show (!true && true) = false from rfl, show flagN true false true = 16 from rfl] at MB
        simp only [Bool.false_eq_true, if_false, List.append_nil] at MB
        go_enter Tryz.func32, Tryz.ntmps32
        go_wp2_with (first | (go_at_call 18; refine CK.out.mono ?_; rintro e w3 ⟨rfl, b3⟩; have H3 := hid (gt (ext1 _) b3); have X3 := hid (BX.out.keep b3); clear x0 x1 x2 b3; obtain ⟨x0, x1, x2⟩ := X3.out.cells) | (go_at_call 37; refine (SC.out _).mono ?_; rintro e w8 ⟨rfl, rfl⟩) | (go_at_call 19; refine (OC.out _ H3.out).mono ?_; rintro e w4 ⟨rfl, b4⟩; have H4 := hid (gt (gt H3.out b4) (ext1 (.cells #[.bool true, .int .i64 r0, .int .i64 r1, .int .i64 r2, .int .i64 r3] 27))); have X4 := hid ((X3.out.keep b4).keep (ext1 (.cells #[.bool true, .int .i64 r0, .int .i64 r1, .int .i64 r2, .int .i64 r3] 27))); have R4 := hid (show C5 (w4.alloc (.cells #[.bool true, .int .i64 r0, .int .i64 r1, .int .i64 r2, .int .i64 r3] 27)) w4.heap.size ⟨true, r0, r1, r2, r3⟩ from C5.of (heap_alloc_new _ _)); clear b4 x0 x1 x2; obtain ⟨x0, x1, x2⟩ := X4.out.cells; obtain ⟨y0, y1, y2, y3, y4⟩ := R4.out) | (go_at_call 38; clear t1; refine (rput_any (some ⟨w4.heap.size + 1, 0, none⟩) 4 4 [71, 80, 0, 16] (U id) 4 4 false ((w4.alloc (.cells #[.bool true, .int .i64 r0, .int .i64 r1, .int .i64 r2, .int .i64 r3] 27)).alloc (.cells #[.int .u8 71, .int .u8 80, .int .u8 0, .int .u8 16] 5)) (rd_fourO w4 _ 71 80 0 _) (by decide) (by decide)).mono ?_; rintro e w5 ⟨q5, rfl, o5, b5⟩; obtain ⟨a5, c5, rfl⟩ := row_form o5; have O5 := hid (own_base o5 (show w.heap.size ≤ _ by have := H4.out.size; simp only [World.size_alloc] at this ⊢; omega)); have H5 := hid (gt (gt H4.out (ext1 (.cells #[.int .u8 71, .int .u8 80, .int .u8 0, .int .u8 16] 5))) b5); have X5 := hid ((X4.out.keep (ext1 (.cells #[.int .u8 71, .int .u8 80, .int .u8 0, .int .u8 16] 5))).keep b5); have R5 := hid ((R4.out.keep (ext1 (.cells #[.int .u8 71, .int .u8 80, .int .u8 0, .int .u8 16] 5))).keep b5); clear o5 b5 x0 x1 x2 y0 y1 y2 y3 y4; obtain ⟨x0, x1, x2⟩ := X5.out.cells; obtain ⟨y0, y1, y2, y3, y4⟩ := R5.out) | (go_at_call 57; refine (EC.out _ H5.out).mono ?_; rintro e w6 ⟨a6, n6, c6, rfl, o6, b6⟩; have O6 := hid (own_below O5.out b6); have l6 := o6.1; rw [bs_length] at l6; have R6 := hid (rd_own' o6); have H6 := hid (gt H5.out b6); clear o6 b6) | ((with_reducible refine here_op 69 ?_); refine wpList_append_rd rfl (.tmp 65) (.tmp 68) rfl w.heap.size _ (4 + 4) (headB 16 id false) rfl O6.out _ _ _ (encB s false) rfl R6.out (by have := SM.out; omega) (by have := H6.out.size; omega) ?_; intro v7 w7 o7 b7; have O7 := hid o7; have H7 := hid (H6.out.trans b7); clear o7 b7))
        go_ret
        obtain ⟨a7, c7, rfl⟩ := row_form O7.out
        exact ⟨_, _, _, rfl, by rw [MB.out]; exact O7.out, H7.out⟩
      · rw [show (!true && false) = false from rfl, show flagN true true false = 17 from rfl] at MB
        simp only [Bool.false_eq_true, if_false, List.append_nil] at MB
        go_enter Tryz.func32, Tryz.ntmps32
        go_wp2_with (first | (go_at_call 18; refine CK.out.mono ?_; rintro e w3 ⟨rfl, b3⟩; have H3 := hid (gt (ext1 _) b3); have X3 := hid (BX.out.keep b3); clear x0 x1 x2 b3; obtain ⟨x0, x1, x2⟩ := X3.out.cells) | (go_at_call 37; refine (SC.out _).mono ?_; rintro e w8 ⟨rfl, rfl⟩) | (go_at_call 19; refine (OC.out _ H3.out).mono ?_; rintro e w4 ⟨rfl, b4⟩; have H4 := hid (gt (gt H3.out b4) (ext1 (.cells #[.bool true, .int .i64 r0, .int .i64 r1, .int .i64 r2, .int .i64 r3] 27))); have X4 := hid ((X3.out.keep b4).keep (ext1 (.cells #[.bool true, .int .i64 r0, .int .i64 r1, .int .i64 r2, .int .i64 r3] 27))); have R4 := hid (show C5 (w4.alloc (.cells #[.bool true, .int .i64 r0, .int .i64 r1, .int .i64 r2, .int .i64 r3] 27)) w4.heap.size ⟨true, r0, r1, r2, r3⟩ from C5.of (heap_alloc_new _ _)); clear b4 x0 x1 x2; obtain ⟨x0, x1, x2⟩ := X4.out.cells; obtain ⟨y0, y1, y2, y3, y4⟩ := R4.out) | (go_at_call 38; clear t1; refine (rput_any (some ⟨w4.heap.size + 1, 0, none⟩) 4 4 [71, 80, 0, 17] (U id) 4 4 true ((w4.alloc (.cells #[.bool true, .int .i64 r0, .int .i64 r1, .int .i64 r2, .int .i64 r3] 27)).alloc (.cells #[.int .u8 71, .int .u8 80, .int .u8 0, .int .u8 17] 5)) (rd_fourO w4 _ 71 80 0 _) (by decide) (by decide)).mono ?_; rintro e w5 ⟨q5, rfl, o5, b5⟩; obtain ⟨a5, c5, rfl⟩ := row_form o5; have O5 := hid (own_base o5 (show w.heap.size ≤ _ by have := H4.out.size; simp only [World.size_alloc] at this ⊢; omega)); have H5 := hid (gt (gt H4.out (ext1 (.cells #[.int .u8 71, .int .u8 80, .int .u8 0, .int .u8 17] 5))) b5); have X5 := hid ((X4.out.keep (ext1 (.cells #[.int .u8 71, .int .u8 80, .int .u8 0, .int .u8 17] 5))).keep b5); have R5 := hid ((R4.out.keep (ext1 (.cells #[.int .u8 71, .int .u8 80, .int .u8 0, .int .u8 17] 5))).keep b5); clear o5 b5 x0 x1 x2 y0 y1 y2 y3 y4; obtain ⟨x0, x1, x2⟩ := X5.out.cells; obtain ⟨y0, y1, y2, y3, y4⟩ := R5.out) | (go_at_call 57; refine (EC.out _ H5.out).mono ?_; rintro e w6 ⟨a6, n6, c6, rfl, o6, b6⟩; have O6 := hid (own_below O5.out b6); have l6 := o6.1; rw [bs_length] at l6; have R6 := hid (rd_own' o6); have H6 := hid (gt H5.out b6); clear o6 b6) | ((with_reducible refine here_op 69 ?_); refine wpList_append_rd rfl (.tmp 65) (.tmp 68) rfl w.heap.size _ (4 + 4) (headB 17 id true) rfl O6.out _ _ _ (encB s true) rfl R6.out (by have := SM.out; omega) (by have := H6.out.size; omega) ?_; intro v7 w7 o7 b7; have O7 := hid o7; have H7 := hid (H6.out.trans b7); clear o7 b7))
        go_ret
        obtain ⟨a7, c7, rfl⟩ := row_form O7.out
        exact ⟨_, _, _, rfl, by rw [MB.out]; exact O7.out, H7.out⟩
      · rw [show (!true && true) = false from rfl, show flagN true true true = 17 from rfl] at MB
        simp only [Bool.false_eq_true, if_false, List.append_nil] at MB
        go_enter Tryz.func32, Tryz.ntmps32
        go_wp2_with (first | (go_at_call 18; refine CK.out.mono ?_; rintro e w3 ⟨rfl, b3⟩; have H3 := hid (gt (ext1 _) b3); have X3 := hid (BX.out.keep b3); clear x0 x1 x2 b3; obtain ⟨x0, x1, x2⟩ := X3.out.cells) | (go_at_call 37; refine (SC.out _).mono ?_; rintro e w8 ⟨rfl, rfl⟩) | (go_at_call 19; refine (OC.out _ H3.out).mono ?_; rintro e w4 ⟨rfl, b4⟩; have H4 := hid (gt (gt H3.out b4) (ext1 (.cells #[.bool true, .int .i64 r0, .int .i64 r1, .int .i64 r2, .int .i64 r3] 27))); have X4 := hid ((X3.out.keep b4).keep (ext1 (.cells #[.bool true, .int .i64 r0, .int .i64 r1, .int .i64 r2, .int .i64 r3] 27))); have R4 := hid (show C5 (w4.alloc (.cells #[.bool true, .int .i64 r0, .int .i64 r1, .int .i64 r2, .int .i64 r3] 27)) w4.heap.size ⟨true, r0, r1, r2, r3⟩ from C5.of (heap_alloc_new _ _)); clear b4 x0 x1 x2; obtain ⟨x0, x1, x2⟩ := X4.out.cells; obtain ⟨y0, y1, y2, y3, y4⟩ := R4.out) | (go_at_call 38; clear t1; refine (rput_any (some ⟨w4.heap.size + 1, 0, none⟩) 4 4 [71, 80, 0, 17] (U id) 4 4 true ((w4.alloc (.cells #[.bool true, .int .i64 r0, .int .i64 r1, .int .i64 r2, .int .i64 r3] 27)).alloc (.cells #[.int .u8 71, .int .u8 80, .int .u8 0, .int .u8 17] 5)) (rd_fourO w4 _ 71 80 0 _) (by decide) (by decide)).mono ?_; rintro e w5 ⟨q5, rfl, o5, b5⟩; obtain ⟨a5, c5, rfl⟩ := row_form o5; have O5 := hid (own_base o5 (show w.heap.size ≤ _ by have := H4.out.size; simp only [World.size_alloc] at this ⊢; omega)); have H5 := hid (gt (gt H4.out (ext1 (.cells #[.int .u8 71, .int .u8 80, .int .u8 0, .int .u8 17] 5))) b5); have X5 := hid ((X4.out.keep (ext1 (.cells #[.int .u8 71, .int .u8 80, .int .u8 0, .int .u8 17] 5))).keep b5); have R5 := hid ((R4.out.keep (ext1 (.cells #[.int .u8 71, .int .u8 80, .int .u8 0, .int .u8 17] 5))).keep b5); clear o5 b5 x0 x1 x2 y0 y1 y2 y3 y4; obtain ⟨x0, x1, x2⟩ := X5.out.cells; obtain ⟨y0, y1, y2, y3, y4⟩ := R5.out) | (go_at_call 57; refine (EC.out _ H5.out).mono ?_; rintro e w6 ⟨a6, n6, c6, rfl, o6, b6⟩; have O6 := hid (own_below O5.out b6); have l6 := o6.1; rw [bs_length] at l6; have R6 := hid (rd_own' o6); have H6 := hid (gt H5.out b6); clear o6 b6) | ((with_reducible refine here_op 69 ?_); refine wpList_append_rd rfl (.tmp 65) (.tmp 68) rfl w.heap.size _ (4 + 4) (headB 17 id true) rfl O6.out _ _ _ (encB s true) rfl R6.out (by have := SM.out; omega) (by have := H6.out.size; omega) ?_; intro v7 w7 o7 b7; have O7 := hid o7; have H7 := hid (H6.out.trans b7); clear o7 b7))
        go_ret
        obtain ⟨a7, c7, rfl⟩ := row_form O7.out
        exact ⟨_, _, _, rfl, by rw [MB.out]; exact O7.out, H7.out⟩
  · rw [show makeB s id l b = [] by unfold makeB; rw [if_neg (fun hh => hc hh.1)]]
    have hc' : (checkN s != 0) = true := by simp [hc]
    generalize checkN s = cc at *
    clear h hg hc
    go_enter Tryz.func32, Tryz.ntmps32
    go_wp2_with (go_at_call 18; refine CK.out.mono ?_; rintro e w3 ⟨rfl, b3⟩; have H3 := hid (gt (ext1 _) b3); clear b3)
    go_ret
    exact ⟨none, 0, 0, rfl, World.ownsRow_nil _ _ _ _, H3.out⟩
end Go.Proofs.YtpmfedimjjifaaaGreatDoor
