/- The law DiskActs returns true and turns nothing that was there, whatever it is called with; the walk alone. -/
import Derived.Test.YtkgenmooepfhjaaFc
namespace Go.Proofs.Ytkgenmooepfhjaa
open Go.RowKit Go.Maps

set_option maxHeartbeats 1000000 in
set_option maxRecDepth 20000 in
/-- A disk that may not be. -/
theorem acts_no (room : Int) (hroom : room < 1 ∨ 32768 < room) (lo : Option Addr) (L C : Nat) (X : Nat → Av) (t0 t1 t2 : Int) (w : World) (h : ActsV w lo L X) :
    Calls Try.prog 3 #[.int .i64 room, .slice lo L C, .agg #[.int .i64 t0, .int .i64 t1, .int .i64 t2]] w fun e w' => e = .returned (.bool true) ∧ Below w.heap.size w w' := by
  obtain ⟨w1, hw1⟩ : ∃ w1, w1 = w.alloc (.cells #[.int .i64 t0, .int .i64 t1, .int .i64 t2] 23) := ⟨_, rfl⟩
  have hb1 : Below w.heap.size w w1 := by rw [hw1]; exact (Below.refl _ _).alloc (Nat.le_refl _) _
  have cl := hid (light_any lo L C X w1 (h.keep hb1))
  have HB1 := hid hb1; have HW1 := hid hw1; have HRM := hid hroom
  clear h hb1 hw1 hroom
  go_enter Try.func3, Try.ntmps3
  go_wp2_with (go_at_call 8; rw [← HW1.out]; refine cl.out.mono ?_; rintro e w2 ⟨r, rfl, _, hb2⟩; replace hb2 := hid hb2; clear cl; cases r)
  · go_wp2_with (go_at_call 9; refine (lives_any _).mono ?_; rintro e w3 ⟨rfl, hb3⟩; replace hb3 := hid hb3)
    go_ret
    exact ⟨rfl, gt (gt HB1.out hb2.out) hb3.out⟩
  · go_wp2_with (first
      | (go_at_call 10; refine (new_no room w2 HRM.out).mono ?_; rintro e wx ⟨rfl, hwx⟩; obtain rfl := hwx.symm)
      | (go_at_call 11; refine (rnew_no room w2 HRM.out).mono ?_; rintro e wx ⟨rfl, hwx⟩; obtain rfl := hwx.symm)
      | (go_at_call 9; refine (lives_any _).mono ?_; rintro e w3 ⟨rfl, hb3⟩; replace hb3 := hid hb3))
    go_ret
    exact ⟨rfl, gt (gt HB1.out hb2.out) hb3.out⟩

set_option maxHeartbeats 8000000 in
set_option maxRecDepth 20000 in
theorem acts_yes (rm : Nat) (hr1 : 1 ≤ rm) (hr2 : rm ≤ 32768) (lo : Option Addr) (L C : Nat) (X : Nat → Av) (t0 t1 t2 : Int) (ht0 : I64 t0) (ht1 : I64 t1) (ht2 : I64 t2) (w : World) (h : ActsV w lo L X) :
    Calls Try.prog 3 #[.int .i64 (rm : Int), .slice lo L C, .agg #[.int .i64 t0, .int .i64 t1, .int .i64 t2]] w fun e w' => e = .returned (.bool true) ∧ Below w.heap.size w w' := by
  obtain ⟨w1, hw1⟩ : ∃ w1, w1 = w.alloc (.cells #[.int .i64 t0, .int .i64 t1, .int .i64 t2] 23) := ⟨_, rfl⟩
  obtain ⟨tb, htb⟩ : ∃ tb, tb = w.heap.size := ⟨_, rfl⟩
  have hb1 : Below w.heap.size w w1 := by rw [hw1]; exact (Below.refl _ _).alloc (Nat.le_refl _) _
  have HT : Hid (w1.cell? ⟨tb, 0, none⟩ = some (.int .i64 t0) ∧ w1.cell? ⟨tb, 1, none⟩ = some (.int .i64 t1) ∧ w1.cell? ⟨tb, 2, none⟩ = some (.int .i64 t2)) := hid (by
    rw [hw1, htb]; refine ⟨?_, ?_, ?_⟩ <;> (rw [World.cell?_alloc_at _ _ _ _ rfl]; rfl))
  have h1 := h.keep hb1
  have cl := hid (light_any lo L C X w1 h1)
  have H1 := hid h1; have HB1 := hid hb1; have HW1 := hid hw1; have HTB := hid htb; have HT0 := hid ht0; have HT1 := hid ht1; have HT2 := hid ht2
  have HTL : Hid (tb < w1.heap.size) := hid (lt_cell HT.out.1)
  clear h h1 hb1 hw1 htb ht0 ht1 ht2
  go_enter Try.func3, Try.ntmps3
  go_wp2_with (go_at_call 8; rw [← HW1.out]; refine cl.out.mono ?_; rintro e w2 ⟨r, rfl, hlt, hb2⟩; replace hb2 := hid hb2; replace hlt := hid hlt; clear cl; cases r)
  · go_wp2_with (go_at_call 9; refine (lives_any _).mono ?_; rintro e w3 ⟨rfl, hb3⟩; replace hb3 := hid hb3)
    go_ret
    exact ⟨rfl, gt (gt HB1.out hb2.out) hb3.out⟩
  · rw [← HTB.out]
    obtain ⟨p, hp⟩ : ∃ p, p = w2.heap.size := ⟨_, rfl⟩
    have c10 := hid (new_yes rm w2 hr1 hr2)
    rw [← hp] at c10
    have HP : Hid (w1.heap.size ≤ p) := hid (by rw [hp]; exact hb2.out.size)
    have HPE := hid hp
    clear hp
    go_wp2_with (first
      | (go_at_call 10; refine c10.out.mono ?_; rintro e w3 ⟨rfl, ⟨P3, hd3, ha3⟩, hb3⟩; clear c10; have HZ3 : Hid (p < w3.heap.size) := hid (p_lt hd3); obtain ⟨r, hr⟩ : ∃ r, r = w3.heap.size := ⟨_, rfl⟩; have c11 := rnew_yes rm w3 hr1 hr2; rw [← hr] at c11; replace c11 := hid c11; replace hd3 := hid hd3; replace ha3 := hid ha3; replace hb3 := hid hb3; replace hr := hid hr)
      | (go_at_call 11; refine c11.out.mono ?_; rintro e w4 ⟨rfl, ⟨R4, hd4, ha4⟩, hb4⟩; clear c11; have zq := hr.out; have zp := HZ3.out; have zw := HP.out; have hpr : Both w1 w4 p r P3 R4 (newD rm) (newD rm) := ⟨hd3.out.later (by rw [← zq]; exact hb4), hd4, by omega, fun h => (by have := all_lt hd3.out h; omega), fun h => ha4 _ h, fun k h1 h2 => ha4 _ h2, fun k hk => (by have := ha3.out k hk; omega), fun k hk => (ha4 _ (hd4.mut hk)).elim, by omega, by omega, (hb2.out.trans (hb3.out.mono zw)).trans (hb4.mono (by omega))⟩; have HPR := hid hpr; clear hpr hd4 ha4 hb4 zq zp zw hd3 ha3 hb3))
    go_loopg [33] L (fun k c W => ∃ (i : Nat) (P : Parts) (R : RParts) (d : DS), i + k = L ∧ c = .int .i64 (i : Int) ∧ Hid (Both w1 W p r P R d d) ∧ Hid (d.ops ≤ i))
    case atStart => exact ⟨0, _, _, _, by omega, rfl, HPR, hid (Nat.le_refl _)⟩
    case round =>
      clear HPR
      obtain ⟨i, P, R, d, hik, rfl, HPR, HOP⟩ := hrel
      have hL100 := (hlt.out trivial).1
      by_cases hiL : i < L
      · obtain ⟨b, off, rfl, hacts⟩ := H1.out (by omega)
        have hiL' : (i : Int) < (L : Int) := by omega
        obtain ⟨c0, c1, c2, c3, c4, c5, c6, _⟩ := (hacts.keep HPR.out.bw) i hiL
        have OK := hid (hacts i hiL).2.2.2.2.2.2.2
        have HKL := hid ((hlt.out trivial).2 i hiL)
        have hbl : b < wr.heap.size := lt_cell c0
        have hbl' : ¬ b = wr.heap.size := by omega
        clear hacts
        obtain ⟨W0, hW0⟩ : ∃ W0, W0 = wr.alloc (.cells #[.int .i64 (X i).k, .int .i64 (X i).f, .int .i64 (X i).a, .int .i64 (X i).n, .int .u8 ((X i).s : Int), .slice (X i).ko (X i).keep.length (X i).kc, .int .i64 (X i).t] 34) := ⟨_, rfl⟩
        have hb0 : Below wr.heap.size wr W0 := by rw [hW0]; exact (Below.refl _ _).alloc (Nat.le_refl _) _
        have CA := hid (act_any w1 W0 p r P R d (X i) (HPR.out.later hb0) (by have := HOP.out; omega) OK.out HKL.out)
        unfold avV at CA
        have HW0 := hid hW0
        clear hW0 hb0
        go_wp2_with (first
          | (go_at_call 12; rw [← HW0.out]; refine CA.out.mono ?_; rintro e w5 ⟨rfl, P5, R5, hb5⟩; replace hb5 := hid hb5; clear CA)
          | (go_at_call 13; refine (alike_any w1 w5 p r P5 R5 _ hb5.out).mono ?_; rintro e w6 ⟨rfl, hb6⟩; replace hb6 := hid hb6))
        go_roundg (gk - 1)
        case measure => omega
        case rel => exact ⟨i + 1, P5, R5, actD d (X i), by omega, by simp, hid (hb5.out.later hb6.out), hid (by have := act_ops d (X i); have := HOP.out; omega)⟩
      · have hiL' : ¬ ((i : Int) < (L : Int)) := by omega
        have y0 := keep_cell HPR.out.bw HT.out.1 HTL.out
        have y1 := keep_cell HPR.out.bw HT.out.2.1 HTL.out
        have y2 := keep_cell HPR.out.bw HT.out.2.2 HTL.out
        by_cases h2 : (1000 : Int) < t2
        · go_wp2_with (go_at_call 9; refine (lives_any _).mono ?_; rintro e w3 ⟨rfl, hb3⟩; replace hb3 := hid hb3)
          go_ret
          exact ⟨rfl, gt HB1.out (HPR.out.bw.trans (hb3.out.mono HPR.out.bw.size))⟩
        · obtain ⟨xs, er, hx⟩ : ∃ xs er, readD d t0 t1 t2 = (xs, er) := ⟨_, _, rfl⟩
          have HX := hid hx
          obtain ⟨xl, hxl⟩ : ∃ xl, xl = xs.length := ⟨_, rfl⟩
          have HXL := hid hxl
          clear hx hxl
          go_wp2_with (first
            | (go_at_call 14; refine (read_x HPR.out.hd HT1.out HT2.out HX.out).mono ?_; rintro e w3 ⟨ro, rc, rfl, hrd, hb3⟩; rw [← HXL.out] at hrd ⊢; have z0 := keep_old hb3 y0; have z1 := keep_old hb3 y1; have z2 := keep_old hb3 y2; have HR3 := hid hrd; have HB3 := hid hb3; clear hrd hb3)
            | (go_at_call 15; refine (rread_x (HPR.out.hr.later HB3.out) HT1.out HT2.out HX.out).mono ?_; rintro e w4 ⟨so, sc, rfl, hrd, hb4⟩; rw [← HXL.out] at hrd ⊢; have cx := cvt' (HR3.out.keep hb4); have cy := cvt' hrd; have HB4 := hid hb4; clear hrd hb4)
            | (go_at_call 9; refine (lives_any _).mono ?_; rintro e w5 ⟨rfl, hb5⟩; replace hb5 := hid hb5))
          go_ret
          exact ⟨rfl, gt HB1.out (HPR.out.bw.trans ((gt HB3.out (gt HB4.out hb5.out)).mono HPR.out.bw.size))⟩

end Go.Proofs.Ytkgenmooepfhjaa
