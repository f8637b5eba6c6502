/- The law CacheCopies returns true and turns nothing that was there, whatever it is called with; the walk alone. -/
import Derived.Test.YtebjjibgkjgpgaaSd
namespace Go.Proofs.Ytebjjibgkjgpgaa
open Go.RowKit Go.Maps

/-- Copies of both. -/
theorem both_copy {W1 w2 w3 : World} {c2 m2 : Nat} {C2 : Parts} {R2 : RParts} {s : CS} (h1 : CP w2 c2 C2 s) (h2 : ∀ k, C2.S c2 k → W1.heap.size ≤ k) (h3 : Below W1.heap.size W1 w2) (h4 : RP w3 m2 R2 s) (h5 : ∀ k, R2.S m2 k → w2.heap.size ≤ k) (h6 : Below w2.heap.size w2 w3) : Both W1 w3 c2 m2 C2 R2 s s :=
  ⟨h1.later h6, h4, h2, fun k hk => by have := h5 k hk; have := h3.size; omega, gt h3 h6⟩

set_option maxHeartbeats 1000000 in
set_option maxRecDepth 20000 in
theorem copies_long (lo mo : Option Addr) (L M C D : Nat) (w : World) (hL : 100 < L ∨ 100 < M) :
    Calls Try.prog 6 #[.slice lo L C, .slice mo M D] w fun e w' => e = .returned (.bool true) ∧ Below w.heap.size w w' := by
  by_cases h1 : 100 < L
  · have g1 : (100 : Int) < (L : Int) := by omega
    clear hL
    go_enter Try.func6, Try.ntmps6
    go_wp2_with (first
      | (go_at_call 9; refine (new_yes 4 w (by omega) (by omega)).mono ?_; rintro e w1 ⟨c, rfl, C1, hc, _, hn, hb⟩; have HB := hid hb; clear hc hn hb)
      | (go_at_call 10; refine (rnew_yes 4 w1 (by omega) (by omega)).mono ?_; rintro e w2 ⟨m, rfl, R1, hr, hn, hb, _⟩; have HB2 := hid hb; clear hr hn hb)
      | (go_at_call 8; refine (lives_any _).mono ?_; rintro e w3 ⟨rfl, hb3⟩; replace hb3 := hid hb3))
    go_ret
    exact ⟨rfl, gt HB.out (gt HB2.out hb3.out)⟩
  · have g1 : ¬ (100 : Int) < (L : Int) := by omega
    have g2 : (100 : Int) < (M : Int) := by omega
    clear hL
    go_enter Try.func6, Try.ntmps6
    go_wp2_with (first
      | (go_at_call 9; refine (new_yes 4 w (by omega) (by omega)).mono ?_; rintro e w1 ⟨c, rfl, C1, hc, _, hn, hb⟩; have HB := hid hb; clear hc hn hb)
      | (go_at_call 10; refine (rnew_yes 4 w1 (by omega) (by omega)).mono ?_; rintro e w2 ⟨m, rfl, R1, hr, hn, hb, _⟩; have HB2 := hid hb; clear hr hn hb)
      | (go_at_call 8; refine (lives_any _).mono ?_; rintro e w3 ⟨rfl, hb3⟩; replace hb3 := hid hb3))
    go_ret
    exact ⟨rfl, gt HB.out (gt HB2.out hb3.out)⟩

set_option maxHeartbeats 8000000 in
set_option maxRecDepth 20000 in
theorem copies_short (lo mo : Option Addr) (L M C D : Nat) (X Y : Nat → Av) (w : World) (h : ActsV w lo L X) (hy : ActsV w mo M Y) (hL : L ≤ 100) (hM : M ≤ 100) :
    Calls Try.prog 6 #[.slice lo L C, .slice mo M D] w fun e w' => e = .returned (.bool true) ∧ Below w.heap.size w w' := by
  have g1 : ¬ (100 : Int) < (L : Int) := by omega
  have g2 : ¬ (100 : Int) < (M : Int) := by omega
  have H := hid h; have HY := hid hy
  clear h hy
  go_enter Try.func6, Try.ntmps6
  go_wp2_with (first
    | (go_at_call 9; refine (new_yes 4 w (by omega) (by omega)).mono ?_; rintro e w1 ⟨c, rfl, C1, hc, _, hn, hb⟩; have HC := hid hc; have HN := hid hn; have HB := hid hb; clear hc hn hb)
    | (go_at_call 10; refine (rnew_yes 4 w1 (by omega) (by omega)).mono ?_; rintro e w2 ⟨m, rfl, R1, hr, hn, hb, _⟩; have HPR := hid (both_new (Below.refl _ w) HC.out HN.out HB.out hr hn hb); clear hr hn hb HC HN HB))
  go_loopg [34] L (fun k v W => ∃ (i : Nat) (C : Parts) (R : RParts) (s : CS), i + k = L ∧ v = .int .i64 (i : Int) ∧ Hid (Both w W c m C R s s) ∧ Hid (OkS i s))
  case atStart => exact ⟨0, _, _, _, by omega, rfl, HPR, hid (ok_new 4)⟩
  case round =>
    clear HPR
    obtain ⟨i, C2, R2, s, hik, rfl, HPR, HOK⟩ := hrel
    by_cases hiL : i < L
    · obtain ⟨b, off, rfl, hacts⟩ := H.out (by omega)
      have hiL' : (i : Int) < (L : Int) := by omega
      obtain ⟨c0, c1, c2, c3, ok⟩ := keep_acts HPR.out.bl hacts i hiL
      have OK := hid ok
      have hbl : b < wr.heap.size := lt_cell c0
      have hbl' : ¬ b = wr.heap.size := by omega
      clear hacts ok
      obtain ⟨W0, hW0⟩ : ∃ W0, W0 = wr.alloc (.cells #[.int .i64 (X i).k, .int .i64 (X i).p, .int .u8 ((X i).s : Int), .bool (X i).sh] 29) := ⟨_, rfl⟩
      have hb0 : Below wr.heap.size wr W0 := by rw [hW0]; exact (Below.refl _ _).alloc (Nat.le_refl _) _
      have CA := hid (act_any w W0 c m C2 R2 s s (X i) (HPR.out.later hb0) HPR.out.cp.pg (HOK.out.up (by omega)) (HOK.out.up (by omega)) OK.out)
      have HW0 := hid hW0
      clear hW0 hb0
      go_wp2_with (go_at_call 11; rw [← HW0.out]; refine CA.out.mono ?_; rintro e w5 ⟨v, rfl, hv, C5, R5, hb5, kb5⟩; replace hb5 := hid hb5; clear CA kb5 hv)
      go_roundg (gk - 1)
      case measure => omega
      case rel => exact ⟨i + 1, C5, R5, s.did (X i), by omega, by simp, hb5, hid (HOK.out.did (X i))⟩
    · have hiL' : ¬ ((i : Int) < (L : Int)) := by omega
      obtain ⟨wm, hwm⟩ : ∃ x, x = wr := ⟨_, rfl⟩
      subst hwm
      have CC := hid (copy_call c C2 s wm HPR.out.cp (by rw [HPR.out.cp.klen]; have := HOK.out.len; omega))
      go_wp2_with (first
        | (go_at_call 21; refine CC.out.mono ?_; rintro e w2 ⟨c2, rfl, C3, hc, hn, _, hb⟩; have HC := hid hc; have HN := hid hn; have HB := hid hb; have CR := hid (rcopy_call m R2 s w2 (HPR.out.rp.later hb) (by rw [← HPR.out.rp.len]; have := HOK.out.len; omega)); clear hc hn hb CC)
        | (go_at_call 22; refine CR.out.mono ?_; rintro e w3 ⟨m2, rfl, R3, hr, hn, _, hb⟩; have HQ := hid (both_copy HC.out HN.out HB.out hr hn hb); clear hr hn hb HC HN HB CR))
      go_loopg [49] M (fun k v W => ∃ (j : Nat) (C : Parts) (R : RParts) (s : CS), j + k = M ∧ v = .int .i64 (j : Int) ∧ Hid (Both wm W c2 m2 C R s s) ∧ Hid (OkS (L + j) s))
      case atStart => exact ⟨0, _, _, _, by omega, rfl, HQ, hid (HOK.out.up (by omega))⟩
      case round =>
        clear HQ
        obtain ⟨j, C4, R4, t, hjk, rfl, HQ, HOT⟩ := hrel
        by_cases hjM : j < M
        · obtain ⟨b, off, rfl, hacts⟩ := HY.out (by omega)
          have hjM' : (j : Int) < (M : Int) := by omega
          obtain ⟨c0, c1, c2', c3, ok⟩ := keep_acts (gt HPR.out.bl HQ.out.bl) hacts j hjM
          have OK := hid ok
          have hbl : b < wr.heap.size := lt_cell c0
          have hbl' : ¬ b = wr.heap.size := by omega
          clear hacts ok
          obtain ⟨W0, hW0⟩ : ∃ W0, W0 = wr.alloc (.cells #[.int .i64 (Y j).k, .int .i64 (Y j).p, .int .u8 ((Y j).s : Int), .bool (Y j).sh] 29) := ⟨_, rfl⟩
          have hb0 : Below wr.heap.size wr W0 := by rw [hW0]; exact (Below.refl _ _).alloc (Nat.le_refl _) _
          have CA := hid (act_any wm W0 c2 m2 C4 R4 t t (Y j) (HQ.out.later hb0) HQ.out.cp.pg (HOT.out.up (by omega)) (HOT.out.up (by omega)) OK.out)
          have HW0 := hid hW0
          clear hW0 hb0
          go_wp2_with (go_at_call 11; rw [← HW0.out]; refine CA.out.mono ?_; rintro e w5 ⟨v, rfl, hv, C5, R5, hb5, kb5⟩; obtain rfl := hv rfl; replace hb5 := hid hb5; clear CA kb5)
          go_roundg (gk - 1)
          case measure => omega
          case rel => exact ⟨j + 1, C5, R5, t.did (Y j), by omega, by simp, hb5, hid (HOT.out.did (Y j))⟩
        · have hjM' : ¬ ((j : Int) < (M : Int)) := by omega
          have A1 := hid (alike_any w wr c m C2 R2 s 1 (HPR.out.later HQ.out.bl) (HOK.out.up (by omega)) ⟨by omega, by omega⟩)
          have A2 := hid (fun w' (hb : Below wr.heap.size wr w') => alike_any wm w' c2 m2 C4 R4 t 1 (HQ.out.later hb) (HOT.out.up (by omega)) ⟨by omega, by omega⟩)
          go_wp2_with (first
            | (go_at_call 12; refine A1.out.mono ?_; rintro e w6 ⟨rfl, hb6⟩; replace hb6 := hid hb6; clear A1)
            | (go_at_call 12; refine (A2.out w6 hb6.out).mono ?_; rintro e w7 ⟨rfl, hb7⟩; replace hb7 := hid hb7)
            | (go_at_call 8; refine (lives_any _).mono ?_; rintro e w8 ⟨rfl, hb8⟩; replace hb8 := hid hb8))
          go_ret
          exact ⟨rfl, gt HPR.out.bl (gt HQ.out.bl (gt hb6.out (gt hb7.out hb8.out)))⟩

theorem copies_any (lo mo : Option Addr) (L M C D : Nat) (X Y : Nat → Av) (w : World) (h : ActsV w lo L X) (hy : ActsV w mo M Y) :
    Calls Try.prog 6 #[.slice lo L C, .slice mo M D] w fun e w' => e = .returned (.bool true) ∧ Below w.heap.size w w' := by
  by_cases hL : 100 < L ∨ 100 < M
  · exact copies_long lo mo L M C D w hL
  · exact copies_short lo mo L M C D X Y w h hy (by omega) (by omega)

end Go.Proofs.Ytebjjibgkjgpgaa
