/- The law DiskCopies returns true and turns nothing that was there, whatever it is called with; the walk alone. -/
import Derived.Test.YtkgenmooepfhjaaFc
import Derived.Test.YtkgenmooepfhjaaEl
namespace Go.Proofs.Ytkgenmooepfhjaa
open Go.RowKit Go.Maps

/-- A disk and the document's, both copied. -/
theorem Both.copied {w1 W w5 w6 : World} {p r s : Nat} {P P' : Parts} {R R' : RParts} {d : DS} (h : Both w1 W p r P R d d) (hd : DiskP w5 W.heap.size P' d) (ha : ∀ k, P'.all k → W.heap.size < k) (hb5 : Below W.heap.size W w5)
    (hr : RefP w6 s R' d) (hR : ∀ k, R'.all k → R.all k ∨ w5.heap.size ≤ k) (hm : ∀ k, R'.mut k → w5.heap.size ≤ k) (hs : w5.heap.size ≤ s) (hb6 : Below w5.heap.size w5 w6) : Both W w6 W.heap.size s P' R' d d := by
  have hz := hb5.size
  have hq := p_lt hd
  refine ⟨hd.later hb6, hr, by omega, fun hk => ?_, fun hk => ?_, fun k hk hk' => ?_, fun k hk => Nat.le_of_lt (ha k hk), fun k hk => Nat.le_trans hz (hm k hk), Nat.le_refl _, by omega, hb5.trans (hb6.mono hz)⟩
  · have := all_lt hd hk; omega
  · rcases hR _ hk with h1 | h1
    · have := h.hr.lt h1; omega
    · omega
  · rcases hR _ hk' with h1 | h1
    · have := h.hr.lt h1; have := ha k hk; omega
    · have := all_lt hd hk; omega

set_option maxHeartbeats 8000000 in
set_option maxRecDepth 20000 in
theorem copies_walk (lo : Option Addr) (L C : Nat) (X : Nat → Av) (mo : Option Addr) (ML MC : Nat) (Y : Nat → Av) (w : World) (h : ActsV w lo L X) (h2 : ActsV w mo ML Y) :
    Calls Try.prog 6 #[.slice lo L C, .slice mo ML MC] w fun e w' => e = .returned (.bool true) ∧ Below w.heap.size w w' := by
  have cl := hid (light_any lo L C X w h)
  have H1 := hid h; have H2 := hid h2
  clear h h2
  go_enter Try.func6, Try.ntmps6
  go_wp2_with (first
    | (go_at_call 8; refine cl.out.mono ?_; rintro e w2 ⟨r, rfl, hlt, hb2⟩; have cl2 := hid (light_any mo ML MC Y w2 (H2.out.keep hb2)); replace hb2 := hid hb2; replace hlt := hid hlt; clear cl; cases r)
    | (go_at_call 8; refine cl2.out.mono ?_; rintro e w3 ⟨r, rfl, hlu, hb3⟩; replace hb3 := hid hb3; replace hlu := hid hlu; clear cl2; cases r))
  · go_wp2_with (go_at_call 9; refine (lives_any _).mono ?_; rintro e w3 ⟨rfl, hb3⟩; replace hb3 := hid hb3)
    go_ret
    exact ⟨rfl, gt hb2.out hb3.out⟩
  · go_wp2_with (go_at_call 9; refine (lives_any _).mono ?_; rintro e w4 ⟨rfl, hb4⟩; replace hb4 := hid hb4)
    go_ret
    exact ⟨rfl, gt (gt hb2.out hb3.out) hb4.out⟩
  · have HBW := hid (gt hb2.out hb3.out)
    obtain ⟨p, hp⟩ : ∃ p, p = w3.heap.size := ⟨_, rfl⟩
    have c10 := hid (new_yes 60 w3 (by omega) (by omega))
    rw [← hp] at c10
    have HP : Hid (w.heap.size ≤ p) := hid (by rw [hp]; exact HBW.out.size)
    have HPE := hid hp
    clear hp hb2 hb3
    go_wp2_with (first
      | (go_at_call 10; refine c10.out.mono ?_; rintro e w4 ⟨rfl, ⟨P4, hd4, ha4⟩, hb4⟩; clear c10; have HZ4 : Hid (p < w4.heap.size) := hid (p_lt hd4); obtain ⟨r, hr⟩ : ∃ r, r = w4.heap.size := ⟨_, rfl⟩; have c11 := rnew_yes 60 w4 (by omega) (by omega); rw [← hr] at c11; replace c11 := hid c11; replace hd4 := hid hd4; replace ha4 := hid ha4; replace hb4 := hid hb4; replace hr := hid hr)
      | (go_at_call 11; refine c11.out.mono ?_; rintro e w5 ⟨rfl, ⟨R5, hd5, ha5⟩, hb5⟩; clear c11; have zq := hr.out; have zp := HZ4.out; have zw := HP.out; have hpr : Both w w5 p r P4 R5 (newD 60) (newD 60) := ⟨hd4.out.later (by rw [← zq]; exact hb5), hd5, by omega, fun h => (by have := all_lt hd4.out h; omega), fun h => ha5 _ h, fun k h1 h2 => ha5 _ h2, fun k hk => (by have := ha4.out k hk; omega), fun k hk => (ha5 _ (hd5.mut hk)).elim, by omega, by omega, (HBW.out.trans (hb4.out.mono zw)).trans (hb5.mono (by omega))⟩; have HPR := hid hpr; clear hpr hd5 ha5 hb5 zq zp zw hd4 ha4 hb4))
    go_loopg [28] L (fun k c W => ∃ (i : Nat) (P : Parts) (R : RParts) (d : DS), i + k = L ∧ c = .int .i64 (i : Int) ∧ Hid (Both w W p r P R d d) ∧ Hid (d.ops ≤ i))
    case atStart => exact ⟨0, _, _, _, by omega, rfl, HPR, hid (Nat.le_refl _)⟩
    case round =>
      clear HPR
      obtain ⟨i, P, R, d, hik, rfl, HPR, HOP⟩ := hrel
      have hL100 := (hlt.out trivial).1
      by_cases hiL : i < L
      · obtain ⟨b, off, rfl, hacts⟩ := H1.out (by omega)
        have hiL' : (i : Int) < (L : Int) := by omega
        obtain ⟨c0, c1, c2, c3, c4, c5, c6, _⟩ := (hacts.keep HPR.out.bw) i hiL
        have OK := hid (hacts i hiL).2.2.2.2.2.2.2
        have HKL := hid ((hlt.out trivial).2 i hiL)
        have hbl : b < wr.heap.size := lt_cell c0
        have hbl' : ¬ b = wr.heap.size := by omega
        clear hacts
        obtain ⟨W0, hW0⟩ : ∃ W0, W0 = wr.alloc (.cells #[.int .i64 (X i).k, .int .i64 (X i).f, .int .i64 (X i).a, .int .i64 (X i).n, .int .u8 ((X i).s : Int), .slice (X i).ko (X i).keep.length (X i).kc, .int .i64 (X i).t] 34) := ⟨_, rfl⟩
        have hb0 : Below wr.heap.size wr W0 := by rw [hW0]; exact (Below.refl _ _).alloc (Nat.le_refl _) _
        have CA := hid (act_any w W0 p r P R d (X i) (HPR.out.later hb0) (by have := HOP.out; omega) OK.out HKL.out)
        unfold avV at CA
        have HW0 := hid hW0
        clear hW0 hb0
        go_wp2_with (go_at_call 12; rw [← HW0.out]; refine CA.out.mono ?_; rintro e w5 ⟨rfl, P5, R5, hb5⟩; replace hb5 := hid hb5; clear CA)
        go_roundg (gk - 1)
        case measure => omega
        case rel => exact ⟨i + 1, P5, R5, actD d (X i), by omega, by simp, hb5, hid (by have := act_ops d (X i); have := HOP.out; omega)⟩
      · have hiL' : ¬ ((i : Int) < (L : Int)) := by omega
        obtain ⟨q, hq⟩ : ∃ q, q = wr.heap.size := ⟨_, rfl⟩
        have c20 := hid (copy_call p P d wr HPR.out.hd)
        rw [← hq] at c20
        have HQE := hid hq
        clear hq
        go_wp2_with (first
          | (go_at_call 20; refine c20.out.mono ?_; rintro e w5 ⟨rfl, ⟨P5, hd5, ha5⟩, hb5⟩; clear c20; have c28 := hid (rcopy_call r R d w5 (HPR.out.hr.later (by rw [← HQE.out]; exact hb5))); replace hd5 := hid hd5; replace ha5 := hid ha5; replace hb5 := hid hb5)
          | (go_at_call 28; refine c28.out.mono ?_; rintro e w6 ⟨s, R6, rfl, hr6, ha6, hm6, hs6, hb6⟩; clear c28; have HB2 : Hid (Both wr w6 q s P5 R6 d d) := hid (by have q1 := hd5.out; have q2 := ha5.out; have q3 := hb5.out; rw [HQE.out] at q1 q2 q3 ⊢; exact HPR.out.copied q1 q2 q3 hr6 ha6 hm6 hs6 hb6); clear hr6 ha6 hm6 hs6 hb6 hd5 ha5 hb5))
        obtain ⟨Wm, hWm⟩ : ∃ Wm, Wm = wr := ⟨_, rfl⟩
        rw [← hWm] at HB2 HPR
        clear hWm
        go_loopg [43] ML (fun k c W => ∃ (j : Nat) (Q : Parts) (S : RParts) (e : DS), j + k = ML ∧ c = .int .i64 (j : Int) ∧ Hid (Both Wm W q s Q S e e) ∧ Hid (e.ops ≤ L + j))
        case atStart => exact ⟨0, _, _, _, by omega, rfl, HB2, hid (by have := HOP.out; omega)⟩
        case round =>
          clear HB2
          obtain ⟨j, Q, S, e, hjk, rfl, HB2, HOP2⟩ := hrel
          have hM100 := (hlu.out trivial).1
          by_cases hjL : j < ML
          · obtain ⟨b, off, rfl, hacts⟩ := H2.out (by omega)
            have hjL' : (j : Int) < (ML : Int) := by omega
            have hbw := HPR.out.bw.trans (HB2.out.bw.mono HPR.out.bw.size)
            obtain ⟨c0, c1, c2, c3, c4, c5, c6, _⟩ := (hacts.keep hbw) j hjL
            have OK := hid ((hacts j hjL).2.2.2.2.2.2.2.later HPR.out.bw)
            have HKL := hid ((hlu.out trivial).2 j hjL)
            have hbl : b < wr.heap.size := lt_cell c0
            have hbl' : ¬ b = wr.heap.size := by omega
            clear hacts hbw
            obtain ⟨W0, hW0⟩ : ∃ W0, W0 = wr.alloc (.cells #[.int .i64 (Y j).k, .int .i64 (Y j).f, .int .i64 (Y j).a, .int .i64 (Y j).n, .int .u8 ((Y j).s : Int), .slice (Y j).ko (Y j).keep.length (Y j).kc, .int .i64 (Y j).t] 34) := ⟨_, rfl⟩
            have hb0 : Below wr.heap.size wr W0 := by rw [hW0]; exact (Below.refl _ _).alloc (Nat.le_refl _) _
            have CA := hid (act_any Wm W0 q s Q S e (Y j) (HB2.out.later hb0) (by have := HOP2.out; omega) OK.out HKL.out)
            unfold avV at CA
            have HW0 := hid hW0
            clear hW0 hb0
            go_wp2_with (go_at_call 12; rw [← HW0.out]; refine CA.out.mono ?_; rintro e w5 ⟨rfl, P5, R5, hb5⟩; replace hb5 := hid hb5; clear CA)
            go_roundg (gk - 1)
            case measure => omega
            case rel => exact ⟨j + 1, P5, R5, _, by omega, by simp, hb5, hid (by have := act_ops e (Y j); have := HOP2.out; omega)⟩
          · have hjL' : ¬ ((j : Int) < (ML : Int)) := by omega
            have C1 := hid (alike_any w wr p r P R d (HPR.out.later HB2.out.bw))
            go_wp2_with (first
              | (go_at_call 13; refine C1.out.mono ?_; rintro e w7 ⟨rfl, hb7⟩; have C2 := hid (alike_any Wm w7 q s Q S _ (HB2.out.later hb7)); replace hb7 := hid hb7; clear C1)
              | (go_at_call 13; refine C2.out.mono ?_; rintro e w8 ⟨rfl, hb8⟩; replace hb8 := hid hb8; clear C2)
              | (go_at_call 9; refine (lives_any _).mono ?_; rintro e w9 ⟨rfl, hb9⟩; replace hb9 := hid hb9))
            go_ret
            exact ⟨rfl, HPR.out.bw.trans ((gt HB2.out.bw (gt hb7.out (gt hb8.out hb9.out))).mono HPR.out.bw.size)⟩

end Go.Proofs.Ytkgenmooepfhjaa
