/- The law JournalBack, walked; no statement of the seat is proved here. -/
import Derived.Test.YtndlogjmnbgegaaDoorIa
import Derived.Test.YtndlogjmnbgegaaDoorHd
namespace Go.Proofs.YtndlogjmnbgegaaDoor
open Go.RowKit

theorem Seeds.keep {w w' : World} {lo : Option Addr} {L : Nat} {X : Nat → Int × Nat × Bool} (h : Seeds w lo L X) (hb : Below w.heap.size w w') : Seeds w' lo L X := by
  intro hL
  obtain ⟨b, off, e, hc⟩ := h hL
  refine ⟨b, off, e, fun i hi => ?_⟩
  obtain ⟨h0, h1, h2, h3⟩ := hc i hi
  exact ⟨keep_old hb h0, keep_old hb h1, keep_old hb h2, h3⟩

theorem Seeds.bytes {w : World} {lo : Option Addr} {L : Nat} {X : Nat → Int × Nat × Bool} (h : Seeds w lo L X) : ∀ j, j < L → ∀ x ∈ seedD (X j), x < 256 := by
  intro j hj x hx
  obtain ⟨b, off, e, hc⟩ := h (by omega)
  have := List.eq_of_mem_replicate hx
  have := (hc j hj).2.2.2.1
  omega

set_option maxHeartbeats 1000000 in
theorem back_long (c pg : Int) (m : Nat) (lo : Option Addr) (L C : Nat) (mo : Option Addr) (mn mc : Nat) (w : World) (h : 20 < L ∨ 1000 < mn) :
    Calls Tryd.prog 5 #[.agg #[.int .i64 c, .int .i64 pg, .int .u64 (m : Int)], .slice lo L C, .slice mo mn mc] w fun e w' => e = .returned (.bool true) ∧ Below w.heap.size w w' := by
  have lv := hid lives_any
  by_cases h1 : (20 : Int) < (L : Int)
  · clear h
    go_enter Tryd.func5, Tryd.ntmps5
    go_wp2_with (go_at_call 8; refine (lv.out _).mono ?_; rintro e w3 ⟨rfl, h3⟩; obtain rfl := h3.symm)
    go_ret
    exact ⟨rfl, Below.alloc (Below.refl _ _) (Nat.le_refl _) _⟩
  · have h2 : (1000 : Int) < (mn : Int) := by omega
    clear h
    go_enter Tryd.func5, Tryd.ntmps5
    go_wp2_with (go_at_call 8; refine (lv.out _).mono ?_; rintro e w3 ⟨rfl, h3⟩; obtain rfl := h3.symm)
    go_ret
    exact ⟨rfl, Below.alloc (Below.refl _ _) (Nat.le_refl _) _⟩

set_option maxHeartbeats 8000000 in
set_option maxRecDepth 20000 in
theorem back_law (c pg : Int) (m : Nat) (lo : Option Addr) (L C : Nat) (X : Nat → Int × Nat × Bool) (mo : Option Addr) (mn mc : Nat) (ms : List Nat) (w : World) (hT : Tab w) (hs : Seeds w lo L X) (hm : Rd w mo mn mc ms) (hmx : ∀ x ∈ ms, x < 256) (hL : L ≤ 20) (hmn : mn ≤ 1000) (hm64 : m < 18446744073709551616) :
    Calls Tryd.prog 5 #[.agg #[.int .i64 c, .int .i64 pg, .int .u64 (m : Int)], .slice lo L C, .slice mo mn mc] w fun e w' => e = .returned (.bool true) ∧ Below w.heap.size w w' := by
  have lv := hid lives_any
  have g1 : ¬ (20 : Int) < (L : Int) := by omega
  have g2 : ¬ (1000 : Int) < (mn : Int) := by omega
  have hdb := hid hs.bytes
  have A0 : Below w.heap.size w (w.alloc (.cells #[.int .i64 c, .int .i64 pg, .int .u64 (m : Int)] 24)) := Below.alloc (Below.refl _ _) (Nat.le_refl _) _
  have cr := hid (records_any lo L C X _ (hs.keep A0) hL)
  have q0 := hid (HB.new 24 w c pg m)
  have hT' := hid hT
  have hm' := hid hm
  have hmx' := hid hmx
  have A0' := hid A0
  obtain ⟨P, hP⟩ : ∃ P : Nat → Int, P = fun i => (X i).1 := ⟨_, rfl⟩
  obtain ⟨D, hD⟩ : ∃ D : Nat → List Nat, D = fun i => seedD (X i) := ⟨_, rfl⟩
  rw [← hP, ← hD] at cr
  have hdb2 : Hid (∀ j, j < L → ∀ x ∈ D j, x < 256) := hid (by rw [hD]; exact hdb.out)
  have t1 : Hid True := hid trivial
  have t2 : Hid True := hid trivial
  clear hT hs hm hmx A0 hP hD hdb
  cases hG : goodL c pg L P D with
  | false =>
    have hG' := hid hG
    clear hG
    go_enter Tryd.func5, Tryd.ntmps5
    go_wp2_with (first
      | (go_at_call 9; refine cr.out.mono ?_; rintro e w1 ⟨ao, cap, rfl, hr, hb1⟩; have R1 := hid hr; have Q1 := hid (q0.out.keep hb1); have B1 := hid (gt A0'.out hb1); obtain ⟨a0, a1, a2, _, _, _⟩ := Q1.out.cells; clear hr hb1)
      | (go_at_call 17; refine (good_any c pg m ao L cap P D _ R1.out (by omega)).mono ?_; rw [hG'.out]; rintro e w2 ⟨rfl, hb2⟩; have R2 := hid (R1.out.keep hb2); have Q2 := hid (Q1.out.keep hb2); have B2 := hid (gt B1.out hb2); clear a0 a1 a2 hb2; obtain ⟨a0, a1, a2, _, _, _⟩ := Q2.out.cells)
      | (go_at_call 15; refine (bytes_no c pg m ao L cap P D true _ R2.out (by omega) hG'.out).mono ?_; rintro e w3 ⟨rfl, hb3⟩; have B3 := hid (gt B2.out hb3); clear hb3 a0 a1 a2)
      | (go_at_call 8; refine (lv.out _).mono ?_; rintro e w9 ⟨rfl, h9⟩; obtain rfl := h9.symm))
    go_ret
    exact ⟨rfl, B3.out⟩
  | true =>
    obtain ⟨hcp, hLc, hall⟩ := goodL_all hG
    have hJ := hid (back_J (n := m) ms hm64 hG)
    have hrec := hid (fun j hj => (back_recs (c := c) (pg := pg) (n := m) true ms hall j hj).2)
    have hyx := hid (bytesN_bytes c pg m true L P D hdb2.out)
    have hzx := hid (bytesN_bytes c pg m false L P D hdb2.out)
    have hG' := hid hG
    obtain ⟨c', rfl⟩ : ∃ k : Nat, c = (k : Int) := ⟨c.toNat, by omega⟩
    obtain ⟨p', rfl⟩ : ∃ k : Nat, pg = (k : Int) := ⟨pg.toNat, by omega⟩
    rw [Int.toNat_natCast, Int.toNat_natCast] at hJ
    obtain ⟨Y, hY⟩ : ∃ Y, Y = bytesN c' p' m true L P D := ⟨_, rfl⟩
    rw [← hY] at hJ hrec hyx
    have hY' := hid hY
    have hcold := hid (back_cold c' p' m L P D)
    obtain ⟨K, hK⟩ : ∃ K, K = 128 + L * 640 := ⟨_, rfl⟩
    have hK' := hid hK
    have hKb : K ≤ 12928 := by omega
    clear hG hcp hLc hall hY hK
    go_enter Tryd.func5, Tryd.ntmps5
    go_wp2_with (first
      | (go_at_call 9; refine cr.out.mono ?_; rintro e w1 ⟨ao, cap, rfl, hr, hb1⟩; have R1 := hid hr; have Q1 := hid (q0.out.keep hb1); have B1 := hid (gt A0'.out hb1); obtain ⟨a0, a1, a2, _, _, _⟩ := Q1.out.cells; clear hr hb1)
      | (go_at_call 17; refine (good_any c' p' m ao L cap P D _ R1.out (by omega)).mono ?_; rw [hG'.out]; rintro e w2 ⟨rfl, hb2⟩; have R2 := hid (R1.out.keep hb2); have Q2 := hid (Q1.out.keep hb2); have B2 := hid (gt B1.out hb2); clear a0 a1 a2 hb2; obtain ⟨a0, a1, a2, _, _, _⟩ := Q2.out.cells; have hlt2 := Q2.out.lt; have hne2 : ¬ w.heap.size = w2.heap.size := (by omega))
      | (go_at_call 15; clear t1; refine (bytes_yes c' p' m ao L cap P D true _ (R2.out.keep (Below.alloc (Below.refl _ _) (Nat.le_refl _) _)) hdb2.out hG'.out (hT'.out.keep (Below.alloc B2.out B2.out.size _))).mono ?_; rw [← hY'.out, ← hK'.out]; rintro e w3 ⟨v3, rfl, ho3, hb3⟩; obtain ⟨ao3, cap3, rfl, r3⟩ := rd_owned ho3; have O3 := hid (row_later (World.ownsRow_made (base := w2.heap.size) (e := 5) (size := 1) w2 #[] 0 (Nat.le_refl _) (by decide) rfl) hb3); have hs3 : w2.heap.size ≤ w3.heap.size := (by have := hb3.size; simp at this; omega); have H3 := hid ((Below.alloc (Below.refl _ _) (Nat.le_refl _) _).trans (hb3.mono (by simp))); have Y3 := hid r3; clear ho3 hb3 r3 a0 a1 a2)
      | ((with_reducible refine here_op 39 ?_); refine wpList_append_rd rfl (.tmp 35) (.tmp 38) rfl w2.heap.size _ 0 [] rfl O3.out ao3 K cap3 Y rfl Y3.out (by omega) hs3 ?_; intro v4 w4 ho4 hb4; rw [Nat.zero_add, List.nil_append] at ho4; have H4 := hid (H3.out.trans hb4); have O4 := hid ho4; clear ho4 hb4 O3 Y3 H3)
      | ((with_reducible refine here_op 41 ?_); refine wpList_append_rd rfl (.tmp 39) (.tmp 40) rfl w2.heap.size _ K Y rfl O4.out mo mn mc ms rfl ((hm'.out.keep B2.out).keep H4.out) (by omega) H4.out.size ?_; intro v5 w5 ho5 hb5; obtain ⟨ao5, cap5, rfl, r5⟩ := rd_owned ho5; have H5 := hid (H4.out.trans hb5); have Y5 := hid r5; have B5 := hid (gt B2.out H5.out); clear ho5 hb5 r5 O4 H4)
      | (go_at_call 26; refine (parse_any ao5 (K + mn) cap5 (Y ++ ms) _ Y5.out (app_bytes hyx.out hmx'.out) (by omega) (hT'.out.keep B5.out)).mono ?_; unfold JIs; rw [hJ.out]; rintro e w6 ⟨ao6, cap6, rfl, r6, hb6⟩; have R6 := hid (r6.congr hrec.out); have R26 := hid ((R2.out.keep H5.out).keep hb6); have Q6 := hid ((Q2.out.keep H5.out).keep hb6); have B6 := hid (gt B5.out hb6); obtain ⟨a0, a1, a2, _, _, _⟩ := Q6.out.cells; have hlt6 := Q6.out.lt; have hne6 : ¬ w.heap.size = w6.heap.size := (by omega); clear r6 hb6)
      | (go_at_call 12; clear t2; refine (plain_any ao6 L cap6 P D _ (R6.out.keep (Below.alloc (Below.refl _ _) (Nat.le_refl _) _)) (by omega)).mono ?_; rintro e w7 ⟨ao7, cap7, rfl, r7, hb7⟩; have R7 := hid r7; have R27 := hid ((R26.out.keep (Below.alloc (Below.refl _ _) (Nat.le_refl _) _)).keep hb7); have Q7 := hid (Q6.out.keep2 hb7); have B7 := hid (gt2 B6.out hb7); clear r7 hb7 a0 a1 a2)
      | (go_at_call 12; refine (plain_any ao L cap P D _ R27.out (by omega)).mono ?_; rintro e w8 ⟨ao8, cap8, rfl, r8, hb8⟩; have R8 := hid r8; have R78 := hid (R7.out.keep hb8); have R28 := hid (R27.out.keep hb8); have Q8 := hid (Q7.out.keep hb8); have B8 := hid (gt B7.out hb8); clear r8 hb8)
      | (go_at_call 25; refine (same_any ao7 ao8 L cap7 cap8 P D _ R78.out R8.out (by omega)).mono ?_; rintro e w9 ⟨rfl, hb9⟩; have R29 := hid (R28.out.keep hb9); have Q9 := hid (Q8.out.keep hb9); have B9 := hid (gt B8.out hb9); clear hb9; obtain ⟨a0, a1, a2, _, _, _⟩ := Q9.out.cells)
      | (go_at_call 15; refine (bytes_yes c' p' m ao L cap P D false _ R29.out hdb2.out hG'.out (hT'.out.keep B9.out)).mono ?_; rw [← hK'.out]; rintro e w10 ⟨v10, rfl, ho10, hb10⟩; obtain ⟨ao10, cap10, rfl, r10⟩ := rd_owned ho10; have Y10 := hid r10; have B10 := hid (gt B9.out hb10); clear ho10 hb10 r10 a0 a1 a2)
      | (go_at_call 28; refine (hot_any ao10 K cap10 _ _ Y10.out hzx.out (by omega) (hT'.out.keep B10.out)).mono ?_; rw [hcold.out]; rintro e w11 ⟨rfl, hb11⟩; have B11 := hid (gt B10.out hb11); clear hb11)
      | (go_at_call 8; refine (lv.out _).mono ?_; rintro e w12 ⟨rfl, h9⟩; obtain rfl := h9.symm))
    go_ret
    exact ⟨rfl, B11.out⟩

end Go.Proofs.YtndlogjmnbgegaaDoor
