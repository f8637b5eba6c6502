/- What the document's own Good returns; no statement of the seat is proved here. -/
import Derived.Test.YtndlogjmnbgegaaDoorHa
namespace Go.Proofs.YtndlogjmnbgegaaDoor
open Go.RowKit

theorem rgood_step (p last pg : Int) (n : Nat) (h0 : 0 ≤ last) (hpg : pg ≤ 4000) (X : Bool) : (rgood p n && decide (last < p) && decide (p ≤ pg) && X) = if p ≤ last ∨ pg < p ∨ ¬ (n : Int) = 512 then false else X := by
  by_cases h : p ≤ last ∨ pg < p ∨ ¬ (n : Int) = 512
  · rw [if_pos h, Bool.eq_false_iff]
    intro hh
    simp only [Bool.and_eq_true, decide_eq_true_eq, rgood_iff] at hh
    omega
  · rw [if_neg h]
    have e1 : rgood p n = true := (rgood_iff p n).2 (by omega)
    rw [e1, decide_eq_true (by omega), decide_eq_true (by omega)]
    rfl

set_option maxHeartbeats 4000000 in
theorem rgoodL_any (c pg : Int) (m : Nat) (ao : Option Addr) (L cap : Nat) (P : Nat → Int) (D : Nat → List Nat) (w : World) (h : Recs w ao L P D) (hL : L ≤ 100000) :
    Calls Tryd.prog 18 #[.agg #[.int .i64 c, .int .i64 pg, .int .u64 (m : Int)], .slice ao L cap] w fun e w' => e = .returned (.bool (goodL c pg L P D)) ∧ Below w.heap.size w w' := by
  have h' := hid h
  have q0 := hid (HB.new 29 w c pg m)
  have A0 : Hid (Below w.heap.size w (w.alloc (.cells #[.int .i64 c, .int .i64 pg, .int .u64 (m : Int)] 29))) := hid (Below.alloc (Below.refl _ _) (Nat.le_refl _) _)
  obtain ⟨b, hb⟩ : ∃ b, b = goodL c pg L P D := ⟨_, rfl⟩
  have hb' := hid hb
  rw [← hb]
  clear h hb
  by_cases hg : c = (L : Int) ∧ c ≤ 4000 ∧ 0 ≤ pg ∧ pg ≤ 4000
  · obtain ⟨rfl, hg1, hg2, hg3⟩ := hg
    have e1' : Hid (goodFrom P D pg 0 0 L = b) := hid (by
      have e : hgood (L : Int) pg = true := (hgood_iff _ _).2 (by omega)
      rw [hb'.out]; unfold goodL; rw [e]; simp)
    have g1 : ¬ (4000 : Int) < (L : Int) := by omega
    have g2 : ¬ pg < 0 := by omega
    have g3 : ¬ 4000 < pg := by omega
    clear hb'
    go_enter Tryd.func18, Tryd.ntmps18
    go_wp2
    go_loopw [5, 30] (fun s5 cc W => ∃ (i : Nat) (last : Int), i ≤ L ∧ 0 ≤ last ∧ cc = .int .i64 (i : Int) ∧ s5 = .int .i64 last ∧ Hid (goodFrom P D pg last i (L - i) = b) ∧ Hid (HB 29 W w.heap.size (L : Int) pg m) ∧ Hid (Below w.heap.size w W)) (fun _ cc _ => L - (intOf cc).toNat)
    case atStart => exact ⟨0, 0, by omega, by omega, rfl, rfl, hid e1'.out, q0, A0⟩
    case round =>
      obtain ⟨i, last, hi, hlast, rfl, rfl, G, Q, B⟩ := hrel
      clear q0 A0
      by_cases hiL : i < L
      · obtain ⟨b0, off, rfl, hc⟩ := h'.out (by omega)
        obtain ⟨a, n, c1, k0, k1, rd⟩ := hc i hiL
        have k0' := keep_old B.out k0
        have k1' := keep_old B.out k1
        have hn : (D i).length = n := rd.1
        obtain ⟨p, hp⟩ : ∃ p, p = P i := ⟨_, rfl⟩
        rw [← hp] at k0'
        have hG := G.out
        rw [show L - i = (L - (i + 1)) + 1 by omega] at hG
        simp only [goodFrom] at hG
        rw [← hp, hn, rgood_step p last pg n hlast hg3] at hG
        have G' := hid hG
        have hBs := B.out.size
        have hne : ¬ w.heap.size = wr.heap.size := by have := Q.out.lt; omega
        have hne2 : ¬ wr.heap.size = w.heap.size := by have := Q.out.lt; omega
        have hlt : w.heap.size < wr.heap.size := Q.out.lt
        have Y2 := hid (RB.new 35 wr p a n c1)
        have A2 : Hid (Below wr.heap.size wr (wr.alloc (.cells #[.int .i64 p, .slice a n c1] 35))) := hid (Below.alloc (Below.refl _ _) (Nat.le_refl _) _)
        obtain ⟨q0, q1, q2, _, _, _⟩ := Q.out.cells
        obtain ⟨j0, j1, j2, _, _, _⟩ := (Q.out.keep A2.out).cells
        clear hG G k0 k1 rd hc hn hp e1'
        by_cases hl1 : p ≤ last
        · have hbf : b = false := by rw [← G'.out, if_pos (Or.inl hl1)]
          clear G'
          subst hbf
          go_wp2
          go_ret
          exact ⟨rfl, gt B.out A2.out⟩
        · by_cases hl2 : pg < p
          · have hbf : b = false := by rw [← G'.out, if_pos (Or.inr (Or.inl hl2))]
            clear G'
            subst hbf
            go_wp2
            go_ret
            exact ⟨rfl, gt B.out A2.out⟩
          · by_cases hl3 : (n : Int) = 512
            · have G2 : Hid (goodFrom P D pg p (i + 1) (L - (i + 1)) = b) := hid (by rw [← G'.out, if_neg (by omega)])
              clear G'
              have hp0 : 0 ≤ p := by omega
              go_wp2
              exact ⟨⟨i + 1, p, by omega, hp0, by go_num, rfl, G2, hid (Q.out.keep A2.out), hid (gt B.out A2.out)⟩, by simp [intOf]; omega⟩
            · have hbf : b = false := by rw [← G'.out, if_pos (Or.inr (Or.inr hl3))]
              have h3 : ((n : Int) == 512) = false := by simp; omega
              have h4 : ((n : Int) != 512) = true := by simp; omega
              clear G'
              subst hbf
              go_wp2
              go_ret
              exact ⟨rfl, gt B.out A2.out⟩
      · obtain rfl : i = L := by omega
        have : b = true := by rw [← G.out, Nat.sub_self]; rfl
        subst this
        go_wp2
        go_ret
        exact ⟨rfl, B.out⟩
  · have hbf : b = false := by
      rw [hb'.out, Bool.eq_false_iff]
      intro hh
      unfold goodL at hh
      simp only [Bool.and_eq_true, decide_eq_true_eq, hgood_iff] at hh
      omega
    clear hb'
    subst hbf
    have hcase : (¬ c = (L : Int)) ∨ (c = (L : Int) ∧ 4000 < c) ∨ (c = (L : Int) ∧ ¬ 4000 < c ∧ pg < 0) ∨ (c = (L : Int) ∧ ¬ 4000 < c ∧ ¬ pg < 0 ∧ 4000 < pg) := by omega
    clear hg
    rcases hcase with h1 | ⟨rfl, h2⟩ | ⟨rfl, h2, h3⟩ | ⟨rfl, h2, h3, h4⟩
    · have h3 : (c == (L : Int)) = false := by simp [h1]
      have h4 : (c != (L : Int)) = true := by simp [h1]
      go_enter Tryd.func18, Tryd.ntmps18
      go_wp2
      go_ret
      exact ⟨rfl, A0.out⟩
    all_goals
      go_enter Tryd.func18, Tryd.ntmps18
      go_wp2
      go_ret
      exact ⟨rfl, A0.out⟩

end Go.Proofs.YtndlogjmnbgegaaDoor
