/- What Good returns; no statement of the seat is proved here. -/
import Derived.Test.YtndlogjmnbgegaaDoorFa
namespace Go.Proofs.YtndlogjmnbgegaaDoor
open Go.RowKit

/-- Do the records from i on, L in all, stand in order behind the page last? -/
def goodFrom (P : Nat → Int) (D : Nat → List Nat) (pg : Int) (last : Int) : Nat → Nat → Bool
  | _, 0 => true
  | i, k + 1 => rgood (P i) (D i).length && decide (last < P i) && decide (P i ≤ pg) && goodFrom P D pg (P i) (i + 1) k

def goodL (c pg : Int) (L : Nat) (P : Nat → Int) (D : Nat → List Nat) : Bool := hgood c pg && decide ((L : Int) = c) && goodFrom P D pg 0 0 L

theorem RB.keep2 {t : TypeId} {W W' : World} {q : Nat} {p : Int} {ao : Option Addr} {n cap : Nat} {o : Obj} (h : RB t W q p ao n cap) (hb : Below (W.alloc o).heap.size (W.alloc o) W') : RB t W' q p ao n cap := (h.keep (Below.alloc (Below.refl _ _) (Nat.le_refl _) o)).keep hb

set_option maxHeartbeats 4000000 in
theorem good_any (c pg : Int) (m : Nat) (ao : Option Addr) (L cap : Nat) (P : Nat → Int) (D : Nat → List Nat) (w : World) (h : Recs w ao L P D) (hL : L ≤ 100000) :
    Calls Tryd.prog 17 #[.agg #[.int .i64 c, .int .i64 pg, .int .u64 (m : Int)], .slice ao L cap] w fun e w' => e = .returned (.bool (goodL c pg L P D)) ∧ Below w.heap.size w w' := by
  have h' := hid h
  have cg := hid (hgood_any c pg m)
  have q0 := hid (HB.new 24 w c pg m)
  have cr := hid fun p ao n cap W => rgood_any p ao n cap W
  obtain ⟨b, hb⟩ : ∃ b, b = goodL c pg L P D := ⟨_, rfl⟩
  have hb' := hid hb
  rw [← hb]
  clear h hb
  cases hg : hgood c pg with
  | false =>
    rw [hg] at cg
    obtain rfl : b = false := by rw [hb'.out]; unfold goodL; rw [hg]; rfl
    clear hg
    go_enter Tryd.func17, Tryd.ntmps17
    go_wp2_with (go_at_call 36; refine (cg.out _).mono ?_; rintro e w1 ⟨rfl, hb1⟩)
    go_ret
    exact ⟨rfl, gt (Below.alloc (Below.refl _ _) (Nat.le_refl _) _) hb1⟩
  | true =>
    rw [hg] at cg
    by_cases hLc : (L : Int) = c
    · have e1 : b = goodFrom P D pg 0 0 L := by rw [hb'.out]; unfold goodL; rw [hg]; simp [hLc]
      have e1' := hid e1
      have hne : ((L : Int) != c) = false := by simp [hLc]
      clear hg e1 hb'
      subst hLc
      go_enter Tryd.func17, Tryd.ntmps17
      go_wp2_with (go_at_call 36; refine (cg.out _).mono ?_; rintro e w1 ⟨rfl, hb1⟩; have Q1 := hid (q0.out.keep hb1); have B1 := hid (gt (Below.alloc (Below.refl _ _) (Nat.le_refl _) _) hb1); clear hb1; obtain ⟨a0, a1, a2, _, _, _⟩ := Q1.out.cells)
      clear a0 a1 a2
      go_loopw [5, 20] (fun s5 cc W => ∃ (i : Nat) (last : Int), i ≤ L ∧ cc = .int .i64 (i : Int) ∧ s5 = .int .i64 last ∧ Hid (goodFrom P D pg last i (L - i) = b) ∧ Hid (HB 24 W w.heap.size (L : Int) pg m) ∧ Hid (Below w.heap.size w W)) (fun _ cc _ => L - (intOf cc).toNat)
      case atStart => exact ⟨0, 0, by omega, rfl, rfl, hid e1'.out.symm, Q1, B1⟩
      case round =>
        obtain ⟨i, last, hi, rfl, rfl, G, Q, B⟩ := hrel
        clear Q1 B1
        by_cases hiL : i < L
        · obtain ⟨b0, off, rfl, hc⟩ := h'.out (by omega)
          obtain ⟨a, n, c1, k0, k1, rd⟩ := hc i hiL
          have k0' := keep_old B.out k0
          have k1' := keep_old B.out k1
          have hn : (D i).length = n := rd.1
          obtain ⟨p, hp⟩ : ∃ p, p = P i := ⟨_, rfl⟩
          rw [← hp] at k0'
          have hG := G.out
          rw [show L - i = (L - (i + 1)) + 1 by omega] at hG
          simp only [goodFrom] at hG
          rw [← hp, hn] at hG
          have G' := hid hG
          have hBs := B.out.size
          clear hG G k0 k1 rd hc hn hp e1'
          cases hg1 : rgood p n with
          | false =>
            have hbf : b = false := by rw [← G'.out, hg1]; simp only [Bool.false_and]
            clear G'
            subst hbf
            go_wp2_with (go_at_call 30; refine (cr.out p a n c1 _).mono ?_; rw [hg1]; rintro e w2 ⟨rfl, hb2⟩; have Q2 := hid (Q.out.keep2 hb2); have B2 := hid (gt2 B.out hb2); have Y2 := hid ((RB.new 32 wr p a n c1).keep hb2); obtain ⟨y0, y1, _, _⟩ := Y2.out.cells; obtain ⟨q0, q1, q2, _, _, _⟩ := Q2.out.cells; clear hb2)
            go_ret
            exact ⟨rfl, B2.out⟩
          | true =>
            by_cases hl1 : last < p
            · by_cases hl2 : p ≤ pg
              · have G2 : Hid (goodFrom P D pg p (i + 1) (L - (i + 1)) = b) := hid (by rw [← G'.out, hg1, decide_eq_true hl1, decide_eq_true hl2]; simp only [Bool.true_and])
                clear G'
                go_wp2_with (go_at_call 30; refine (cr.out p a n c1 _).mono ?_; rw [hg1]; rintro e w2 ⟨rfl, hb2⟩; have Q2 := hid (Q.out.keep2 hb2); have B2 := hid (gt2 B.out hb2); have Y2 := hid ((RB.new 32 wr p a n c1).keep hb2); obtain ⟨y0, y1, _, _⟩ := Y2.out.cells; obtain ⟨q0, q1, q2, _, _, _⟩ := Q2.out.cells; clear hb2)
                exact ⟨⟨i + 1, p, by omega, by go_num, rfl, G2, Q2, B2⟩, by simp [intOf]; omega⟩
              · have hbf : b = false := by rw [← G'.out, hg1, decide_eq_false hl2]; simp only [Bool.false_and, Bool.and_false]
                clear G'
                subst hbf
                go_wp2_with (go_at_call 30; refine (cr.out p a n c1 _).mono ?_; rw [hg1]; rintro e w2 ⟨rfl, hb2⟩; have Q2 := hid (Q.out.keep2 hb2); have B2 := hid (gt2 B.out hb2); have Y2 := hid ((RB.new 32 wr p a n c1).keep hb2); obtain ⟨y0, y1, _, _⟩ := Y2.out.cells; obtain ⟨q0, q1, q2, _, _, _⟩ := Q2.out.cells; clear hb2)
                go_ret
                exact ⟨rfl, B2.out⟩
            · have hbf : b = false := by rw [← G'.out, hg1, decide_eq_false hl1]; simp only [Bool.false_and, Bool.and_false]
              clear G'
              subst hbf
              go_wp2_with (go_at_call 30; refine (cr.out p a n c1 _).mono ?_; rw [hg1]; rintro e w2 ⟨rfl, hb2⟩; have Q2 := hid (Q.out.keep2 hb2); have B2 := hid (gt2 B.out hb2); have Y2 := hid ((RB.new 32 wr p a n c1).keep hb2); obtain ⟨y0, y1, _, _⟩ := Y2.out.cells; obtain ⟨q0, q1, q2, _, _, _⟩ := Q2.out.cells; clear hb2)
              go_ret
              exact ⟨rfl, B2.out⟩
        · obtain rfl : i = L := by omega
          have : b = true := by rw [← G.out, Nat.sub_self]; rfl
          subst this
          go_wp2
          go_ret
          exact ⟨rfl, B.out⟩
    · obtain rfl : b = false := by rw [hb'.out]; unfold goodL; rw [hg]; simp [hLc]
      have hne : ((L : Int) != c) = true := by simp [hLc]
      have hne2 : ((L : Int) == c) = false := by simp [hLc]
      clear hg
      go_enter Tryd.func17, Tryd.ntmps17
      go_wp2_with (go_at_call 36; refine (cg.out _).mono ?_; rintro e w1 ⟨rfl, hb1⟩; have Q1 := hid (q0.out.keep hb1); have B1 := hid (gt (Below.alloc (Below.refl _ _) (Nat.le_refl _) _) hb1); clear hb1; obtain ⟨a0, a1, a2, _, _, _⟩ := Q1.out.cells)
      go_ret
      exact ⟨rfl, B1.out⟩

end Go.Proofs.YtndlogjmnbgegaaDoor
