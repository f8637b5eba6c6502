/- What putDigit of package wide returns, as a contract over numbers below 2^192; no statement of the seat is proved here. -/
import Derived.Test.YtfjepmhlkelinaaRb
namespace Go.Proofs.Ytfjepmhlkelinaa
open Go.RowKit

theorem mul10_v (x : Int) (hx : 0 ≤ x ∧ x < 18446744073709551616) :
    ∃ h l : Int, (∀ w, Calls Try.prog 33 #[.int .u64 x, .int .u64 10] w fun e w' => e = .returned (.tuple #[.int .u64 h, .int .u64 l]) ∧ w' = w) ∧
      (0 ≤ l ∧ l < 18446744073709551616) ∧ (0 ≤ h ∧ h ≤ 9) ∧ h * 18446744073709551616 + l = x * 10 := by
  obtain ⟨X, rfl⟩ := Int.eq_ofNat_of_zero_le hx.1
  exact ⟨_, _, fun w => mul64_any X 10 (by omega) (by omega) w, by omega, by omega, by omega⟩

set_option maxHeartbeats 1000000 in
theorem putd_words (a0 a1 a2 d : Int) (ha0 : 0 ≤ a0 ∧ a0 < 18446744073709551616) (ha1 : 0 ≤ a1 ∧ a1 < 18446744073709551616) (ha2 : 0 ≤ a2 ∧ a2 < 18446744073709551616) (hd : 0 ≤ d ∧ d ≤ 9) (w : World) :
    ∃ s0 s1 s2 k : Int, (0 ≤ s0 ∧ s0 < 18446744073709551616) ∧ (0 ≤ s1 ∧ s1 < 18446744073709551616) ∧ (0 ≤ s2 ∧ s2 < 18446744073709551616) ∧ 0 ≤ k ∧
      s0 + s1 * 18446744073709551616 + s2 * 340282366920938463463374607431768211456 + k * 6277101735386680763835789423207666416102355444464034512896 =
        (a0 + a1 * 18446744073709551616 + a2 * 340282366920938463463374607431768211456) * 10 + d ∧
      Calls Try.prog 34 #[.agg #[.int .u64 a0, .int .u64 a1, .int .u64 a2], .int .u64 d] w fun e w' =>
        e = .returned (.tuple #[.agg #[.int .u64 s0, .int .u64 s1, .int .u64 s2], .bool (k == 0)]) ∧ Below w.heap.size w w' := by
  obtain ⟨h0, l0, m0, bl0, bh0, e0⟩ := mul10_v a0 ha0
  obtain ⟨s0, c0, k0, bs0, bc0, f0⟩ := add64 l0 d 0 bl0 ⟨by omega, by omega⟩ (Or.inl rfl)
  obtain ⟨h1, l1, m1, bl1, bh1, e1⟩ := mul10_v a1 ha1
  obtain ⟨s1, c1, k1, bs1, bc1, f1⟩ := add64 l1 (h0 + c0) 0 bl1 ⟨by omega, by omega⟩ (Or.inl rfl)
  obtain ⟨h2, l2, m2, bl2, bh2, e2⟩ := mul10_v a2 ha2
  obtain ⟨s2, c2, k2, bs2, bc2, f2⟩ := add64 l2 (h1 + c1) 0 bl2 ⟨by omega, by omega⟩ (Or.inl rfl)
  refine ⟨s0, s1, s2, h2 + c2, bs0, bs1, bs2, by omega, by have := f0.out; have := f1.out; have := f2.out; omega, ?_⟩
  have M0 : Hid _ := m0; have M1 : Hid _ := m1; have M2 : Hid _ := m2
  have b0 : 0 ≤ c0 := by omega
  have b0' : c0 ≤ 1 := by omega
  have b1 : 0 ≤ c1 := by omega
  have b1' : c1 ≤ 1 := by omega
  have b2 : 0 ≤ c2 := by omega
  have b2' : c2 ≤ 1 := by omega
  have g0 := bh0.1; have g0' := bh0.2; have g1 := bh1.1; have g1' := bh1.2; have g2 := bh2.1; have g2' := bh2.2
  clear m0 m1 m2 e0 e1 e2 f0 f1 f2 bc0 bc1 bc2 ha0 ha1 ha2 hd bl0 bl1 bl2 bs0 bs1 bs2 bh0 bh1 bh2
  go_enter Try.func34, Try.ntmps34
  go_wp2
  refine wp_loop_rounds 4 ?_
  rw [rounds_succ]
  go_wp2_with (go_at_call 33; refine (M0.out _).mono ?_; rintro e w' ⟨rfl, rfl⟩)
  rw [rounds_succ]
  go_wp2_with (go_at_call 33; refine (M1.out _).mono ?_; rintro e w' ⟨rfl, rfl⟩)
  rw [rounds_succ]
  go_wp2_with (go_at_call 33; refine (M2.out _).mono ?_; rintro e w' ⟨rfl, rfl⟩)
  rw [rounds_succ]
  go_wp2
  exact bodyPost_ret (v := .tuple #[.agg #[.int .u64 s0, .int .u64 s1, .int .u64 s2], .bool (h2 + c2 == 0)]) (by simp [results, Try.results34, go_sem]) rfl ⟨rfl, (by repeat (first | with_reducible exact Below.refl _ _ | with_reducible assumption | with_reducible refine Below.drew ?_ | with_reducible refine below_drewN ?_ _ | with_reducible refine Below.alloc ?_ (by simp <;> omega) _ | with_reducible refine Below.setCell ?_ (by simp <;> omega) _))⟩

theorem putd_any (n : Nat) (hn : n < 6277101735386680763835789423207666416102355444464034512896) (d : Int) (hd : 0 ≤ d ∧ d ≤ 9) (w : World) (h : n * 10 + d.toNat < 6277101735386680763835789423207666416102355444464034512896) :
    Calls Try.prog 34 #[.agg #[.int .u64 (W0 (n)), .int .u64 (W1 (n)), .int .u64 (W2 (n))], .int .u64 d] w fun e w' => e = .returned (.tuple #[.agg #[.int .u64 (W0 (n * 10 + d.toNat)), .int .u64 (W1 (n * 10 + d.toNat)), .int .u64 (W2 (n * 10 + d.toNat))], .bool true]) ∧ Below w.heap.size w w' := by
  obtain ⟨s0, s1, s2, k, b0, b1, b2, hk, e, hc⟩ := putd_words (W0 n) (W1 n) (W2 n) d (W0_bd n) (W1_bd n) (W2_bd n) hd w
  have en := W_val n hn
  obtain rfl : k = 0 := by omega
  obtain ⟨e0, e1, e2⟩ := W_of (n * 10 + d.toNat) s0 s1 s2 b0.1 b0.2 b1.1 b1.2 b2.1 b2.2 (by omega)
  rw [← e0, ← e1, ← e2]
  exact hc

theorem putd_over (n : Nat) (hn : n < 6277101735386680763835789423207666416102355444464034512896) (d : Int) (hd : 0 ≤ d ∧ d ≤ 9) (w : World) (h : ¬ n * 10 + d.toNat < 6277101735386680763835789423207666416102355444464034512896) :
    ∃ k : Nat, Calls Try.prog 34 #[.agg #[.int .u64 (W0 (n)), .int .u64 (W1 (n)), .int .u64 (W2 (n))], .int .u64 d] w fun e w' => e = .returned (.tuple #[.agg #[.int .u64 (W0 (k)), .int .u64 (W1 (k)), .int .u64 (W2 (k))], .bool false]) ∧ Below w.heap.size w w' := by
  obtain ⟨s0, s1, s2, k, b0, b1, b2, hk, e, hc⟩ := putd_words (W0 n) (W1 n) (W2 n) d (W0_bd n) (W1_bd n) (W2_bd n) hd w
  have en := W_val n hn
  have hk0 : (k == 0) = false := by simp; omega
  rw [hk0] at hc
  obtain ⟨m, _, e0, e1, e2⟩ := W_ex s0 s1 s2 b0.1 b0.2 b1.1 b1.2 b2.1 b2.2
  refine ⟨m, ?_⟩
  rw [← e0, ← e1, ← e2]
  exact hc
end Go.Proofs.Ytfjepmhlkelinaa
