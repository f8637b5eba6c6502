/- What Bits of package wide returns, as a contract over numbers below 2^192; no statement of the seat is proved here. -/
import Derived.Test.YtfjepmhlkelinaaRf
namespace Go.Proofs.Ytfjepmhlkelinaa
open Go.RowKit

theorem bitLen_blen (x : Nat) (hx : x < 18446744073709551616) (h0 : x ≠ 0) : ∃ j, j < 64 ∧ 2 ^ j ≤ x ∧ x < 2 ^ (j + 1) ∧ Lib.bitLen x = j + 1 := by
  obtain ⟨h1, h2⟩ := (Nat.log2_eq_iff h0).1 (rfl : x.log2 = x.log2)
  have hj : x.log2 < 64 := by
    rcases Nat.lt_or_ge x.log2 64 with k | k
    · exact k
    · have := Nat.pow_le_pow_right (n := 2) (by omega) k
      rw [show (2 : Nat) ^ 64 = 18446744073709551616 from rfl] at this
      omega
  refine ⟨x.log2, hj, h1, h2, ?_⟩
  rw [Lib.bitLen_shift x.log2 x h1 (by exact hx)]
  have hd : x / 2 ^ x.log2 = 1 := by
    have hp : 0 < 2 ^ x.log2 := Nat.two_pow_pos _
    have a := Nat.div_pos h1 hp
    have b : x / 2 ^ x.log2 < 2 := by rw [Nat.div_lt_iff_lt_mul hp, Nat.mul_comm, ← Nat.pow_succ]; exact h2
    omega
  rw [hd]
  rfl

theorem blen_low (n : Nat) (hn : n < 18446744073709551616) (h0 : n ≠ 0) : blen n = Lib.bitLen n := by
  obtain ⟨j, _, h1, h2, h3⟩ := bitLen_blen n hn h0
  rw [blen_of n j h1 h2, h3]

theorem blen_mid (n : Nat) (hn : n < 340282366920938463463374607431768211456) (h0 : n / 18446744073709551616 ≠ 0) : blen n = 64 + Lib.bitLen (n / 18446744073709551616) := by
  obtain ⟨j, _, h1, h2, h3⟩ := bitLen_blen (n / 18446744073709551616) (by omega) h0
  rw [h3, ← Nat.add_assoc, blen_of n (64 + j)]
  · rw [Nat.pow_add, show (2 : Nat) ^ 64 = 18446744073709551616 from rfl]; omega
  · rw [Nat.add_assoc, Nat.pow_add, show (2 : Nat) ^ 64 = 18446744073709551616 from rfl]; omega

theorem blen_high (n : Nat) (hn : n < 6277101735386680763835789423207666416102355444464034512896) (h0 : n / 340282366920938463463374607431768211456 ≠ 0) : blen n = 128 + Lib.bitLen (n / 340282366920938463463374607431768211456) := by
  obtain ⟨j, _, h1, h2, h3⟩ := bitLen_blen (n / 340282366920938463463374607431768211456) (by omega) h0
  rw [h3, ← Nat.add_assoc, blen_of n (128 + j)]
  · rw [Nat.pow_add, show (2 : Nat) ^ 128 = 340282366920938463463374607431768211456 from rfl]; omega
  · rw [Nat.add_assoc, Nat.pow_add, show (2 : Nat) ^ 128 = 340282366920938463463374607431768211456 from rfl]; omega

set_option maxHeartbeats 400000 in
theorem bits_2 (a b c l : Int) (w : World) (hc : 0 ≤ c ∧ c < 18446744073709551616) (h0 : (c != 0) = true) (hl : Hid (l = ((Lib.bitLen c.toNat : Nat) : Int))) (l0 : 0 ≤ l) (l1 : l ≤ 64) :
    Calls Try.prog 15 #[.agg #[.int .u64 a, .int .u64 b, .int .u64 c]] w fun e w' => e = .returned (.int .i64 (128 + l)) ∧ Below w.heap.size w w' := by
  have hL := fun w => len64_any c w hc.1 hc.2
  rw [← hl.out] at hL
  have HL := hid hL
  clear hL hl
  go_enter Try.func15, Try.ntmps15
  go_wp2
  refine wp_loop_rounds 1 ?_
  rw [rounds_succ]
  go_wp2_with (go_at_call 32; refine (HL.out _).mono ?_; rintro e w' ⟨rfl, rfl⟩)
  go_ret
  exact ⟨rfl, (by repeat (first | with_reducible exact Below.refl _ _ | with_reducible assumption | with_reducible refine Below.drew ?_ | with_reducible refine below_drewN ?_ _ | with_reducible refine Below.alloc ?_ (by simp <;> omega) _ | with_reducible refine Below.setCell ?_ (by simp <;> omega) _))⟩

set_option maxHeartbeats 400000 in
theorem bits_1 (a b l : Int) (w : World) (hc : 0 ≤ b ∧ b < 18446744073709551616) (h0 : (b != 0) = true) (hl : Hid (l = ((Lib.bitLen b.toNat : Nat) : Int))) (l0 : 0 ≤ l) (l1 : l ≤ 64) :
    Calls Try.prog 15 #[.agg #[.int .u64 a, .int .u64 b, .int .u64 0]] w fun e w' => e = .returned (.int .i64 (64 + l)) ∧ Below w.heap.size w w' := by
  have hL := fun w => len64_any b w hc.1 hc.2
  rw [← hl.out] at hL
  have HL := hid hL
  clear hL hl
  go_enter Try.func15, Try.ntmps15
  go_wp2
  refine wp_loop_rounds 2 ?_
  rw [rounds_succ]
  go_wp2
  rw [rounds_succ]
  go_wp2_with (go_at_call 32; refine (HL.out _).mono ?_; rintro e w' ⟨rfl, rfl⟩)
  go_ret
  exact ⟨rfl, (by repeat (first | with_reducible exact Below.refl _ _ | with_reducible assumption | with_reducible refine Below.drew ?_ | with_reducible refine below_drewN ?_ _ | with_reducible refine Below.alloc ?_ (by simp <;> omega) _ | with_reducible refine Below.setCell ?_ (by simp <;> omega) _))⟩

set_option maxHeartbeats 400000 in
theorem bits_0 (a l : Int) (w : World) (hc : 0 ≤ a ∧ a < 18446744073709551616) (h0 : (a != 0) = true) (hl : Hid (l = ((Lib.bitLen a.toNat : Nat) : Int))) (l0 : 0 ≤ l) (l1 : l ≤ 64) :
    Calls Try.prog 15 #[.agg #[.int .u64 a, .int .u64 0, .int .u64 0]] w fun e w' => e = .returned (.int .i64 l) ∧ Below w.heap.size w w' := by
  have hL := fun w => len64_any a w hc.1 hc.2
  rw [← hl.out] at hL
  have HL := hid hL
  clear hL hl
  go_enter Try.func15, Try.ntmps15
  go_wp2
  refine wp_loop_rounds 3 ?_
  rw [rounds_succ]
  go_wp2
  rw [rounds_succ]
  go_wp2
  rw [rounds_succ]
  go_wp2_with (go_at_call 32; refine (HL.out _).mono ?_; rintro e w' ⟨rfl, rfl⟩)
  go_ret
  exact ⟨rfl, (by repeat (first | with_reducible exact Below.refl _ _ | with_reducible assumption | with_reducible refine Below.drew ?_ | with_reducible refine below_drewN ?_ _ | with_reducible refine Below.alloc ?_ (by simp <;> omega) _ | with_reducible refine Below.setCell ?_ (by simp <;> omega) _))⟩

set_option maxHeartbeats 400000 in
theorem bits_none (w : World) :
    Calls Try.prog 15 #[.agg #[.int .u64 0, .int .u64 0, .int .u64 0]] w fun e w' => e = .returned (.int .i64 0) ∧ Below w.heap.size w w' := by
  go_enter Try.func15, Try.ntmps15
  go_wp2
  refine wp_loop_rounds 4 ?_
  rw [rounds_succ]
  go_wp2
  rw [rounds_succ]
  go_wp2
  rw [rounds_succ]
  go_wp2
  rw [rounds_succ]
  go_wp2
  go_ret
  exact ⟨rfl, (by repeat (first | with_reducible exact Below.refl _ _ | with_reducible assumption | with_reducible refine Below.drew ?_ | with_reducible refine below_drewN ?_ _ | with_reducible refine Below.alloc ?_ (by simp <;> omega) _ | with_reducible refine Below.setCell ?_ (by simp <;> omega) _))⟩

theorem bits_any (n : Nat) (hn : n < 6277101735386680763835789423207666416102355444464034512896) (w : World) :
    Calls Try.prog 15 #[.agg #[.int .u64 (W0 (n)), .int .u64 (W1 (n)), .int .u64 (W2 (n))]] w fun e w' => e = .returned (.int .i64 ((blen n : Nat) : Int)) ∧ Below w.heap.size w w' := by
  have b0 := W0_bd n; have b1 := W1_bd n; have b2 := W2_bd n
  by_cases h2 : n / 340282366920938463463374607431768211456 ≠ 0
  · have e2 : W2 n = ((n / 340282366920938463463374607431768211456 : Nat) : Int) := by unfold W2; omega
    have hb := Lib.bitLen_le (n / 340282366920938463463374607431768211456) 64 (by omega) (by rw [show (2 : Nat) ^ 64 = 18446744073709551616 from rfl]; omega)
    have := bits_2 (W0 n) (W1 n) (W2 n) _ w b2 (by rw [e2]; simp; omega) rfl (by omega) (by rw [e2, Int.toNat_natCast]; omega)
    rw [blen_high n hn h2, Int.natCast_add]
    rw [e2, Int.toNat_natCast] at this
    rw [e2]
    exact this
  · have e2 : W2 n = 0 := by unfold W2; omega
    rw [e2]
    have hn2 : n < 340282366920938463463374607431768211456 := by omega
    by_cases h1 : n / 18446744073709551616 ≠ 0
    · have e1 : W1 n = ((n / 18446744073709551616 : Nat) : Int) := by unfold W1; omega
      have hb := Lib.bitLen_le (n / 18446744073709551616) 64 (by omega) (by rw [show (2 : Nat) ^ 64 = 18446744073709551616 from rfl]; omega)
      have := bits_1 (W0 n) (W1 n) _ w b1 (by rw [e1]; simp; omega) rfl (by omega) (by rw [e1, Int.toNat_natCast]; omega)
      rw [blen_mid n hn2 h1, Int.natCast_add]
      rw [e1, Int.toNat_natCast] at this
      rw [e1]
      exact this
    · have e1 : W1 n = 0 := by unfold W1; omega
      have e0 : W0 n = (n : Int) := by unfold W0; omega
      rw [e1]
      by_cases h0 : n = 0
      · subst h0; exact bits_none w
      · have hb := Lib.bitLen_le n 64 (by omega) (by rw [show (2 : Nat) ^ 64 = 18446744073709551616 from rfl]; omega)
        have := bits_0 (W0 n) _ w b0 (by rw [e0]; simp; omega) rfl (by omega) (by rw [e0, Int.toNat_natCast]; omega)
        rw [blen_low n (by omega) h0]
        rw [e0, Int.toNat_natCast] at this
        rw [e0]
        exact this

end Go.Proofs.Ytfjepmhlkelinaa
