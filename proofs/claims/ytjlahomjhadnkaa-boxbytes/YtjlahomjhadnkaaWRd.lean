/- What Sub of package wide returns, as a contract over numbers below 2^192; no statement of the seat is proved here. -/
import Derived.Test.YtjlahomjhadnkaaWRb
namespace Go.Proofs.Ytjlahomjhadnkaa
namespace Wid
open Go.RowKit

set_option maxRecDepth 100000 in
theorem found30 : (Extern.find Try.f66).isSome = true := by kernel_rfl
set_option maxRecDepth 100000 in
theorem entry0 (x y : Nat) (w : World) : (((Extern.find Try.f66).get found30) #[.int .u64 x, .int .u64 y, .int .u64 0]).run Try.prog w =
    .ok (.tuple #[.int .u64 (((x + 18446744073709551616 - y - 0) % 18446744073709551616 : Nat) : Int), .int .u64 ((if x < y + 0 then 1 else 0 : Nat) : Int)]) w := by kernel_rfl
set_option maxRecDepth 100000 in
theorem entry1 (x y : Nat) (w : World) : (((Extern.find Try.f66).get found30) #[.int .u64 x, .int .u64 y, .int .u64 1]).run Try.prog w =
    .ok (.tuple #[.int .u64 (((x + 18446744073709551616 - y - 1) % 18446744073709551616 : Nat) : Int), .int .u64 ((if x < y + 1 then 1 else 0 : Nat) : Int)]) w := by kernel_rfl

set_option maxRecDepth 100000 in
theorem sub64 (x y c : Int) (hx : 0 ≤ x ∧ x < 18446744073709551616) (hy : 0 ≤ y ∧ y < 18446744073709551616) (hc : c = 0 ∨ c = 1) :
    ∃ s k : Int, (∀ w, (callFunc 66 #[.int .u64 x, .int .u64 y, .int .u64 c]).run Try.prog w = .ok (.value (.tuple #[.int .u64 s, .int .u64 k])) w) ∧
      (0 ≤ s ∧ s < 18446744073709551616) ∧ (k = 0 ∨ k = 1) ∧ Hid (s - k * 18446744073709551616 = x - y - c) := by
  obtain ⟨X, rfl⟩ := Int.eq_ofNat_of_zero_le hx.1
  obtain ⟨Y, rfl⟩ := Int.eq_ofNat_of_zero_le hy.1
  rcases hc with rfl | rfl
  · refine ⟨(((X + 18446744073709551616 - Y - 0) % 18446744073709551616 : Nat) : Int), ((if X < Y + 0 then 1 else 0 : Nat) : Int), fun w => ?_, by omega, by split <;> simp, by unfold Hid; split <;> omega⟩
    rw [run_callFunc_extern Try.func66 (by kernel_rfl) (by kernel_rfl) (by kernel_rfl) (Option.some_get found30).symm, entry0 X Y w]
    rfl
  · refine ⟨(((X + 18446744073709551616 - Y - 1) % 18446744073709551616 : Nat) : Int), ((if X < Y + 1 then 1 else 0 : Nat) : Int), fun w => ?_, by omega, by split <;> simp, by unfold Hid; split <;> omega⟩
    rw [run_callFunc_extern Try.func66 (by kernel_rfl) (by kernel_rfl) (by kernel_rfl) (Option.some_get found30).symm, entry1 X Y w]
    rfl

set_option maxRecDepth 100000 in
set_option maxHeartbeats 400000 in
theorem sub_words (a0 a1 a2 b0 b1 b2 : Int) (w : World) (ha0 : 0 ≤ a0 ∧ a0 < 18446744073709551616) (ha1 : 0 ≤ a1 ∧ a1 < 18446744073709551616) (ha2 : 0 ≤ a2 ∧ a2 < 18446744073709551616)
    (hb0 : 0 ≤ b0 ∧ b0 < 18446744073709551616) (hb1 : 0 ≤ b1 ∧ b1 < 18446744073709551616) (hb2 : 0 ≤ b2 ∧ b2 < 18446744073709551616) :
    ∃ s0 s1 s2 k : Int, (0 ≤ s0 ∧ s0 < 18446744073709551616) ∧ (0 ≤ s1 ∧ s1 < 18446744073709551616) ∧ (0 ≤ s2 ∧ s2 < 18446744073709551616) ∧ (k = 0 ∨ k = 1) ∧
      s0 + s1 * 18446744073709551616 + s2 * 340282366920938463463374607431768211456 - k * 6277101735386680763835789423207666416102355444464034512896 =
        (a0 + a1 * 18446744073709551616 + a2 * 340282366920938463463374607431768211456) - (b0 + b1 * 18446744073709551616 + b2 * 340282366920938463463374607431768211456) ∧
      Calls Try.prog 38 #[.agg #[.int .u64 a0, .int .u64 a1, .int .u64 a2], .agg #[.int .u64 b0, .int .u64 b1, .int .u64 b2]] w fun e w' =>
        e = .returned (if k = 0 then .tuple #[.agg #[.int .u64 s0, .int .u64 s1, .int .u64 s2], .bool true] else .tuple #[.agg #[.int .u64 0, .int .u64 0, .int .u64 0], .bool false]) ∧ Below w.heap.size w w' := by
  obtain ⟨s0, c1, k0, h0, hc1, H0⟩ := sub64 a0 b0 0 ha0 hb0 (Or.inl rfl)
  obtain ⟨s1, c2, k1, h1, hc2, H1⟩ := sub64 a1 b1 c1 ha1 hb1 hc1
  obtain ⟨s2, c3, k2, h2, hc3, H2⟩ := sub64 a2 b2 c2 ha2 hb2 hc2
  refine ⟨s0, s1, s2, c3, h0, h1, h2, hc3, by have := H0.out; have := H1.out; have := H2.out; omega, ?_⟩
  clear hc1 hc2 H0 H1 H2 h0 h1 h2 ha0 ha1 ha2 hb0 hb1 hb2
  go_enter Try.func38, Try.ntmps38
  go_wp2
  refine wp_loop_rounds 4 ?_
  rw [rounds_succ]
  go_wp2
  go_region
  go_wp2
  rw [rounds_succ]
  go_wp2
  go_region
  go_wp2
  rw [rounds_succ]
  go_wp2
  go_region
  go_wp2
  rw [rounds_succ]
  rcases hc3 with rfl | rfl
  · go_wp2
    exact bodyPost_ret (v := .tuple #[.agg #[.int .u64 s0, .int .u64 s1, .int .u64 s2], .bool true]) (by simp [results, Try.results38, go_sem]) rfl ⟨rfl, (by repeat (first | with_reducible exact Below.refl _ _ | with_reducible assumption | with_reducible refine Below.drew ?_ | with_reducible refine below_drewN ?_ _ | with_reducible refine Below.alloc ?_ (by simp <;> omega) _ | with_reducible refine Below.setCell ?_ (by simp <;> omega) _))⟩
  · go_wp2
    exact bodyPost_ret (v := .tuple #[.agg #[.int .u64 0, .int .u64 0, .int .u64 0], .bool false]) (by simp [results, Try.results38, go_sem]) rfl ⟨rfl, (by repeat (first | with_reducible exact Below.refl _ _ | with_reducible assumption | with_reducible refine Below.drew ?_ | with_reducible refine below_drewN ?_ _ | with_reducible refine Below.alloc ?_ (by simp <;> omega) _ | with_reducible refine Below.setCell ?_ (by simp <;> omega) _))⟩

set_option maxRecDepth 100000 in
theorem sub_any (m n : Nat) (hm : m < 6277101735386680763835789423207666416102355444464034512896) (hn : n < 6277101735386680763835789423207666416102355444464034512896) (w : World) (h : n ≤ m) :
    Calls Try.prog 38 #[.agg #[.int .u64 (W0 (m)), .int .u64 (W1 (m)), .int .u64 (W2 (m))], .agg #[.int .u64 (W0 (n)), .int .u64 (W1 (n)), .int .u64 (W2 (n))]] w fun e w' => e = .returned (.tuple #[.agg #[.int .u64 (W0 (m - n)), .int .u64 (W1 (m - n)), .int .u64 (W2 (m - n))], .bool true]) ∧ Below w.heap.size w w' := by
  obtain ⟨s0, s1, s2, k, h0, h1, h2, hk, e, hc⟩ := sub_words (W0 m) (W1 m) (W2 m) (W0 n) (W1 n) (W2 n) w (W0_bd m) (W1_bd m) (W2_bd m) (W0_bd n) (W1_bd n) (W2_bd n)
  have em := W_val m hm
  have en := W_val n hn
  obtain rfl : k = 0 := by omega
  obtain ⟨e0, e1, e2⟩ := W_of (m - n) s0 s1 s2 h0.1 h0.2 h1.1 h1.2 h2.1 h2.2 (by omega)
  rw [← e0, ← e1, ← e2]
  simpa using hc

set_option maxRecDepth 100000 in
theorem sub_under (m n : Nat) (hm : m < 6277101735386680763835789423207666416102355444464034512896) (hn : n < 6277101735386680763835789423207666416102355444464034512896) (w : World) (h : ¬ n ≤ m) :
    Calls Try.prog 38 #[.agg #[.int .u64 (W0 (m)), .int .u64 (W1 (m)), .int .u64 (W2 (m))], .agg #[.int .u64 (W0 (n)), .int .u64 (W1 (n)), .int .u64 (W2 (n))]] w fun e w' => e = .returned (.tuple #[.agg #[.int .u64 0, .int .u64 0, .int .u64 0], .bool false]) ∧ Below w.heap.size w w' := by
  obtain ⟨s0, s1, s2, k, h0, h1, h2, hk, e, hc⟩ := sub_words (W0 m) (W1 m) (W2 m) (W0 n) (W1 n) (W2 n) w (W0_bd m) (W1_bd m) (W2_bd m) (W0_bd n) (W1_bd n) (W2_bd n)
  have em := W_val m hm
  have en := W_val n hn
  obtain rfl : k = 1 := by omega
  simpa using hc

-- one step of a difference, bit by bit; the borrow ahead of bit i is 1 just where m % 2^i < n % 2^i
def bor (m n i : Nat) : Nat := if m % 2 ^ i < n % 2 ^ i then 1 else 0

set_option maxRecDepth 100000 in
theorem sub_step (m n i : Nat) : (bor m n (i + 1) = if m / 2 ^ i % 2 < n / 2 ^ i % 2 + bor m n i then 1 else 0) ∧
    (m % 2 ^ (i + 1) + bor m n (i + 1) * 2 ^ (i + 1) - n % 2 ^ (i + 1)) = (m % 2 ^ i + bor m n i * 2 ^ i - n % 2 ^ i) + (m / 2 ^ i % 2 + (n / 2 ^ i % 2 + bor m n i)) % 2 * 2 ^ i := by
  have hp : 0 < 2 ^ i := Nat.two_pow_pos i
  have hm := Nat.mod_mul (x := m) (a := 2 ^ i) (b := 2)
  have hn := Nat.mod_mul (x := n) (a := 2 ^ i) (b := 2)
  rw [← Nat.pow_succ] at hm hn
  have lm := Nat.mod_lt m hp
  have ln := Nat.mod_lt n hp
  have b1 : m / 2 ^ i % 2 < 2 := Nat.mod_lt _ (by omega)
  have b2 : n / 2 ^ i % 2 < 2 := Nat.mod_lt _ (by omega)
  have e2 : 2 ^ (i + 1) = 2 * 2 ^ i := by rw [Nat.pow_succ, Nat.mul_comm]
  unfold bor
  rw [hm, hn, e2]
  generalize m / 2 ^ i % 2 = x at *
  generalize n / 2 ^ i % 2 = y at *
  generalize m % 2 ^ i = a at *
  generalize n % 2 ^ i = b at *
  generalize 2 ^ i = p at *
  rcases (by omega : x = 0 ∨ x = 1) with rfl | rfl <;> rcases (by omega : y = 0 ∨ y = 1) with rfl | rfl <;> by_cases h : a < b <;> simp only [h, if_true, if_false, Nat.mul_zero, Nat.mul_one, Nat.add_zero, Nat.zero_mul, Nat.one_mul] <;> constructor <;> (repeat' split) <;> omega

set_option maxRecDepth 100000 in
theorem bor_01 (m n i : Nat) : bor m n i = 0 ∨ bor m n i = 1 := by unfold bor; split <;> omega

set_option maxRecDepth 100000 in
theorem dif_lt (m n i : Nat) : m % 2 ^ i + bor m n i * 2 ^ i - n % 2 ^ i < 2 ^ i := by
  have hp : 0 < 2 ^ i := Nat.two_pow_pos i
  have lm := Nat.mod_lt m hp
  have ln := Nat.mod_lt n hp
  unfold bor
  split <;> omega

end Wid
end Go.Proofs.Ytjlahomjhadnkaa
