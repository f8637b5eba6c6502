/- Plain arithmetic on the bits of numbers below 2^192; no statement of the seat is proved here. -/
import Derived.Test.YtjlahomjhadnkaaWNum
namespace Go.Proofs.Ytjlahomjhadnkaa
namespace Wid

set_option maxRecDepth 100000 in
theorem bit_mod (m j : Nat) (hj : j < 64) : m % 18446744073709551616 / 2 ^ j % 2 = m / 2 ^ j % 2 := by
  have h := Nat.testBit_mod_two_pow m 64 j
  rw [show (2 : Nat) ^ 64 = 18446744073709551616 from rfl] at h
  rw [← Nat.toNat_testBit, ← Nat.toNat_testBit, h]
  simp [hj]

set_option maxRecDepth 100000 in
theorem div_shift (n k j : Nat) : n / 2 ^ k / 2 ^ j = n / 2 ^ (k + j) := by rw [Nat.div_div_eq_div_mul, Nat.pow_add]

set_option maxRecDepth 100000 in
theorem bit_w0 (n j : Nat) (hj : j < 64) : n % 18446744073709551616 / 2 ^ j % 2 = n / 2 ^ j % 2 := bit_mod n j hj
set_option maxRecDepth 100000 in
theorem bit_w1 (n j : Nat) (hj : j < 64) : n / 18446744073709551616 % 18446744073709551616 / 2 ^ j % 2 = n / 2 ^ (64 + j) % 2 := by
  rw [bit_mod _ j hj, ← div_shift n 64 j]
set_option maxRecDepth 100000 in
theorem bit_w2 (n j : Nat) (hj : j < 64) : n / 340282366920938463463374607431768211456 % 18446744073709551616 / 2 ^ j % 2 = n / 2 ^ (128 + j) % 2 := by
  rw [bit_mod _ j hj, ← div_shift n 128 j]

set_option maxRecDepth 100000 in
theorem W0_or (m n : Nat) : W0 (m ||| n) = ((m % 18446744073709551616 ||| n % 18446744073709551616 : Nat) : Int) := by
  unfold W0
  have h := Nat.or_mod_two_pow (a := m) (b := n) (n := 64)
  rw [show (2 : Nat) ^ 64 = 18446744073709551616 from rfl] at h
  rw [h]
set_option maxRecDepth 100000 in
theorem W1_or (m n : Nat) : W1 (m ||| n) = ((m / 18446744073709551616 % 18446744073709551616 ||| n / 18446744073709551616 % 18446744073709551616 : Nat) : Int) := by
  unfold W1
  have h := Nat.or_mod_two_pow (a := m / 18446744073709551616) (b := n / 18446744073709551616) (n := 64)
  have k := Nat.or_div_two_pow (a := m) (b := n) (n := 64)
  rw [show (2 : Nat) ^ 64 = 18446744073709551616 from rfl] at h k
  rw [k, h]
set_option maxRecDepth 100000 in
theorem W2_or (m n : Nat) : W2 (m ||| n) = ((m / 340282366920938463463374607431768211456 % 18446744073709551616 ||| n / 340282366920938463463374607431768211456 % 18446744073709551616 : Nat) : Int) := by
  unfold W2
  have h := Nat.or_mod_two_pow (a := m / 340282366920938463463374607431768211456) (b := n / 340282366920938463463374607431768211456) (n := 64)
  have k := Nat.or_div_two_pow (a := m) (b := n) (n := 128)
  rw [show (2 : Nat) ^ 64 = 18446744073709551616 from rfl] at h
  rw [show (2 : Nat) ^ 128 = 340282366920938463463374607431768211456 from rfl] at k
  rw [k, h]

set_option maxRecDepth 100000 in
theorem pow_lt64 (j : Nat) (hj : j < 64) : (2 : Nat) ^ j < 18446744073709551616 := by
  have := Nat.pow_lt_pow_right (a := 2) (by omega) hj
  rwa [show (2 : Nat) ^ 64 = 18446744073709551616 from rfl] at this

-- what the bit 2^i is in each word
set_option maxRecDepth 100000 in
theorem pw0 (j : Nat) (hj : j < 64) : 2 ^ j % 18446744073709551616 = 2 ^ j ∧ 2 ^ j / 18446744073709551616 % 18446744073709551616 = 0 ∧ 2 ^ j / 340282366920938463463374607431768211456 % 18446744073709551616 = 0 := by
  have := pow_lt64 j hj
  generalize (2 : Nat) ^ j = p at *
  omega
set_option maxRecDepth 100000 in
theorem pw1 (j : Nat) (hj : j < 64) : 2 ^ (64 + j) % 18446744073709551616 = 0 ∧ 2 ^ (64 + j) / 18446744073709551616 % 18446744073709551616 = 2 ^ j ∧ 2 ^ (64 + j) / 340282366920938463463374607431768211456 % 18446744073709551616 = 0 := by
  have := pow_lt64 j hj
  rw [Nat.pow_add, show (2 : Nat) ^ 64 = 18446744073709551616 from rfl]
  generalize (2 : Nat) ^ j = p at *
  omega
set_option maxRecDepth 100000 in
theorem pw2 (j : Nat) (hj : j < 64) : 2 ^ (128 + j) % 18446744073709551616 = 0 ∧ 2 ^ (128 + j) / 18446744073709551616 % 18446744073709551616 = 0 ∧ 2 ^ (128 + j) / 340282366920938463463374607431768211456 % 18446744073709551616 = 2 ^ j := by
  have := pow_lt64 j hj
  rw [Nat.pow_add, show (2 : Nat) ^ 128 = 340282366920938463463374607431768211456 from rfl]
  generalize (2 : Nat) ^ j = p at *
  omega

set_option maxRecDepth 100000 in
theorem or_zero_cast (m : Nat) : ((m ||| 0 : Nat) : Int) = (m : Int) := by simp

set_option maxRecDepth 100000 in
theorem or_pow (m i : Nat) (h : m < 2 ^ i) : m ||| 2 ^ i = m + 2 ^ i := by
  have := Nat.two_pow_add_eq_or_of_lt h 1
  rw [Nat.mul_one] at this
  rw [Nat.or_comm, ← this, Nat.add_comm]

set_option maxRecDepth 100000 in
theorem pow192 (i : Nat) (h : i ≤ 192) : (2 : Nat) ^ i ≤ 6277101735386680763835789423207666416102355444464034512896 := by
  have := Nat.pow_le_pow_right (n := 2) (by omega) h
  rwa [show (2 : Nat) ^ 192 = 6277101735386680763835789423207666416102355444464034512896 from rfl] at this

-- one step of a sum, bit by bit
set_option maxRecDepth 100000 in
theorem add_step (m n i : Nat) : (m / 2 ^ i % 2 + n / 2 ^ i % 2 + (m % 2 ^ i + n % 2 ^ i) / 2 ^ i) / 2 = (m % 2 ^ (i + 1) + n % 2 ^ (i + 1)) / 2 ^ (i + 1) ∧
    (m + n) % 2 ^ (i + 1) = (m + n) % 2 ^ i + (m / 2 ^ i % 2 + n / 2 ^ i % 2 + (m % 2 ^ i + n % 2 ^ i) / 2 ^ i) % 2 * 2 ^ i := by
  have hp : 0 < 2 ^ i := Nat.two_pow_pos i
  have hm := Nat.mod_mul (x := m) (a := 2 ^ i) (b := 2)
  have hn := Nat.mod_mul (x := n) (a := 2 ^ i) (b := 2)
  have hs := Nat.mod_mul (x := m + n) (a := 2 ^ i) (b := 2)
  rw [← Nat.pow_succ] at hm hn hs
  have lm := Nat.mod_lt m hp
  have ln := Nat.mod_lt n hp
  have b1 : m / 2 ^ i % 2 < 2 := Nat.mod_lt _ (by omega)
  have b2 : n / 2 ^ i % 2 < 2 := Nat.mod_lt _ (by omega)
  have dm := Nat.div_add_mod m (2 ^ i)
  have dn := Nat.div_add_mod n (2 ^ i)
  have hc : (m + n) / 2 ^ i = m / 2 ^ i + n / 2 ^ i + (m % 2 ^ i + n % 2 ^ i) / 2 ^ i := by
    have : m + n = (m % 2 ^ i + n % 2 ^ i) + (m / 2 ^ i + n / 2 ^ i) * 2 ^ i := by
      rw [Nat.add_mul, Nat.mul_comm (m / 2 ^ i), Nat.mul_comm (n / 2 ^ i)]; omega
    rw [this, Nat.add_mul_div_right _ _ hp]
    omega
  constructor
  · rw [hm, hn, Nat.pow_succ, ← Nat.div_div_eq_div_mul]
    rw [show m % 2 ^ i + 2 ^ i * (m / 2 ^ i % 2) + (n % 2 ^ i + 2 ^ i * (n / 2 ^ i % 2)) = (m % 2 ^ i + n % 2 ^ i) + (m / 2 ^ i % 2 + n / 2 ^ i % 2) * 2 ^ i by rw [Nat.add_mul, Nat.mul_comm (2 ^ i), Nat.mul_comm (2 ^ i)]; omega]
    rw [Nat.add_mul_div_right _ _ hp]
    congr 1
    omega
  · rw [hs, hc, Nat.mul_comm (2 ^ i)]
    congr 2
    omega

end Wid
end Go.Proofs.Ytjlahomjhadnkaa
