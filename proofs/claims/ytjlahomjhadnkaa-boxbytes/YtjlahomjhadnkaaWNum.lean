/- Plain arithmetic on numbers below 2^192 and their three words; no statement of the seat is proved here. -/
namespace Go.Proofs.Ytjlahomjhadnkaa
namespace Wid

def W0 (n : Nat) : Int := ((n % 18446744073709551616 : Nat) : Int)
def W1 (n : Nat) : Int := ((n / 18446744073709551616 % 18446744073709551616 : Nat) : Int)
def W2 (n : Nat) : Int := ((n / 340282366920938463463374607431768211456 % 18446744073709551616 : Nat) : Int)

set_option maxRecDepth 100000 in
theorem W0_bd (n : Nat) : 0 ≤ W0 n ∧ W0 n < 18446744073709551616 := by unfold W0; omega
set_option maxRecDepth 100000 in
theorem W1_bd (n : Nat) : 0 ≤ W1 n ∧ W1 n < 18446744073709551616 := by unfold W1; omega
set_option maxRecDepth 100000 in
theorem W2_bd (n : Nat) : 0 ≤ W2 n ∧ W2 n < 18446744073709551616 := by unfold W2; omega

set_option maxRecDepth 100000 in
theorem W_val (n : Nat) (h : n < 6277101735386680763835789423207666416102355444464034512896) :
    W0 n + W1 n * 18446744073709551616 + W2 n * 340282366920938463463374607431768211456 = (n : Int) := by
  unfold W0 W1 W2; omega

set_option maxRecDepth 100000 in
theorem W_of (n : Nat) (a b c : Int) (ha : 0 ≤ a) (ha' : a < 18446744073709551616) (hb : 0 ≤ b) (hb' : b < 18446744073709551616) (hc : 0 ≤ c) (hc' : c < 18446744073709551616)
    (h : a + b * 18446744073709551616 + c * 340282366920938463463374607431768211456 = (n : Int)) : a = W0 n ∧ b = W1 n ∧ c = W2 n := by
  unfold W0 W1 W2; omega

set_option maxRecDepth 100000 in
theorem W_ex (a b c : Int) (ha : 0 ≤ a) (ha' : a < 18446744073709551616) (hb : 0 ≤ b) (hb' : b < 18446744073709551616) (hc : 0 ≤ c) (hc' : c < 18446744073709551616) :
    ∃ n : Nat, n < 6277101735386680763835789423207666416102355444464034512896 ∧ a = W0 n ∧ b = W1 n ∧ c = W2 n := by
  obtain ⟨n, hn⟩ := Int.eq_ofNat_of_zero_le (a := a + b * 18446744073709551616 + c * 340282366920938463463374607431768211456) (by omega)
  exact ⟨n, by omega, W_of n a b c ha ha' hb hb' hc hc' hn⟩

set_option maxRecDepth 100000 in
theorem W_inj (m n : Nat) (hm : m < 6277101735386680763835789423207666416102355444464034512896) (hn : n < 6277101735386680763835789423207666416102355444464034512896)
    (h0 : W0 m = W0 n) (h1 : W1 m = W1 n) (h2 : W2 m = W2 n) : m = n := by
  have := W_val m hm; have := W_val n hn; omega

set_option maxRecDepth 100000 in
theorem W0_zero : W0 0 = 0 := rfl
set_option maxRecDepth 100000 in
theorem W1_zero : W1 0 = 0 := rfl
set_option maxRecDepth 100000 in
theorem W2_zero : W2 0 = 0 := rfl

set_option maxRecDepth 100000 in
theorem W_small (n : Nat) (h : n < 18446744073709551616) : W0 n = (n : Int) ∧ W1 n = 0 ∧ W2 n = 0 := by
  unfold W0 W1 W2; omega

set_option maxRecDepth 100000 in
theorem W_two (n : Nat) (h : n < 340282366920938463463374607431768211456) : W0 n = ((n % 18446744073709551616 : Nat) : Int) ∧ W1 n = ((n / 18446744073709551616 : Nat) : Int) ∧ W2 n = 0 := by
  unfold W0 W1 W2; omega

def spanN (a b : Int) : Nat := (b - a).toNat
set_option maxRecDepth 100000 in
theorem spanN_lt (a b : Int) (ha : -9223372036854775808 ≤ a) (hb : b ≤ 9223372036854775807) : spanN a b < 18446744073709551616 := by unfold spanN; omega

def cmpN (m n : Nat) : Int := if m < n then -1 else if m = n then 0 else 1

set_option maxRecDepth 100000 in
theorem mul_lt (x y : Nat) (hx : x < 18446744073709551616) (hy : y < 18446744073709551616) : x * y < 340282366920938463463374607431768211456 := by
  have h := Nat.mul_le_mul (Nat.le_of_lt_succ hx) (Nat.le_of_lt_succ hy)
  omega

end Wid
end Go.Proofs.Ytjlahomjhadnkaa
