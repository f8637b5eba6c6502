/- What the remainder of x times a number, and that of two numbers' product, are reckoned to; no statement of the seat is proved here. -/
import Derived.Test.YtlaojlnndphnlaaDoorBa
import Derived.WalkMore
namespace Go.Proofs.YtlaojlnndphnlaaDoor
open Go.RowKit

theorem and_one (a : Nat) (h : a < 4294967296) : bits .and .u32 (a : Int) 1 = ((a % 2 : Nat) : Int) := by
  rw [show (1 : Int) = ((1 : Nat) : Int) from rfl, u32_and_nat a 1 h (by decide), nat_mask1]

theorem xor_nat (a b : Nat) (z : Int) (hz : z = (b : Int)) (ha : a < 4294967296) (hb : b < 4294967296) : bits .xor .u32 (a : Int) z = ((a ^^^ b : Nat) : Int) := by
  subst hz
  exact u32_xor_nat a b ha hb

set_option maxHeartbeats 400000 in
theorem timesX_any (a : Nat) (ha : a < 4294967296) (w : World) : Calls Tryd.prog 14 #[.int .u32 (a : Int)] w fun e w' => e = .returned (.int .u32 ((tx a : Nat) : Int)) ∧ w' = w := by
  have h1 := and_one a ha
  have hx := xor_nat (a / 2) 2197175160 2197175160 rfl (by omega) (by decide)
  rw [show ((a / 2 : Nat) : Int) = (a : Int) / 2 by omega] at hx
  by_cases h : a % 2 = 0
  · have e : ((tx a : Nat) : Int) = (a : Int) / 2 := by unfold tx; rw [if_pos h]; omega
    rw [e]
    rw [h] at h1
    go_enter Tryd.func14, Tryd.ntmps14
    go_wp2
    go_ret
    exact ⟨rfl, rfl⟩
  · have e : tx a = a / 2 ^^^ 2197175160 := by unfold tx; rw [if_neg h]
    rw [e]
    have h2 : a % 2 = 1 := by omega
    rw [h2] at h1
    clear h
    go_enter Tryd.func14, Tryd.ntmps14
    go_wp2
    go_ret
    exact ⟨rfl, rfl⟩

theorem and_top (b : Nat) (h : b < 4294967296) : bits .and .u32 (b : Int) 2147483648 = if 2147483648 ≤ b then 2147483648 else 0 := by
  rw [show (2147483648 : Int) = ((2147483648 : Nat) : Int) from rfl, u32_and_nat b 2147483648 h (by decide), show (2147483648 : Nat) = 2 ^ 31 from rfl, nat_bit]
  split
  · rw [show b / 2 ^ 31 % 2 = 1 by omega]
  · rw [show b / 2 ^ 31 % 2 = 0 by omega]; rfl

theorem dbl_dvd {k b : Nat} (hk : k + 1 ≤ 32) (hd : 2 ^ (32 - (k + 1)) ∣ b) : 2 ^ (32 - k) ∣ 2 * b % 4294967296 := by
  have h1 : 2 ^ (32 - k) ∣ 2 * b := by
    rw [show 32 - k = (32 - (k + 1)) + 1 by omega, Nat.pow_succ, Nat.mul_comm]
    exact Nat.mul_dvd_mul_left 2 hd
  have h2 : 2 ^ (32 - k) ∣ 4294967296 := Nat.pow_dvd_pow 2 (show 32 - k ≤ 32 by omega)
  exact (Nat.dvd_mod_iff h2).2 h1

set_option maxHeartbeats 400000 in
theorem times_any (a b : Nat) (ha : a < 4294967296) (hb : b < 4294967296) (w : World) : Calls Tryd.prog 13 #[.int .u32 (a : Int), .int .u32 (b : Int)] w fun e w' => e = .returned (.int .u32 ((tm 32 a b : Nat) : Int)) ∧ w' = w := by
  have cx := hid timesX_any
  go_enter Tryd.func13, Tryd.ntmps13
  go_wp2
  go_step3
  go_wp2
  go_step3
  go_wp2
  go_loopg [0, 1, 5] 32 (fun k x y p wr => ∃ A B P : Nat, x = .int .u32 (A : Int) ∧ y = .int .u32 (B : Int) ∧ p = .int .u32 (P : Int) ∧ A < 4294967296 ∧ B < 4294967296 ∧ P < 4294967296 ∧ 2 ^ (32 - k) ∣ B ∧ k ≤ 32 ∧ P ^^^ tm k A B = tm 32 a b ∧ wr = w)
  case atStart => exact ⟨a, b, 0, rfl, rfl, rfl, ha, hb, by decide, by simp, by omega, by simp, rfl⟩
  case round =>
    obtain ⟨A, B, P, rfl, rfl, rfl, hA, hB, hP, hd, hk, he, rfl⟩ := hrel
    have he' := hid he
    have hd' := hid hd
    clear he hd
    have hn := and_top B hB
    have cA := hid (cx.out A hA)
    by_cases h0 : B = 0
    · subst h0
      clear hn
      go_wp2
      rw [Exit.noGoto_ret]
      go_ret
      have := he'.out
      rw [tm_zero, Nat.xor_zero] at this
      exact ⟨by rw [← this]; rfl, rfl⟩
    · cases gk with
      | zero => exact absurd (Nat.eq_zero_of_dvd_of_lt hd'.out hB) h0
      | succ j =>
        have h0' : ((B : Int) == 0) = false := by simp; omega
        by_cases ht : 2147483648 ≤ B
        · rw [if_pos ht] at hn
          have hx := xor_nat P A A rfl hP hA
          have ht' := hid ht
          clear ht
          go_wp2_with (go_at_call 14; refine (cA.out _).mono ?_; rintro e w1 ⟨rfl, hw1⟩; obtain rfl := hw1.symm)
          go_roundg j
          case measure => omega
          case rel =>
            refine ⟨tx A, 2 * B % 4294967296, P ^^^ A, rfl, ?_, rfl, tx_lt hA, Nat.mod_lt _ (by decide), xor_lt hP hA, dbl_dvd hk hd'.out, by omega, ?_, rfl⟩
            · congr 1; omega
            · rw [← he'.out, tm, if_pos ht'.out, Nat.xor_assoc]
        · rw [if_neg ht] at hn
          have ht' := hid ht
          clear ht
          go_wp2_with (go_at_call 14; refine (cA.out _).mono ?_; rintro e w1 ⟨rfl, hw1⟩; obtain rfl := hw1.symm)
          go_roundg j
          case measure => omega
          case rel =>
            refine ⟨tx A, 2 * B % 4294967296, P, rfl, ?_, rfl, tx_lt hA, Nat.mod_lt _ (by decide), hP, dbl_dvd hk hd'.out, by omega, ?_, rfl⟩
            · congr 1; omega
            · rw [← he'.out, tm, if_neg ht'.out, Nat.zero_xor]

end Go.Proofs.YtlaojlnndphnlaaDoor
