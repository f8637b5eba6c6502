/- What Of, both functions Join and lives return; no statement of the seat is proved here. -/
import Derived.Test.YtlaojlnndphnlaaDoorBd
namespace Go.Proofs.YtlaojlnndphnlaaDoor
open Go.RowKit

set_option maxHeartbeats 400000 in
theorem of_any (ao : Option Addr) (n cap : Nat) (xs : List Nat) (w : World) (h : Rd w ao n cap xs) (hx : ∀ x ∈ xs, x < 256) (hn : n ≤ 9223372036854775807) (hT : Tab w) :
    Calls Tryd.prog 7 #[.slice ao n cap] w fun e w' => e = .returned (.int .u32 ((addN 0 xs : Nat) : Int)) ∧ w' = w := by
  have c := hid (add_any 0 ao n cap xs w (by decide) h hx hn hT)
  clear h hx hT
  go_enter Tryd.func7, Tryd.ntmps7
  go_wp2_with (go_at_call 9; refine c.out.mono ?_; rintro e w1 ⟨rfl, hw1⟩; obtain rfl := hw1.symm)
  go_ret
  exact ⟨rfl, rfl⟩

set_option maxHeartbeats 400000 in
theorem rof_any (ao : Option Addr) (n cap : Nat) (xs : List Nat) (w : World) (h : Rd w ao n cap xs) (hx : ∀ x ∈ xs, x < 256) (hn : n ≤ 9223372036854775807) :
    Calls Tryd.prog 8 #[.slice ao n cap] w fun e w' => e = .returned (.int .u32 ((addN 0 xs : Nat) : Int)) ∧ w' = w := by
  have c := hid (radd_any 0 ao n cap xs w (by decide) h hx hn)
  clear h hx
  go_enter Tryd.func8, Tryd.ntmps8
  go_wp2_with (go_at_call 10; refine c.out.mono ?_; rintro e w1 ⟨rfl, hw1⟩; obtain rfl := hw1.symm)
  go_ret
  exact ⟨rfl, rfl⟩

set_option maxHeartbeats 400000 in
theorem rjoin_any (s : Nat) (ao : Option Addr) (n cap : Nat) (xs : List Nat) (w : World) (hs : s < 4294967296) (h : Rd w ao n cap xs) (hx : ∀ x ∈ xs, x < 256) (hn : n ≤ 9223372036854775807) :
    Calls Tryd.prog 12 #[.int .u32 (s : Int), .slice ao n cap] w fun e w' => e = .returned (.int .u32 ((addN s xs : Nat) : Int)) ∧ w' = w := by
  have c := hid (radd_any s ao n cap xs w hs h hx hn)
  clear h hx
  go_enter Tryd.func12, Tryd.ntmps12
  go_wp2_with (go_at_call 10; refine c.out.mono ?_; rintro e w1 ⟨rfl, hw1⟩; obtain rfl := hw1.symm)
  go_ret
  exact ⟨rfl, rfl⟩

theorem and_one64 (L : Nat) (h : L ≤ 9223372036854775807) : bits .and .i64 (L : Int) 1 = ((L % 2 : Nat) : Int) := by
  have hk : ∀ n : Int, 0 ≤ n → n < 2 ^ 63 → IntKind.i64.wrap n = n := by
    intro n h0 h1
    simp [IntKind.wrap, IntKind.bits, IntKind.signed] at h1 ⊢
    omega
  have := (bits_nat .i64 63 (by decide) hk L 1 (by omega) (by decide)).1
  rw [nat_mask1] at this
  exact this

set_option maxHeartbeats 400000 in
theorem join_low (a b : Nat) (n : Int) (ha : a < 4294967296) (hb : b < 4294967296) (hn : n < 0) (w : World) :
    Calls Tryd.prog 11 #[.int .u32 (a : Int), .int .u32 (b : Int), .int .i64 n] w fun e w' => e = .returned (.int .u32 ((joinN a b 0 : Nat) : Int)) ∧ w' = w := by
  have hx := xor_nat a b b rfl ha hb
  go_enter Tryd.func11, Tryd.ntmps11
  go_wp2
  refine wp_loop_rounds 1 ?_
  rw [rounds_succ]
  go_wp2
  go_ret
  exact ⟨rfl, rfl⟩

theorem mul_half (m L : Nat) (h : L % 2 = 0) : m * L = (m + m) * (L / 2) := by
  have : L = 2 * (L / 2) := by omega
  rw [← Nat.two_mul, Nat.mul_comm 2 m, Nat.mul_assoc, ← this]
theorem mul_half' (m L : Nat) (h : L % 2 = 1) : m * L = (m + m) * (L / 2) + m := by
  have : L = 2 * (L / 2) + 1 := by omega
  conv => lhs; rw [this, Nat.mul_add, Nat.mul_one, ← Nat.mul_assoc, Nat.mul_comm m 2, Nat.two_mul]

set_option maxHeartbeats 400000 in
theorem join_nat (a b N : Nat) (ha : a < 4294967296) (hb : b < 4294967296) (hN63 : N ≤ 9223372036854775807) (w : World) :
    Calls Tryd.prog 11 #[.int .u32 (a : Int), .int .u32 (b : Int), .int .i64 (N : Int)] w fun e w' => e = .returned (.int .u32 ((joinN a b N : Nat) : Int)) ∧ w' = w := by
  have ct := hid times_any
  have hnn : ¬ ((N : Int) < 0) := by omega
  go_enter Tryd.func11, Tryd.ntmps11
  go_wp2
  go_loopw [0, 7, 8] (fun x p l W => ∃ (A m L : Nat), A < 4294967296 ∧ L ≤ N ∧ x = .int .u32 (A : Int) ∧ p = .int .u32 ((txn m 2147483648 : Nat) : Int) ∧ l = .int .i64 (L : Int) ∧ txn (m * L) A = txn (8 * N) a ∧ W = w) (fun _ _ l _ => (intOf l).toNat)
  case atStart => exact ⟨a, 8, N, ha, by omega, rfl, rfl, rfl, rfl, rfl⟩
  case round =>
    obtain ⟨A, m, L, hA, hL, rfl, rfl, rfl, he, rfl⟩ := hrel
    have he' := hid he
    clear he hnn
    have hp := txn_lt m (show 2147483648 < 4294967296 by decide)
    have hq := tm_pow A m hA
    have hpp := tm_pow (txn m 2147483648) m hp
    rw [← txn_add] at hpp
    have hAm := txn_lt m hA
    have c1 := ct.out A _ hA hp
    have c2 := ct.out _ _ hp hp
    rw [hq] at c1
    rw [hpp] at c2
    have c1' := hid c1
    have c2' := hid c2
    clear c1 c2 hq hpp
    generalize txn m 2147483648 = P at *
    have h1 := and_one64 L (by omega)
    obtain ⟨H, hH⟩ : ∃ H, H = L / 2 := ⟨_, rfl⟩
    have h2 : (L : Int) / 2 = (H : Int) := by omega
    have hHL : L ≠ 0 → H < L := by omega
    have hH' := hid hH
    clear hH
    by_cases h0 : L = 0
    · subst h0
      have e2 := he'.out
      rw [Nat.mul_zero] at e2
      have e3 := hid e2
      have hx := xor_nat A b b rfl hA hb
      clear e2 h1 h2 hHL
      go_wp2
      go_ret
      refine ⟨?_, rfl⟩
      unfold joinN
      rw [← e3.out]
      rfl
    · have h0' : (0 : Int) < (L : Int) := by omega
      have hHl := hHL h0
      clear h0 hHL
      rcases Nat.mod_two_eq_zero_or_one L with h | h
      · rw [h] at h1
        have h' := hid h
        clear h
        go_wp2_with (go_at_call 13; refine (c2'.out _).mono ?_; rintro e w1 ⟨rfl, hw1⟩; obtain rfl := hw1.symm)
        refine ⟨⟨A, m + m, H, hA, by omega, rfl, rfl, rfl, ?_, trivial⟩, by simp [intOf]; omega⟩
        rw [← he'.out, mul_half m L h'.out, hH'.out]
      · rw [h] at h1
        have h' := hid h
        clear h
        go_wp2_with (first | (go_at_call 13; refine (c1'.out _).mono ?_; rintro e w1 ⟨rfl, hw1⟩; obtain rfl := hw1.symm; clear c1') | (go_at_call 13; refine (c2'.out _).mono ?_; rintro e w1 ⟨rfl, hw1⟩; obtain rfl := hw1.symm))
        refine ⟨⟨txn m A, m + m, H, hAm, by omega, rfl, rfl, rfl, ?_, trivial⟩, by simp [intOf]; omega⟩
        rw [← he'.out, mul_half' m L h'.out, txn_add, hH'.out]

end Go.Proofs.YtlaojlnndphnlaaDoor
