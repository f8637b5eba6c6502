/- What shift, sized and both functions Size return; no statement of the seat is proved here. -/
import Derived.Test.YtbpcekhfjkodcaaOBa
import Derived.Test.YtbpcekhfjkodcaaOLen
namespace Go.Proofs.Ytbpcekhfjkodcaa
open Go.RowKit

/-- How many bytes a number has as a Var. -/
def szN (n : Nat) : Nat :=
  if n < 128 then 1 else if n < 16384 then 2 else if n < 2097152 then 3 else if n < 268435456 then 4 else if n < 34359738368 then 5 else if n < 4398046511104 then 6
  else if n < 562949953421312 then 7 else if n < 72057594037927936 then 8 else 9

theorem szN_cases (n : Nat) : (n < 128 ∧ szN n = 1) ∨ (128 ≤ n ∧ n < 16384 ∧ szN n = 2) ∨ (16384 ≤ n ∧ n < 2097152 ∧ szN n = 3) ∨ (2097152 ≤ n ∧ n < 268435456 ∧ szN n = 4) ∨ (268435456 ≤ n ∧ n < 34359738368 ∧ szN n = 5) ∨
    (34359738368 ≤ n ∧ n < 4398046511104 ∧ szN n = 6) ∨ (4398046511104 ≤ n ∧ n < 562949953421312 ∧ szN n = 7) ∨ (562949953421312 ≤ n ∧ n < 72057594037927936 ∧ szN n = 8) ∨ (72057594037927936 ≤ n ∧ szN n = 9) := by
  unfold szN
  (repeat' split) <;> omega
theorem szN_le (n : Nat) : 1 ≤ szN n ∧ szN n ≤ 9 := by have := szN_cases n; omega
theorem szN_9 (n : Nat) : szN n = 9 ↔ 72057594037927936 ≤ n := by have := szN_cases n; omega
theorem szN_lt (n k : Nat) (h : k < szN n) (hk : 1 ≤ k) (hk' : k ≤ 8) : 2 ^ (7 * k) ≤ n := by
  have e : k = 1 ∨ k = 2 ∨ k = 3 ∨ k = 4 ∨ k = 5 ∨ k = 6 ∨ k = 7 ∨ k = 8 := by omega
  have := szN_cases n
  rcases e with rfl | rfl | rfl | rfl | rfl | rfl | rfl | rfl <;> simp at h ⊢ <;> omega
theorem szN_ge (n k : Nat) (h : szN n ≤ k) (hk : k ≤ 8) : n < 2 ^ (7 * k) := by
  have e : k = 0 ∨ k = 1 ∨ k = 2 ∨ k = 3 ∨ k = 4 ∨ k = 5 ∨ k = 6 ∨ k = 7 ∨ k = 8 := by omega
  have := szN_cases n
  rcases e with rfl | rfl | rfl | rfl | rfl | rfl | rfl | rfl | rfl <;> simp only [Nat.reduceMul, Nat.reducePow] <;> omega
theorem szN_of (n k : Nat) (h1 : k = 1 ∨ 2 ^ (7 * (k - 1)) ≤ n) (h2 : n < 2 ^ (7 * k)) (hk : 1 ≤ k) (hk' : k ≤ 8) : szN n = k := by
  have e : k = 1 ∨ k = 2 ∨ k = 3 ∨ k = 4 ∨ k = 5 ∨ k = 6 ∨ k = 7 ∨ k = 8 := by omega
  have := szN_cases n
  rcases e with rfl | rfl | rfl | rfl | rfl | rfl | rfl | rfl <;> simp at h1 h2 <;> omega

set_option maxHeartbeats 400000 in
theorem sized_any (s : Int) (w : World) : Calls Try.prog 72 #[.int .i64 s] w fun e w' => e = .returned (.bool (decide (1 ≤ s) && decide (s ≤ 8))) ∧ w' = w := by
  by_cases h : 1 ≤ s <;> by_cases h' : s ≤ 8
  all_goals
    go_enter Try.func72, Try.ntmps72
    go_wp2
    go_ret
    simp [h, h']

set_option maxHeartbeats 400000 in
theorem shift_little (i s : Nat) (w : World) (h : i < 8) :
    Calls Try.prog 82 #[.int .i64 i, .int .i64 s, .bool true] w fun e w' => e = .returned (.int .i64 (8 * (i : Int))) ∧ w' = w := by
  go_enter Try.func82, Try.ntmps82
  go_wp2
  go_ret
  exact ⟨rfl, rfl⟩

set_option maxHeartbeats 400000 in
theorem shift_big (i s : Nat) (w : World) (h : i < s) (h' : s ≤ 8) :
    Calls Try.prog 82 #[.int .i64 i, .int .i64 s, .bool false] w fun e w' => e = .returned (.int .i64 (8 * ((s - 1 - i : Nat) : Int))) ∧ w' = w := by
  obtain ⟨j, hj⟩ : ∃ j : Nat, s = i + 1 + j := ⟨s - 1 - i, by omega⟩
  subst hj
  rw [show i + 1 + j - 1 - i = j by omega]
  go_enter Try.func82, Try.ntmps82
  go_wp2
  go_ret
  refine ⟨?_, rfl⟩
  simp
  omega

theorem len_nat (n : Nat) (hn : n < 18446744073709551616) (w : World) : Calls Try.prog 81 #[.int .u64 (n : Int)] w fun e w' => e = .returned (.int .i64 (Lib.bitLen n : Nat)) ∧ w' = w := by
  have := len64_any (n : Int) w (by omega) (by omega)
  simpa using this

theorem bitLen_pos (x : Nat) (h0 : x ≠ 0) (h : x < 18446744073709551616) : 1 ≤ Lib.bitLen x := by
  rw [Lib.bitLen_half x h0 h]; omega

theorem bitLen_ge (n k : Nat) (h : 2 ^ k ≤ n) (hn : n < 18446744073709551616) : k + 1 ≤ Lib.bitLen n := by
  have hp : 0 < 2 ^ k := Nat.pow_pos (by omega)
  rw [Lib.bitLen_shift k n h hn]
  have h1 : n / 2 ^ k ≠ 0 := by
    intro h0
    rw [Nat.div_eq_zero_iff] at h0
    omega
  have := bitLen_pos (n / 2 ^ k) h1 (Nat.lt_of_le_of_lt (Nat.div_le_self _ _) hn)
  omega

theorem sz_len (n : Nat) (h : n < 72057594037927936) : szN n = max ((Lib.bitLen n + 6) / 7) 1 := by
  have up := fun k hk hl => Lib.bitLen_le n k hk hl
  have dn := fun k hk => bitLen_ge n k hk (by omega)
  rcases szN_cases n with ⟨h1, e⟩ | ⟨h0, h1, e⟩ | ⟨h0, h1, e⟩ | ⟨h0, h1, e⟩ | ⟨h0, h1, e⟩ | ⟨h0, h1, e⟩ | ⟨h0, h1, e⟩ | ⟨h0, h1, e⟩ | ⟨h0, e⟩
  · have := up 7 (by omega) h1
    omega
  · have := up 14 (by omega) h1
    have := dn 7 h0
    omega
  · have := up 21 (by omega) h1
    have := dn 14 h0
    omega
  · have := up 28 (by omega) h1
    have := dn 21 h0
    omega
  · have := up 35 (by omega) h1
    have := dn 28 h0
    omega
  · have := up 42 (by omega) h1
    have := dn 35 h0
    omega
  · have := up 49 (by omega) h1
    have := dn 42 h0
    omega
  · have := up 56 (by omega) h1
    have := dn 49 h0
    omega
  · omega

set_option maxHeartbeats 400000 in
theorem size_any (n : Nat) (hn : n < 18446744073709551616) (w : World) : Calls Try.prog 68 #[.int .u64 (n : Int)] w fun e w' => e = .returned (.int .i64 (szN n : Nat)) ∧ w' = w := by
  by_cases h : n < 72057594037927936
  · have e1 : (n : Int) / 72057594037927936 = 0 := by omega
    have hl := len_nat n hn
    have hb := Lib.bitLen_le n 64 (by omega) hn
    have e2 := sz_len n h
    generalize Lib.bitLen n = l at *
    have e3 : ((szN n : Nat) : Int) = max (((l : Int) + 6) / 7) 1 := by rw [e2]; omega
    rw [e3]
    clear e2 e3
    go_enter Try.func68, Try.ntmps68
    go_wp2_with (go_at_call 81; refine (hl _).mono ?_; rintro e w1 ⟨rfl, rfl⟩)
    all_goals (go_ret; exact ⟨rfl, rfl⟩)
  · have e1 : ((n : Int) / 72057594037927936 == 0) = false := by simp; omega
    have e2 := (szN_9 n).2 (by omega)
    rw [e2]
    go_enter Try.func68, Try.ntmps68
    go_wp2
    all_goals (go_ret; exact ⟨rfl, rfl⟩)

end Go.Proofs.Ytbpcekhfjkodcaa
