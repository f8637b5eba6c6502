/- What Zig, Zag, Local, payable and paged return, and what a cell is; no statement of the seat is proved here. -/
import Derived.Test.YtbpcekhfjkodcaaOCe
namespace Go.Proofs.Ytbpcekhfjkodcaa
open Go.RowKit

/-- A whole number as one without a sign. -/
def uN (z : Int) : Nat := (z % 18446744073709551616).toNat
def zigN (k : Int) : Nat := if k < 0 then (-(2 * k) - 1).toNat else (2 * k).toNat
def zagN (n : Nat) : Int := if n % 2 = 1 then -((n / 2 : Nat) : Int) - 1 else ((n / 2 : Nat) : Int)
def locN (l : Int) : Nat := if l < 0 ∨ 20000 < l then 0 else if 96 < l then 32 else l.toNat
def I64 (z : Int) : Prop := -9223372036854775808 ≤ z ∧ z ≤ 9223372036854775807

theorem uN_lt (z : Int) : uN z < 18446744073709551616 := by unfold uN; omega
theorem uN_wrap (z : Int) : IntKind.u64.wrap z = (uN z : Int) := by rw [IntKind.wrap_u64]; unfold uN; omega
theorem uN_pos (z : Int) (h : 0 ≤ z) (h2 : z ≤ 9223372036854775807) : uN z = z.toNat := by unfold uN; omega
theorem zigN_lt (k : Int) (h : I64 k) : zigN k < 18446744073709551616 := by unfold zigN; obtain ⟨h1, h2⟩ := h; split <;> omega
theorem zag_zig (k : Int) (h : I64 k) : zagN (zigN k) = k := by unfold zagN zigN; obtain ⟨h1, h2⟩ := h; split <;> split <;> omega
theorem zig_zag (n : Nat) : zigN (zagN n) = n := by unfold zagN zigN; split <;> split <;> omega
theorem zag_in (n : Nat) (h : n < 18446744073709551616) : I64 (zagN n) := by unfold zagN I64; split <;> omega

theorem not_any (k : Int) (h : I64 k) : bits .xor .i64 (-1) k = -k - 1 := by
  obtain ⟨h1, h2⟩ := h
  show IntKind.i64.wrap ((BitVec.ofInt 64 (-1) ^^^ BitVec.ofInt 64 k).toNat : Int) = _
  have e1 : BitVec.ofInt 64 (-1) = BitVec.allOnes 64 := by decide
  rw [e1, BitVec.allOnes_xor, BitVec.toNat_not, BitVec.toNat_ofInt, IntKind.wrap_i64]
  simp only [Nat.reducePow]
  omega

set_option maxHeartbeats 400000 in
theorem zig_any (k : Int) (h : I64 k) (w : World) : Calls Try.prog 24 #[.int .i64 k] w fun e w' => e = .returned (.int .u64 (zigN k : Nat)) ∧ w' = w := by
  obtain ⟨h1, h2⟩ := h
  by_cases hk : k < 0
  · have e1 : ((zigN k : Nat) : Int) = 2 * (-k - 1) + 1 := by unfold zigN; rw [if_pos hk]; omega
    rw [e1]
    have hn := not_any k ⟨h1, h2⟩
    go_enter Try.func24, Try.ntmps24
    go_wp2
    go_ret
    refine ⟨?_, rfl⟩
    simp
    simp only [IntKind.wrap_u64]
    omega
  · have e1 : ((zigN k : Nat) : Int) = 2 * k := by unfold zigN; rw [if_neg hk]; omega
    rw [e1]
    go_enter Try.func24, Try.ntmps24
    go_wp2
    go_ret
    exact ⟨rfl, rfl⟩

set_option maxHeartbeats 400000 in
theorem zag_any (n : Nat) (h : n < 18446744073709551616) (w : World) : Calls Try.prog 26 #[.int .u64 (n : Int)] w fun e w' => e = .returned (.int .i64 (zagN n)) ∧ w' = w := by
  by_cases hk : n % 2 = 1
  · have e1 : zagN n = -((n : Int) / 2) - 1 := by unfold zagN; rw [if_pos hk]; omega
    rw [e1]
    have h2 : ((n : Int) % 2 == 1) = true := by simp; omega
    have hn := not_any ((n : Int) / 2) ⟨by omega, by omega⟩
    go_enter Try.func26, Try.ntmps26
    go_wp2
    go_ret
    refine ⟨?_, rfl⟩
    simp
  · have e1 : zagN n = (n : Int) / 2 := by unfold zagN; rw [if_neg hk]; omega
    rw [e1]
    have h2 : ((n : Int) % 2 == 1) = false := by simp; omega
    go_enter Try.func26, Try.ntmps26
    go_wp2
    go_ret
    exact ⟨rfl, rfl⟩

set_option maxHeartbeats 400000 in
theorem payable_any (s : Int) (w : World) : Calls Try.prog 49 #[.int .i64 s] w fun e w' => e = .returned (.bool (decide (0 ≤ s) && decide (s ≤ 20000))) ∧ w' = w := by
  by_cases h : 0 ≤ s <;> by_cases h' : s ≤ 20000
  all_goals
    go_enter Try.func49, Try.ntmps49
    go_wp2
    go_ret
    simp [h, h']

set_option maxHeartbeats 400000 in
theorem paged_any (s : Int) (w : World) : Calls Try.prog 40 #[.int .i64 s] w fun e w' => e = .returned (.bool (decide (1 ≤ s) && decide (s ≤ 4000))) ∧ w' = w := by
  by_cases h : 1 ≤ s <;> by_cases h' : s ≤ 4000
  all_goals
    go_enter Try.func40, Try.ntmps40
    go_wp2
    go_ret
    simp [h, h']

set_option maxHeartbeats 400000 in
theorem local_any (s : Int) (w : World) : Calls Try.prog 28 #[.int .i64 s] w fun e w' => e = .returned (.int .i64 (locN s : Nat)) ∧ w' = w := by
  have cp := hid (payable_any s)
  by_cases h : 0 ≤ s ∧ s ≤ 20000
  · rw [show (decide (0 ≤ s) && decide (s ≤ 20000)) = true by simp; omega] at cp
    by_cases h' : 96 < s
    · have e1 : ((locN s : Nat) : Int) = 32 := by unfold locN; rw [if_neg (by omega), if_pos h']; rfl
      rw [e1]
      go_enter Try.func28, Try.ntmps28
      go_wp2_with (go_at_call 49; refine (cp.out _).mono ?_; rintro e w1 ⟨rfl, h1⟩; obtain rfl := h1.symm)
      go_ret
      exact ⟨rfl, rfl⟩
    · have e1 : ((locN s : Nat) : Int) = s := by unfold locN; rw [if_neg (by omega), if_neg h']; omega
      rw [e1]
      go_enter Try.func28, Try.ntmps28
      go_wp2_with (go_at_call 49; refine (cp.out _).mono ?_; rintro e w1 ⟨rfl, h1⟩; obtain rfl := h1.symm)
      go_ret
      exact ⟨rfl, rfl⟩
  · rw [show (decide (0 ≤ s) && decide (s ≤ 20000)) = false by simp; omega] at cp
    have e1 : ((locN s : Nat) : Int) = 0 := by unfold locN; rw [if_pos (by omega)]; rfl
    rw [e1]
    go_enter Try.func28, Try.ntmps28
    go_wp2_with (go_at_call 49; refine (cp.out _).mono ?_; rintro e w1 ⟨rfl, h1⟩; obtain rfl := h1.symm)
    go_ret
    exact ⟨rfl, rfl⟩

end Go.Proofs.Ytbpcekhfjkodcaa
