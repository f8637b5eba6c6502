/- What the document's own Zig, Zag, Local and page return; no statement of the seat is proved here. -/
import Derived.Test.YtbpcekhfjkodcaaAl
namespace Go.Proofs.Ytbpcekhfjkodcaa
open Go.RowKit

set_option maxHeartbeats 400000 in
theorem rzig_any (k : Int) (h : I64 k) (w : World) : Calls Try.prog 25 #[.int .i64 k] w fun e w' => e = .returned (.int .u64 (zigN k : Nat)) ∧ w' = w := by
  obtain ⟨h1, h2⟩ := h
  by_cases hk : k < 0
  · have e1 : ((zigN k : Nat) : Int) = 2 * (-(k + 1)) + 1 := by unfold zigN; rw [if_pos hk]; omega
    rw [e1]
    go_enter Try.func25, Try.ntmps25
    go_wp2
    go_ret
    exact ⟨rfl, rfl⟩
  · have e1 : ((zigN k : Nat) : Int) = 2 * k := by unfold zigN; rw [if_neg hk]; omega
    rw [e1]
    go_enter Try.func25, Try.ntmps25
    go_wp2
    go_ret
    exact ⟨rfl, rfl⟩

set_option maxHeartbeats 400000 in
theorem rzag_any (n : Nat) (h : n < 18446744073709551616) (w : World) : Calls Try.prog 27 #[.int .u64 (n : Int)] w fun e w' => e = .returned (.int .i64 (zagN n)) ∧ w' = w := by
  by_cases hk : n % 2 = 1
  · have e1 : zagN n = -((n : Int) / 2) - 1 := by unfold zagN; rw [if_pos hk]; omega
    rw [e1]
    have h2 : ((n : Int) % 2 == 1) = true := by simp; omega
    go_enter Try.func27, Try.ntmps27
    go_wp2
    go_ret
    exact ⟨rfl, rfl⟩
  · have e1 : zagN n = (n : Int) / 2 := by unfold zagN; rw [if_neg hk]; omega
    rw [e1]
    have h2 : ((n : Int) % 2 == 1) = false := by simp; omega
    go_enter Try.func27, Try.ntmps27
    go_wp2
    go_ret
    exact ⟨rfl, rfl⟩

set_option maxHeartbeats 400000 in
theorem rpage_any (s : Int) (w : World) : Calls Try.prog 42 #[.int .i64 s] w fun e w' => e = .returned (.bool (pagedB s)) ∧ w' = w := by
  unfold pagedB
  by_cases h : 1 ≤ s <;> by_cases h' : s ≤ 4000
  all_goals
    go_enter Try.func42, Try.ntmps42
    go_wp2
    go_ret
    simp [h, h']

set_option maxHeartbeats 400000 in
theorem rlocal_any (s : Int) (w : World) : Calls Try.prog 29 #[.int .i64 s] w fun e w' => e = .returned (.int .i64 (locN s : Nat)) ∧ w' = w := by
  have hc : (s < 0 ∧ ((locN s : Nat) : Int) = 0) ∨ (0 ≤ s ∧ 20000 < s ∧ ((locN s : Nat) : Int) = 0) ∨ (0 ≤ s ∧ s ≤ 20000 ∧ 96 < s ∧ ((locN s : Nat) : Int) = 32) ∨ (0 ≤ s ∧ s ≤ 96 ∧ ((locN s : Nat) : Int) = s) := by
    unfold locN
    split
    · rename_i h; rcases h with h | h
      · left; exact ⟨h, rfl⟩
      · right; left; exact ⟨by omega, h, rfl⟩
    · split
      · right; right; left; exact ⟨by omega, by omega, by omega, rfl⟩
      · right; right; right; exact ⟨by omega, by omega, by omega⟩
  rcases hc with ⟨h1, e1⟩ | ⟨h1, h2, e1⟩ | ⟨h1, h2, h3, e1⟩ | ⟨h1, h2, e1⟩
  all_goals
    rw [e1]
    clear e1
    go_enter Try.func29, Try.ntmps29
    go_wp2
    go_ret
    exact ⟨rfl, rfl⟩

end Go.Proofs.Ytbpcekhfjkodcaa
