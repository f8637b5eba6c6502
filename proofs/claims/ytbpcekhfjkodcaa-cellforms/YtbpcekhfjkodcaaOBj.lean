/- What octet.Take returns; no statement of the seat is proved here. -/
import Derived.Test.YtbpcekhfjkodcaaOBi
namespace Go.Proofs.Ytbpcekhfjkodcaa
open Go.RowKit

/-- The number that begins a list as a Var, and how many bytes it has. -/
def takeN (xs : List Nat) : Nat × Nat := if (asm 0 8 xs).2 = szN (asm 0 8 xs).1 then asm 0 8 xs else (0, 0)

theorem asm_bound (m : Nat) : ∀ (acc : Nat) (xs : List Nat), (∀ x ∈ xs, x < 256) → m ≤ 8 → acc < 2 ^ (7 * (8 - m)) → (asm acc m xs).1 < 18446744073709551616 ∧ (asm acc m xs).2 ≤ 9 := by
  induction m with
  | zero =>
    intro acc xs hx _ ha
    cases xs with
    | nil => simp [asm]
    | cons c r =>
      have := hx c (by simp)
      simp [asm] at ha ⊢
      omega
  | succ m ih =>
    intro acc xs hx hm ha
    cases xs with
    | nil => simp [asm]
    | cons c r =>
      have hc := hx c (by simp)
      have hp : 2 ^ (7 * (8 - (m + 1))) ≤ 2 ^ 49 := Nat.pow_le_pow_right (by omega) (by omega)
      simp only [asm]
      split
      · simp; omega
      · refine ih _ r (fun x h => hx x (by simp [h])) (by omega) ?_
        have := acc_step acc (c - 128) (8 - (m + 1)) ha (by omega)
        rwa [show 8 - (m + 1) + 1 = 8 - m by omega] at this

end Go.Proofs.Ytbpcekhfjkodcaa
