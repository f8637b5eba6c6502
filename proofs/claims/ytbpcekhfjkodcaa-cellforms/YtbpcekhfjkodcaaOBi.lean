/- What assemble and gather do with a function that tells bytes; no statement of the seat is proved here. -/
import Derived.Test.YtbpcekhfjkodcaaOBh
namespace Go.Proofs.Ytbpcekhfjkodcaa
open Go.RowKit

/-- The Var that begins a list, be it the shortest or not, and how many bytes it has; k: how many bytes with a mark may still come. -/
def asm (acc : Nat) : Nat → List Nat → Nat × Nat
  | 0, [] => (0, 0)
  | 0, c :: _ => (acc * 256 + c, 9)
  | _ + 1, [] => (0, 0)
  | k + 1, c :: r => if c < 128 then (acc * 128 + c, 8 - k) else asm (acc * 128 + (c - 128)) k r

theorem getD_lt {xs : List Nat} (h : ∀ x ∈ xs, x < 256) (i : Nat) (hi : i < xs.length) : xs.getD i 0 < 256 := by
  rw [List.getD_eq_getElem?_getD, List.getElem?_eq_getElem hi]
  exact h _ (List.getElem_mem hi)

theorem drop_getD (xs : List Nat) (i : Nat) (hi : i < xs.length) : xs.drop i = xs.getD i 0 :: xs.drop (i + 1) := by
  rw [List.drop_eq_getElem_cons hi, List.getD_eq_getElem?_getD, List.getElem?_eq_getElem hi]
  rfl

theorem wraps_u64 (n : Int) (h0 : 0 ≤ n) (h1 : n < 2 ^ 64) : IntKind.u64.wrap n = n := by rw [IntKind.wrap_u64]; omega

theorem or_join (a x k : Nat) (hx : x < 2 ^ k) (h : a * 2 ^ k + x < 18446744073709551616) : bits .or .u64 ((a : Int) * ((2 ^ k : Nat) : Int)) (x : Int) = ((a * 2 ^ k + x : Nat) : Int) := by
  have h1 := (bits_nat .u64 64 (by decide) wraps_u64 (a * 2 ^ k) x (by omega) (by omega)).2
  rw [Int.natCast_mul] at h1
  rw [h1, Nat.mul_comm a, ← Nat.two_pow_add_eq_or_of_lt hx a]

theorem or7 (a x : Nat) (hx : x < 128) (h : a < 144115188075855872) : bits .or .u64 ((a : Int) * 128) (x : Int) = ((a * 128 + x : Nat) : Int) := by
  simpa using or_join a x 7 (by omega) (by omega)

theorem or8 (a x : Nat) (hx : x < 256) (h : a < 72057594037927936) : bits .or .u64 ((a : Int) * 256) (x : Int) = ((a * 256 + x : Nat) : Int) := by
  simpa using or_join a x 8 (by omega) (by omega)

theorem acc_step (a y i : Nat) (h : a < 2 ^ (7 * i)) (hy : y < 128) : a * 128 + y < 2 ^ (7 * (i + 1)) := by
  rw [show 7 * (i + 1) = 7 * i + 7 by omega, Nat.pow_add]
  omega

end Go.Proofs.Ytbpcekhfjkodcaa
