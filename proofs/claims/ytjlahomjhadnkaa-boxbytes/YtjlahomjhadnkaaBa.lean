/- Rows of points are compared; no statement of the seat is proved here. -/
import Derived.Test.YtjlahomjhadnkaaAr
namespace Go.Proofs.Ytjlahomjhadnkaa
open Go.RowKit Go.Maps

theorem eq_len {α : Type} [BEq α] [LawfulBEq α] {a b : List α} (h : a.length ≠ b.length) : (a == b) = false := by
  rw [Bool.eq_false_iff]
  intro h2
  exact h (by rw [eq_of_beq h2])
def SmI (xs ys : List (Int × Int)) (n : Nat) (w : World) (c : Value) (W : World) : Prop := ∃ i : Nat, i ≤ n ∧ c = .int .i64 (i : Int) ∧ Hid ((xs == ys) = (xs.drop i == ys.drop i)) ∧ Hid (Below w.heap.size w W)
end Go.Proofs.Ytjlahomjhadnkaa
