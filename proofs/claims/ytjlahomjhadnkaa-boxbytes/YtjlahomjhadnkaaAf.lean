/- What is counted of a shape, and asked of all in it; no statement of the seat is proved here. -/
import Derived.Test.YtjlahomjhadnkaaAe
namespace Go.Proofs.Ytjlahomjhadnkaa
open Go.RowKit Go.Maps

def partsN (l : List (Nat × Sh)) : Nat := min 1001 (l.length - 1)
def depthN (l : List (Nat × Sh)) : Nat := l.foldl (fun a x => max a x.1) 0
theorem depthN_snoc (l : List (Nat × Sh)) (k : Nat) (x : Nat × Sh) (h : l[k]? = some x) : depthN (l.take (k + 1)) = max (depthN (l.take k)) x.1 := by
  unfold depthN; rw [List.take_add_one, h]; simp
theorem depthN_mono : ∀ (l : List (Nat × Sh)) (a : Nat), a ≤ l.foldl (fun a x => max a x.1) a
  | [], a => Nat.le_refl a
  | x :: r, a => Nat.le_trans (Nat.le_max_left a x.1) (depthN_mono r (max a x.1))
theorem depthN_take (l : List (Nat × Sh)) (k : Nat) : depthN (l.take k) ≤ depthN l := by
  unfold depthN
  conv => rhs; rw [← List.take_append_drop k l, List.foldl_append]
  exact depthN_mono _ _
theorem depthN_le : ∀ (l : List (Nat × Sh)) (a b : Nat), a ≤ b → (∀ x ∈ l, x.1 ≤ b) → l.foldl (fun a x => max a x.1) a ≤ b
  | [], _, _, h, _ => h
  | x :: r, a, b, h, hx => depthN_le r (max a x.1) b (Nat.max_le.2 ⟨h, hx x (by simp)⟩) (fun y hy => hx y (by simp [hy]))
theorem flat_pos (s : Sh) (d : Nat) : 0 < (s.flat d).length := by rw [flat_eq]; simp
theorem below2 {w : World} {a b : Obj} : Below w.heap.size w ((w.alloc a).alloc b) := gt (ext1 _) (ext1 _)

attribute [local go_sem] Oper.semAt_some
end Go.Proofs.Ytjlahomjhadnkaa
