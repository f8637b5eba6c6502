/- What the document asks of a shape and all in it; no statement of the seat is proved here. -/
import Derived.Test.YtjlahomjhadnkaaAp
namespace Go.Proofs.Ytjlahomjhadnkaa
open Go.RowKit Go.Maps

theorem nodesL_all (f : Sh → Bool) (l : List Sh) : (nodesL l).all f = l.all fun p => p.nodes.all f := by
  induction l with
  | nil => rw [nodesL]; rfl
  | cons a r ih => rw [nodesL, List.all_append, ih]; rfl
/-- May a part of that kind be in a shape of that? -/
def ok2 (a b : Int) : Bool := if a = 7 then decide (1 ≤ b) else b == partK a
def own9 (q : Sh) : Bool := fitB q && q.ps.all fun p => ok2 q.k p.k
def rightB (s : Sh) : Bool := s.nodes.all own9
theorem all_both {α : Type} (f g : α → Bool) (l : List α) : (l.all f && l.all g) = l.all fun x => f x && g x := by
  induction l with
  | nil => rfl
  | cons a r ih =>
    simp only [List.all_cons]
    rw [← ih]
    cases f a <;> cases g a <;> simp
theorem rightB_eq (s : Sh) : rightB s = (fitB s && s.ps.all fun p => ok2 s.k p.k && rightB p) := by
  unfold rightB
  rw [nodes_eq, List.all_cons, nodesL_all, ← all_both]
  unfold own9
  rw [Bool.and_assoc]
theorem fitB_le {s : Sh} (h : fitB s = true) : s.k ≤ 7 := by
  unfold fitB at h
  split at h
  · omega
  · split at h
    · omega
    · split at h
      · omega
      · simp at h; omega
def RtI (s : Sh) (w : World) (c : Value) (W : World) : Prop := ∃ i : Nat, i ≤ s.pn ∧ c = .int .i64 (i : Int) ∧ Hid (rightB s = (s.ps.drop i).all fun p => ok2 s.k p.k && rightB p) ∧ Hid (Below w.heap.size w W) ∧ Hid (Bx W w.heap.size s)

end Go.Proofs.Ytjlahomjhadnkaa
