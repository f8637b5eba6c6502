/- What is asked of a shape and all in it, and Check; no statement of the seat is proved here. -/
import Derived.Test.YtjlahomjhadnkaaAh
namespace Go.Proofs.Ytjlahomjhadnkaa
open Go.RowKit Go.Maps

def allB (f : Sh → Bool) (l : List (Nat × Sh)) : Bool := l.all fun x => f x.2
theorem allB_snoc (f : Sh → Bool) (l : List (Nat × Sh)) (k : Nat) (x : Nat × Sh) (h : l[k]? = some x) : allB f (l.take (k + 1)) = (allB f (l.take k) && f x.2) := by
  unfold allB; rw [List.take_add_one, h]; simp
theorem allB_false (f : Sh → Bool) (l : List (Nat × Sh)) (k : Nat) (x : Nat × Sh) (h : l[k]? = some x) (hx : f x.2 = false) : allB f l = false := by
  unfold allB
  rw [List.all_eq_false]
  exact ⟨x, List.mem_of_getElem? h, by simp [hx]⟩
theorem Own.below {N : Nat} {w0 : World} {bs : List (Nat × Obj)} {G : Nat → Prop} {V V' : World} (h : Own N w0 bs G V) (hN : N ≤ w0.heap.size) (hb : Below V.heap.size V V') : Own N w0 bs G V' ∧ Sm G V V' :=
  ⟨(own_cns N w0 hN bs).mv _ _ _ _ h (Fr.of_below hb) fun _ hi => .inl hi, (Fr.of_below (S := fun _ => False) hb).sm fun i hi => ⟨(h.2.1 i hi).1.2, fun h => h⟩⟩
/-- A box below is another one. -/
theorem Own.less1 {N : Nat} {w0 : World} {bs bs' : List (Nat × Obj)} {G : Nat → Prop} {V : World} (h : Own N w0 bs G V) (hs : ∀ x ∈ bs', x ∈ bs) : Own N w0 bs' G V := ⟨h.1, fun i hi => ⟨(h.2.1 i hi).1, fun x hx => (h.2.1 i hi).2 x (hs x hx)⟩, fun x hx => h.2.2 x (hs x hx)⟩

attribute [local go_sem] Oper.semAt_some

end Go.Proofs.Ytjlahomjhadnkaa
