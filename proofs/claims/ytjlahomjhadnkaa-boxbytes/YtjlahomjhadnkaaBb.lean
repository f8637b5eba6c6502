/- Shapes are compared, as the document has it; no statement of the seat is proved here. -/
import Derived.Test.YtjlahomjhadnkaaBa
namespace Go.Proofs.Ytjlahomjhadnkaa
open Go.RowKit Go.Maps

mutual
def eqS : Sh → Sh → Bool
  | .mk k _ _ _ xy _ _ _ ps, .mk k' _ _ _ xy' _ _ _ ps' => (k == k') && ((xy == xy') && eqL ps ps')
def eqL : List Sh → List Sh → Bool
  | [], [] => true
  | p :: r, q :: r' => eqS p q && eqL r r'
  | [], _ :: _ => false
  | _ :: _, [] => false
end
theorem eqS_eq (a b : Sh) : eqS a b = ((a.k == b.k) && ((a.xy == b.xy) && eqL a.ps b.ps)) := by cases a; cases b; rw [eqS]; rfl
theorem eqL_len : ∀ {a b : List Sh}, a.length ≠ b.length → eqL a b = false
  | [], [], h => absurd rfl h
  | p :: r, q :: r', h => by rw [eqL, eqL_len (a := r) (b := r') (by simpa using h), Bool.and_false]
  | [], _ :: _, _ => by rw [eqL]
  | _ :: _, [], _ => by rw [eqL]
theorem eqL_cons (p q : Sh) (r r' : List Sh) : eqL (p :: r) (q :: r') = (eqS p q && eqL r r') := by rw [eqL]
theorem eqL_nil : eqL [] [] = true := by rw [eqL]

def QxI (a b : Sh) (w : World) (c : Value) (W : World) : Prop := ∃ i : Nat, i ≤ a.xn ∧ c = .int .i64 (i : Int) ∧ Hid ((a.xy == b.xy) = (a.xy.drop i == b.xy.drop i)) ∧ Hid (Below w.heap.size w W) ∧ Hid (Bx W w.heap.size a) ∧ Hid (Bx W (w.heap.size + 1) b)
def QpI (a b : Sh) (w : World) (c : Value) (W : World) : Prop := ∃ i : Nat, i ≤ a.pn ∧ c = .int .i64 (i : Int) ∧ Hid (eqL a.ps b.ps = eqL (a.ps.drop i) (b.ps.drop i)) ∧ Hid (Below w.heap.size w W) ∧ Hid (Bx W w.heap.size a) ∧ Hid (Bx W (w.heap.size + 1) b)

end Go.Proofs.Ytjlahomjhadnkaa
