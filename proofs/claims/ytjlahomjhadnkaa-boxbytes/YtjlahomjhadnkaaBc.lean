/- Shapes are compared by the program; no statement of the seat is proved here. -/
import Derived.Test.YtjlahomjhadnkaaBb
import Derived.Test.YtjlahomjhadnkaaAs
namespace Go.Proofs.Ytjlahomjhadnkaa
open Go.RowKit Go.Maps

theorem Bx.new2 (w : World) (o : Obj) (s : Sh) : Bx ((w.alloc o).alloc (.cells #[.int .i64 (s).k, .slice (s).xo (s).xn (s).xc, .slice (s).po (s).pn (s).pc] 45)) (w.heap.size + 1) s := by have h := Bx.new (w.alloc o) s; rw [World.size_alloc] at h; exact h
def EfI (ps qs : List Sh) (n : Nat) (w : World) (c : Value) (W : World) : Prop := ∃ i : Nat, i ≤ n ∧ c = .int .i64 (i : Int) ∧ Hid (eqL ps qs = eqL (ps.drop i) (qs.drop i)) ∧ Hid (Below w.heap.size w W)
/-- A box of a number. -/
def Nx (w : World) (b : Nat) (d : Int) : Prop := w.heap[b]? = some (.cells #[.int .i64 d] 3)
theorem Nx.cell {w : World} {b : Nat} {d : Int} (h : Nx w b d) : w.cell? ⟨b, 0, none⟩ = some (.int .i64 d) := by unfold Nx at h; simp [World.cell?, h]
theorem Nx.lt {w : World} {b : Nat} {d : Int} (h : Nx w b d) : b < w.heap.size := (Array.getElem?_eq_some_iff.1 h).1
theorem Nx.keep {w w' : World} {b : Nat} {d : Int} (h : Nx w b d) (hb : Below w.heap.size w w') : Nx w' b d := (hb.block b h.lt).trans h
end Go.Proofs.Ytjlahomjhadnkaa
