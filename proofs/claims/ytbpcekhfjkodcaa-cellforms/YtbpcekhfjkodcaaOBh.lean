/- What teller and the function that it returns do; no statement of the seat is proved here. -/
import Derived.Test.YtbpcekhfjkodcaaOBe
import Derived.OneCell
namespace Go.Proofs.Ytbpcekhfjkodcaa
open Go.RowKit

/-- The two cells of a teller: how many bytes it has told, and its bytes. -/
def Tell (w : World) (pa pb : Nat) (ao : Option Addr) (n cap k : Nat) (W : World) : Prop :=
  W.heap[pa]? = some (.cells #[.int .i64 (k : Int)] 3 (0, 0)) ∧ W.heap[pb]? = some (.cells #[.slice ao n cap] 25 (0, 0)) ∧ w.heap.size ≤ pa ∧ Below w.heap.size w W

end Go.Proofs.Ytbpcekhfjkodcaa
